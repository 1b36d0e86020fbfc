package tests

import (
	"math/rand"
	"slices"
	"strconv"
	"testing"

	"loop.example/g00702/impl"
)

func TestFarMessages(t *testing.T) {
	a, b := startPair(t)
	list := writeMany(t, &a, "m", 40)
	for _, first := range []int{0, 1, 5} {
		s := b
		for i := range first {
			read(t, &s, list[i], 4, "m"+strconv.Itoa(i))
		}
		for _, ahead := range []int{9, 10, 20} {
			checkOpenCode(t, "a far message", s, list[first+ahead], impl.SnSkip)
		}
		read(t, &s, list[first+8], 4, "m"+strconv.Itoa(first+8))
		checkSkips(t, "behind a message 8 beyond", s, 8)
		if s.RecvN != int64(first)+9 {
			t.Errorf("RecvN is %d", s.RecvN)
		}
		checkOpenCode(t, "a message 9 beyond", s, list[first+9+9], impl.SnSkip)
	}
}

// endedChain returns a session that has read the first messages of a chain, all messages of it, and messages of the next chain.
func endedChain(t *testing.T, first int, written int, more int) (impl.Session, []impl.Msg, []impl.Msg) {
	t.Helper()
	a, b := startPair(t)
	old := writeMany(t, &a, "old", written)
	for i := range first {
		read(t, &b, old[i], 4, "old"+strconv.Itoa(i))
	}
	answered(t, &a, &b, 5)
	return b, old, writeMany(t, &a, "new", more)
}

func TestFarEndOfAChain(t *testing.T) {
	for _, first := range []int{1, 2, 6} {
		b, old, list := endedChain(t, first, first+8, 10)
		checkOpenCode(t, "a far message of the new chain", b, list[9], impl.SnSkip)
		read(t, &b, list[8], 6, "new8")
		checkSkips(t, "with two chains skipped", b, 16)
		for i := first; i < len(old); i++ {
			read(t, &b, old[i], 7, "old"+strconv.Itoa(i))
		}
		for i := range 8 {
			read(t, &b, list[i], 7, "new"+strconv.Itoa(i))
		}
		checkSkips(t, "with all messages read", b, 0)
		read(t, &b, list[9], 7, "new9")

		b, old, list = endedChain(t, first, first+9, 1)
		checkOpenCode(t, "a message behind a far end", b, list[0], impl.SnSkip)
		read(t, &b, old[first], 6, "old"+strconv.Itoa(first))
		read(t, &b, list[0], 6, "new0")
		checkSkips(t, "with the chain read one further", b, 8)
	}
}

// The end of the chain is too far, so a message that would be too far in the new one is not looked for.
func TestFarEndBeforeFarMessage(t *testing.T) {
	b, _, list := endedChain(t, 1, 10, 10)
	for _, m := range list {
		checkOpenCode(t, "a message behind a far end", b, m, impl.SnSkip)
	}
}

func TestMessagesOfAnEndedChain(t *testing.T) {
	b, old, list := endedChain(t, 1, 4, 2)
	read(t, &b, old[2], 6, "old2")
	read(t, &b, list[1], 6, "new1")
	checkSkips(t, "in the new chain", b, 3)
	// The messages that were read have another public key than the present chain, and are taken for the first ones of a new chain.
	checkOpenCode(t, "a read message of the ended chain", b, old[0], impl.SnAuth)
	checkOpenCode(t, "a read message of the ended chain", b, old[2], impl.SnAuth)
	read(t, &b, old[3], 7, "old3")
	read(t, &b, old[1], 7, "old1")
	for _, m := range old {
		checkOpenCode(t, "a message of the ended chain, again", b, m, impl.SnAuth)
	}
	checkSkips(t, "behind the ended chain", b, 1)
	read(t, &b, list[0], 7, "new0")
}

func TestFarMessagesOfAnEndedChain(t *testing.T) {
	a, b := startPair(t)
	old := writeMany(t, &a, "old", 12)
	for i, m := range old {
		read(t, &b, m, 4, "old"+strconv.Itoa(i))
	}
	answered(t, &a, &b, 5)
	read(t, &b, write(t, &a, "new"), 6, "new")
	for i, m := range old {
		want := int64(impl.SnAuth)
		if i > 8 {
			want = impl.SnSkip
		}
		checkOpenCode(t, "a message of the ended chain", b, m, want)
	}
	// The Prev of such a message is skipped to in the present chain.
	m := old[0]
	m.Head.Prev = b.RecvN + 8
	checkOpenCode(t, "a message with a near Prev", b, m, impl.SnAuth)
	m.Head.Prev = b.RecvN + 9
	checkOpenCode(t, "a message with a far Prev", b, m, impl.SnSkip)
}

// A chain was read further than the Prev that a message states: nothing is skipped, and the message is read.
func TestPrevBehindTheChain(t *testing.T) {
	for _, prev := range []int64{0, 1, 2, 3} {
		a, b := startPair(t)
		for i, m := range writeMany(t, &a, "old", 3) {
			read(t, &b, m, 4, "old"+strconv.Itoa(i))
		}
		answered(t, &a, &b, 5)
		a.Prev = prev
		read(t, &b, write(t, &a, "new"), 6, "new")
		checkSkips(t, "behind a small Prev", b, 0)
	}
}

func TestEndOfTheNumbers(t *testing.T) {
	a, b := startPair(t)
	read(t, &b, write(t, &a, "hello"), 4, "hello")
	a.SendN, b.RecvN = 991, 991
	list := writeMany(t, &a, "m", 9)
	for _, i := range []int{8, 0} {
		s := b
		read(t, &s, list[i], 5, "m"+strconv.Itoa(i))
		checkSkips(t, "near the last index", s, i)
	}
	read(t, &b, list[8], 5, "m8")
	if b.RecvN != 1000 {
		t.Errorf("RecvN is %d", b.RecvN)
	}
	checkOpenCode(t, "the last message, again", b, list[8], impl.SnOld)
	for i, m := range list[:8] {
		read(t, &b, m, 5, "m"+strconv.Itoa(i))
		checkOpenCode(t, "one of the last messages, again", b, m, impl.SnOld)
	}
}

// The largest Prev is reached from RecvN 992, and not from 991.
func TestLargestPrev(t *testing.T) {
	for _, from := range []int64{991, 992, 999, 1000} {
		a, b := startPair(t)
		read(t, &b, write(t, &a, "hello"), 4, "hello")
		answered(t, &a, &b, 5)
		a.Prev, b.RecvN = 1000, from
		m := write(t, &a, "new")
		if from < 992 {
			checkOpenCode(t, "a message with a far Prev", b, m, impl.SnSkip)
			continue
		}
		read(t, &b, m, 6, "new")
		checkSkips(t, "with the largest Prev", b, int(1000-from))
	}
}

// Three chains with eight skipped messages each: the first four of them are forgotten.
func TestManySkippedKeys(t *testing.T) {
	a, b := startPair(t)
	chains := [][]impl.Msg{}
	for i := range int64(3) {
		list := writeMany(t, &a, "m", 9)
		chains = append(chains, list)
		read(t, &b, list[8], 10+2*i, "m8")
		checkSkips(t, "behind a chain", b, min(20, 8+8*int(i)))
		answered(t, &a, &b, 11+2*i)
	}
	for i, skip := range b.Skips {
		m := chains[(i+4)/8][(i+4)%8]
		if skip.Pub != m.Head.Pub || skip.N != m.Head.N {
			t.Errorf("the Skip %d is %d of another chain or index", i, skip.N)
		}
	}
	for i := range 24 {
		m := chains[i/8][i%8]
		if i < 4 {
			checkOpenCode(t, "a forgotten message", b, m, impl.SnAuth)
			continue
		}
		read(t, &b, m, 30, "m"+strconv.Itoa(i%8))
		checkSkips(t, "behind a skipped message", b, 23-i)
	}
}

// In one chain, the forgotten messages are old.
func TestManySkippedKeysOfOneChain(t *testing.T) {
	a, b := startPair(t)
	list := writeMany(t, &a, "m", 27)
	for _, i := range []int{8, 17, 26} {
		read(t, &b, list[i], 4, "m"+strconv.Itoa(i))
	}
	checkSkips(t, "in one chain", b, 20)
	for i, m := range list {
		switch {
		case i < 4 || i%9 == 8:
			checkOpenCode(t, "a forgotten or read message", b, m, impl.SnOld)
		default:
			read(t, &b, m, 5, "m"+strconv.Itoa(i))
		}
	}
	checkSkips(t, "with all read", b, 0)
}

// A Skip of the same message is replaced by the one of the chain, which is then the last one.
func TestSkipIsReplaced(t *testing.T) {
	for _, others := range []int{0, 3, 19} {
		a, b := startPair(t)
		list := writeMany(t, &a, "m", 3)
		read(t, &b, list[0], 4, "m0")
		stale := impl.Skip{Pub: a.Pub, N: 1, Key: text(32, 50)}
		b.Skips = append([]impl.Skip{stale}, someSkips(others)...)
		checkOpenCode(t, "a message with a wrong Skip", b, list[1], impl.SnAuth)
		first := append([]impl.Skip{}, b.Skips[1:]...)
		read(t, &b, list[2], 5, "m2")
		if len(b.Skips) != others+1 || !slices.Equal(b.Skips[:others], first) || b.Skips[others].N != 1 {
			t.Errorf("the Skips are %#v", b.Skips)
		}
		read(t, &b, list[1], 5, "m1")
	}
}

// A Skip goes before the chain: the chain does not move, and a wrong Skip hides the right key of the chain.
func TestSkipBeforeChain(t *testing.T) {
	a, b := startPair(t)
	list := writeMany(t, &a, "m", 12)
	read(t, &b, list[0], 4, "m0")
	for _, n := range []int{1, 4, 11} {
		s := b
		s.Skips = []impl.Skip{{Pub: a.Pub, N: int64(n), Key: impl.ChainKey(b.RecvKey, int64(n-1))}}
		before := copied(s)
		read(t, &s, list[n], 5, "m"+strconv.Itoa(n))
		before.Skips = nil
		if !sameSession(s, before) {
			t.Errorf("more than the Skip has changed: %#v", s)
		}
		s.Skips = []impl.Skip{{Pub: a.Pub, N: int64(n), Key: text(32, 50)}}
		checkOpenCode(t, "a message with a wrong Skip", s, list[n], impl.SnAuth)
	}
}

// Skips that differ in the public key or in the index alone are those of other messages.
func TestSkipOfAnotherMessage(t *testing.T) {
	a, b := startPair(t)
	list := writeMany(t, &a, "m", 3)
	read(t, &b, list[1], 4, "m1")
	right := b.Skips[0]
	for _, skip := range []impl.Skip{{Pub: text(32, 50), N: 0, Key: right.Key}, {Pub: right.Pub, N: 1000, Key: right.Key}} {
		s := b
		s.Skips = []impl.Skip{skip}
		checkOpenCode(t, "a message without its Skip", s, list[0], impl.SnOld)
		read(t, &s, list[2], 5, "m2")
		checkSkips(t, "with the Skip of another message", s, 1)
	}
}

// checkNoTrace changes a message in every byte, and reads it afterwards.
func checkNoTrace(t *testing.T, s impl.Session, m impl.Msg, want string) {
	t.Helper()
	bytes := impl.MsgBytes(m)
	for i := range len(bytes) {
		bad, ok := impl.ReadMsg(flipped(bytes, i, i%8))
		if !ok {
			continue
		}
		if _, _, code := openFrom(t, s, someAd, bad, impl.KeyFrom(8)); code == impl.SnOk {
			t.Errorf("a message with the byte %d changed is read", i)
		}
	}
	for i := range len(someAd) {
		if _, _, code := openFrom(t, s, flipped(someAd, i, 0), m, impl.KeyFrom(8)); code != impl.SnAuth {
			t.Errorf("a message with other associated data: code %d", code)
		}
	}
	for _, sealed := range []string{m.Sealed[1:], m.Sealed + "x", flipped(m.Sealed, 0, 0), flipped(m.Sealed, len(m.Sealed)-1, 7)} {
		bad := impl.Msg{Head: m.Head, Sealed: sealed}
		checkOpenCode(t, "a changed message", s, bad, impl.SnAuth)
	}
	read(t, &s, m, 8, want)
}

func TestRejectedMessagesLeaveNoTrace(t *testing.T) {
	a, b := startPair(t)
	list := writeMany(t, &a, "m", 6)
	checkNoTrace(t, b, list[0], "m0")
	checkNoTrace(t, b, list[5], "m5")
	read(t, &b, list[2], 4, "m2")
	checkNoTrace(t, b, list[1], "m1")
	checkNoTrace(t, b, list[3], "m3")
	checkNoTrace(t, a, write(t, &b, "answer"), "answer")
	answered(t, &a, &b, 5)
	next := writeMany(t, &a, "new", 3)
	checkNoTrace(t, b, next[2], "new2")
	read(t, &b, next[1], 6, "new1")
	checkNoTrace(t, b, list[1], "m1")
	checkNoTrace(t, b, list[4], "m4")
	checkNoTrace(t, b, next[0], "new0")
}

func TestOtherKeys(t *testing.T) {
	a, b := startPair(t)
	m := write(t, &a, "hello")
	other := b
	other.Root = impl.KeyFrom(70)
	checkOpenCode(t, "a message of another root key", other, m, impl.SnAuth)
	other = b
	other.Own = impl.KeyFrom(70)
	checkOpenCode(t, "a message to another ratchet key", other, m, impl.SnAuth)
	read(t, &b, m, 4, "hello")
	m = write(t, &a, "again")
	other = b
	other.RecvKey = impl.KeyFrom(70)
	checkOpenCode(t, "a message of another chain key", other, m, impl.SnAuth)
	other = b
	other.RecvN++
	other.RecvKey, _ = impl.ChainStep(other.RecvKey)
	checkOpenCode(t, "a message of an earlier chain key", other, m, impl.SnOld)
	other.RecvN--
	checkOpenCode(t, "a message of a later chain key", other, m, impl.SnAuth)
	other = b
	other.Root, other.Own, other.Pub = impl.KeyFrom(70), impl.KeyFrom(71), impl.KeyFrom(72)
	read(t, &other, m, 5, "again")
}

// The fresh key is taken with a new public key, and not otherwise.
func TestFreshKey(t *testing.T) {
	a, b := startPair(t)
	list := writeMany(t, &a, "m", 3)
	read(t, &b, list[1], 4, "m1")
	before := b
	read(t, &b, list[2], 5, "m2")
	read(t, &b, list[0], 6, "m0")
	if b.Own != impl.KeyFrom(4) || b.Pub != before.Pub || b.Root != before.Root || b.SendKey != before.SendKey {
		t.Errorf("the ratchet key has changed within a chain: %#v", b)
	}
	answered(t, &a, &b, 7)
	read(t, &b, write(t, &a, "new"), 8, "new")
	if b.Own != impl.KeyFrom(8) || b.Root == before.Root || b.Theirs != impl.PublicOf(impl.KeyFrom(7)) || b.Prev != 1 || b.SendN != 0 {
		t.Errorf("the ratchet key has not changed with a new chain: %#v", b)
	}
}

// A side of a random conversation: what it wrote, how often each message was read, and which ones are under way.
type randomSide struct {
	s       impl.Session
	written []impl.Msg
	read    []int
}

func (from *randomSide) write(t *testing.T) {
	t.Helper()
	next, m, code := sealTo(t, from.s, someAd, "data "+strconv.Itoa(len(from.written)))
	if code != impl.SnOk {
		return
	}
	from.s = next
	from.written = append(from.written, m)
	from.read = append(from.read, 0)
}

func (from *randomSide) deliver(t *testing.T, to *randomSide, i int, fresh int64) {
	t.Helper()
	next, data, code := openFrom(t, to.s, someAd, from.written[i], impl.KeyFrom(fresh))
	if code != impl.SnOk {
		return
	}
	to.s = next
	from.read[i]++
	if data != "data "+strconv.Itoa(i) || from.read[i] > 1 {
		t.Errorf("the message %d is read as %q, for the time %d", i, data, from.read[i])
	}
}

func (from *randomSide) bend(t *testing.T, to *randomSide, i int, at int) {
	t.Helper()
	bytes := impl.MsgBytes(from.written[i])
	m, ok := impl.ReadMsg(flipped(bytes, at%len(bytes), at%8))
	if !ok {
		return
	}
	if _, data, code := openFrom(t, to.s, someAd, m, impl.KeyFrom(1)); code == impl.SnOk {
		t.Errorf("a changed message is read as %q", data)
	}
}

// Messages are lost, repeated, reordered and changed, and none of them is read twice.
func TestRandomConversations(t *testing.T) {
	for seed := range int64(12) {
		source := rand.New(rand.NewSource(seed))
		a, b := startPair(t)
		sides := [2]*randomSide{{s: a}, {s: b}}
		for i := range int64(120) {
			k := source.Intn(2)
			from, to := sides[k], sides[1-k]
			switch choice := source.Intn(10); {
			case choice < 4 || len(from.written) == 0:
				from.write(t)
			case choice < 7:
				from.deliver(t, to, max(0, len(from.written)-1-source.Intn(4)), 1000+i)
			case choice < 9:
				from.deliver(t, to, source.Intn(len(from.written)), 1000+i)
			default:
				from.bend(t, to, source.Intn(len(from.written)), source.Intn(1000))
			}
		}
	}
}

// clipped keeps an index near another one within its range.
func clipped(n int64, most int64) int64 {
	return min(max(n, 0), most)
}

// randomSession takes its public keys from a few, so that those of Skips, chains and messages meet.
func randomSession(source *rand.Rand, pubs []string) impl.Session {
	s := fullSession()
	s.Own, s.Pub = impl.KeyFrom(60), pubs[0]
	s.Theirs = pubs[source.Intn(len(pubs))]
	s.RecvN = []int64{0, 1, 5, 500, 990, 995, 999, 1000}[source.Intn(8)]
	s.SendN = clipped(int64(source.Intn(1100)), 1000)
	switch source.Intn(5) {
	case 0:
		s.RecvKey = ""
	case 1:
		s.Theirs, s.SendKey, s.RecvKey = "", "", ""
	}
	s.Skips = nil
	for range []int{0, 3, 40, 400}[source.Intn(4)] {
		skip := impl.Skip{Pub: pubs[source.Intn(len(pubs))], N: clipped(s.RecvN-6+int64(source.Intn(16)), 1000), Key: text(32, source.Intn(1000))}
		same := func(other impl.Skip) bool { return other.Pub == skip.Pub && other.N == skip.N }
		if len(s.Skips) < 20 && !slices.ContainsFunc(s.Skips, same) {
			s.Skips = append(s.Skips, skip)
		}
	}
	return s
}

// keyFor returns the key with which a session would open a message, or any key if it does not get so far.
func keyFor(t *testing.T, s impl.Session, h impl.Head) string {
	t.Helper()
	for _, skip := range s.Skips {
		if skip.Pub == h.Pub && skip.N == h.N {
			return skip.Key
		}
	}
	key, ahead := s.RecvKey, max(0, h.N-s.RecvN)
	if h.Pub != s.Theirs {
		_, key = realRootStep(t, s.Root, realDh(t, s.Own, h.Pub))
		ahead = h.N
	}
	if key == "" || ahead > 8 {
		return impl.KeyFrom(1)
	}
	return impl.ChainKey(key, ahead)
}

func TestRandomSessions(t *testing.T) {
	source := rand.New(rand.NewSource(5))
	pubs := []string{}
	for i := range int64(4) {
		pubs = append(pubs, impl.PublicOf(impl.KeyFrom(60+i)))
	}
	codes := map[int64]int{}
	for range 1500 {
		s := randomSession(source, pubs)
		h := impl.Head{Pub: pubs[source.Intn(len(pubs))], Prev: clipped(s.RecvN-3+int64(source.Intn(14)), 1000)}
		if source.Intn(2) == 0 {
			h.N = clipped(s.RecvN-3+int64(source.Intn(14)), 999)
		} else {
			h.N = int64(source.Intn(11))
		}
		key := keyFor(t, s, h)
		if source.Intn(10) == 0 {
			key = impl.KeyFrom(1)
		}
		m := impl.Msg{Head: h, Sealed: impl.Seal(key, someAd+impl.HeadBytes(h), "data")}
		_, _, code := openFrom(t, s, someAd, m, impl.KeyFrom(66))
		codes[code]++
		sealTo(t, s, someAd, "data")
	}
	for _, code := range []int64{impl.SnOk, impl.SnNone, impl.SnSkip, impl.SnOld, impl.SnAuth} {
		if codes[code] < 20 {
			t.Errorf("the code %d is met %d times", code, codes[code])
		}
	}
}
