package tests

import (
	"math"
	"math/rand"
	"strconv"
	"testing"

	"loop.example/g00702/impl"
)

const someAd = "associated"

func startPair(t *testing.T) (impl.Session, impl.Session) {
	t.Helper()
	b, okB := impl.StartB(impl.KeyFrom(1), impl.KeyFrom(2))
	a, okA := impl.StartA(impl.KeyFrom(1), b.Pub, impl.KeyFrom(3))
	if !okA || !okB {
		t.Fatal("no sessions")
	}
	return a, b
}

func write(t *testing.T, s *impl.Session, data string) impl.Msg {
	t.Helper()
	next, m, code := sealTo(t, *s, someAd, data)
	if code != impl.SnOk {
		t.Fatalf("SealTo of %q: code %d", data, code)
	}
	*s = next
	return m
}

// writeMany returns messages whose data is the name and the index.
func writeMany(t *testing.T, s *impl.Session, name string, n int) []impl.Msg {
	t.Helper()
	out := []impl.Msg{}
	for i := range n {
		out = append(out, write(t, s, name+strconv.Itoa(i)))
	}
	return out
}

func read(t *testing.T, s *impl.Session, m impl.Msg, fresh int64, want string) {
	t.Helper()
	next, data, code := openFrom(t, *s, someAd, m, impl.KeyFrom(fresh))
	if code != impl.SnOk || data != want {
		t.Fatalf("OpenFrom = %q, code %d; want %q", data, code, want)
	}
	*s = next
}

// checkOpenCode expects a rejection; openFrom checks that nothing else is returned.
func checkOpenCode(t *testing.T, name string, s impl.Session, m impl.Msg, want int64) {
	t.Helper()
	if _, _, code := openFrom(t, s, someAd, m, impl.KeyFrom(90)); code != want {
		t.Errorf("OpenFrom of %s: code %d; want %d", name, code, want)
	}
}

func checkSealCode(t *testing.T, name string, s impl.Session, ad string, data string, want int64) {
	t.Helper()
	if _, _, code := sealTo(t, s, ad, data); code != want {
		t.Errorf("SealTo of %s: code %d; want %d", name, code, want)
	}
}

func checkSkips(t *testing.T, name string, s impl.Session, want int) {
	t.Helper()
	if len(s.Skips) != want {
		t.Errorf("%s: there are %d Skips; want %d", name, len(s.Skips), want)
	}
}

// answered lets the second side write one message, which the first one reads: both have new ratchet keys then.
func answered(t *testing.T, a *impl.Session, b *impl.Session, fresh int64) {
	t.Helper()
	read(t, a, write(t, b, "answer"), fresh, "answer")
}

func TestSessionConstants(t *testing.T) {
	got := []int{impl.MaxSkips, impl.MaxSkip, impl.SnOk, impl.SnForm, impl.SnNone, impl.SnSkip, impl.SnOld, impl.SnAuth, impl.SnFull}
	for i, want := range []int{20, 8, 0, 1, 2, 3, 4, 5, 6} {
		if got[i] != want {
			t.Errorf("constant %d is %d; want %d", i, got[i], want)
		}
	}
}

// flat returns all fields of a session in one text.
func flat(s impl.Session) string {
	out := s.Root + s.Own + s.Pub + s.Theirs + s.SendKey + s.RecvKey + word(s.SendN) + word(s.Prev) + word(s.RecvN)
	for _, skip := range s.Skips {
		out += skip.Pub + word(skip.N) + skip.Key
	}
	return out
}

// The expected values were computed with another implementation of the session and of everything below it.
func TestSessionVectors(t *testing.T) {
	a, b := startPair(t)
	checkHex(t, "the first root key", a.Root, "2b7ae72c0f439316d4e97d55a841be699f1fe62a5639fbf9c46b4baf322c379d")
	checkHex(t, "the first chain key", a.SendKey, "82a0eb287b822eae18ba5a7255b62359d030524329613a3b3d8809066af42e9f")
	step := func(s *impl.Session, ad string, m impl.Msg, fresh int64, want string) {
		t.Helper()
		next, data, code := openFrom(t, *s, ad, m, impl.KeyFrom(fresh))
		if code != impl.SnOk || data != want {
			t.Fatalf("OpenFrom = %q, code %d; want %q", data, code, want)
		}
		*s = next
	}
	seal := func(s *impl.Session, ad string, data string) impl.Msg {
		next, m, _ := sealTo(t, *s, ad, data)
		*s = next
		return m
	}
	list := []impl.Msg{}
	for i := range 5 {
		list = append(list, seal(&a, "ad", "message "+strconv.Itoa(i)))
	}
	checkHex(t, "the first message", impl.MsgBytes(list[0]), "891356ec4aae188c83ae31411e5aa2b02c686cc0f0437ae1dc2b43974a15b50000000000002960c895b4ed2905f2208d6194b4f4e70ed7e65746efc68360d828fdbb1cf3bd43911fb064b7dca2496a")
	step(&b, "ad", list[3], 4, "message 3")
	checkHex(t, "b with three Skips", realSha256(flat(b)), "dd1977d0fd7f4c19e8e291fba943382d4b12fb01844c894a5ae6ada877e37ea5")
	seal(&b, "da", "answer 0")
	answer := seal(&b, "da", "answer 1")
	seal(&b, "da", "answer 2")
	checkHex(t, "the answer", realSha256(impl.MsgBytes(answer)), "2a9f4f16b258f53bdc20759334f97959a9a53523509165899d69008358b30ff1")
	step(&a, "da", answer, 5, "answer 1")
	checkHex(t, "a behind the answer", realSha256(flat(a)), "d703910133515b36e1c6a9dd3eea002de70d45e1fbb99bec7f749450b8094c1c")
	step(&b, "ad", seal(&a, "ad", "new"), 6, "new")
	checkHex(t, "b with a new chain", realSha256(flat(b)), "80af225877368a68b6f4f53d334e5cfaf925639bb18335c73a9b11d9ed3a22e9")
	step(&b, "ad", list[1], 7, "message 1")
	step(&b, "ad", list[4], 7, "message 4")
	checkHex(t, "b at the end", realSha256(flat(b)), "da5952ed90c4a4a43acbfb94f67928dff39cc7315f7c18c8dc4734bcf1be3d11")
}

func TestSessionExamples(t *testing.T) {
	a, b := startPair(t)
	checkSealCode(t, "the side that does not write first", b, "ad", "x", impl.SnNone)
	list := writeMany(t, &a, "m", 12)
	checkOpenCode(t, "the message 9", b, list[9], impl.SnSkip)
	read(t, &b, list[2], 4, "m2")
	checkSkips(t, "behind the message 2", b, 2)
	if b.RecvN != 3 {
		t.Errorf("RecvN is %d", b.RecvN)
	}
	checkOpenCode(t, "the message 2, again", b, list[2], impl.SnOld)
	forgotten := impl.Forget(b)
	read(t, &b, list[1], 5, "m1")
	checkSkips(t, "behind the message 1", b, 1)
	checkOpenCode(t, "a forgotten message", forgotten, list[0], impl.SnOld)
	checkOpenCode(t, "a forgotten message", forgotten, list[1], impl.SnOld)
}

func TestStartA(t *testing.T) {
	for i, own := range someKeys() {
		root, theirs := text(32, i), realPublic(t, impl.KeyFrom(int64(i)))
		want := impl.Session{Own: own, Pub: realPublic(t, own), Theirs: theirs}
		want.Root, want.SendKey = realRootStep(t, root, realDh(t, own, theirs))
		got, ok := impl.StartA(root, theirs, own)
		if !ok || !sameSession(got, want) || !impl.SessionOk(got) {
			t.Errorf("StartA = %#v, %v; want %#v", got, ok, want)
		}
	}
	// A public key of small order is a key all the same.
	s, ok := impl.StartA(text(32, 1), zeros(32), impl.KeyFrom(1))
	root, key := realRootStep(t, text(32, 1), zeros(32))
	if !ok || s.Root != root || s.SendKey != key {
		t.Errorf("StartA of a key of small order = %#v, %v", s, ok)
	}
}

func TestStartB(t *testing.T) {
	for i, own := range someKeys() {
		want := impl.Session{Root: text(32, i), Own: own, Pub: realPublic(t, own)}
		got, ok := impl.StartB(text(32, i), own)
		if !ok || !sameSession(got, want) || !impl.SessionOk(got) {
			t.Errorf("StartB = %#v, %v; want %#v", got, ok, want)
		}
	}
}

func TestStartRejects(t *testing.T) {
	key := impl.KeyFrom(1)
	check := func(name string, s impl.Session, ok bool) {
		t.Helper()
		if ok || !sameSession(s, impl.Session{}) {
			t.Errorf("%s = %#v, %v; want false", name, s, ok)
		}
	}
	for _, bad := range noKeys() {
		for _, c := range [][3]string{{bad, key, key}, {key, bad, key}, {key, key, bad}, {bad, bad, bad}} {
			s, ok := impl.StartA(c[0], c[1], c[2])
			check("StartA", s, ok)
		}
		for _, c := range [][2]string{{bad, key}, {key, bad}, {bad, bad}} {
			s, ok := impl.StartB(c[0], c[1])
			check("StartB", s, ok)
		}
	}
}

func someSkips(n int) []impl.Skip {
	out := []impl.Skip{}
	for i := range n {
		out = append(out, impl.Skip{Pub: text(32, 20+i%3), N: int64(i), Key: text(32, 30)})
	}
	return out
}

// fullSession has a value in every field.
func fullSession() impl.Session {
	return impl.Session{
		Root: text(32, 1), Own: text(32, 2), Pub: text(32, 3), Theirs: text(32, 4), SendKey: text(32, 5),
		SendN: 6, Prev: 7, RecvKey: text(32, 8), RecvN: 9, Skips: someSkips(4),
	}
}

func changed(change func(*impl.Session)) impl.Session {
	s := fullSession()
	change(&s)
	return s
}

// keyFields are the fields of a session that are keys, the last three of which may be "".
func keyFields(s *impl.Session) []*string {
	return []*string{&s.Root, &s.Own, &s.Pub, &s.Theirs, &s.SendKey, &s.RecvKey}
}

func countFields(s *impl.Session) []*int64 {
	return []*int64{&s.SendN, &s.Prev, &s.RecvN, &s.Skips[0].N, &s.Skips[3].N}
}

// badSessions differ from a valid one in one field each, except for the first and the last ones.
func badSessions() []impl.Session {
	out := []impl.Session{{}}
	for _, bad := range noKeys() {
		for i := range 6 {
			// RecvKey alone may be "".
			if bad != "" || i < 5 {
				out = append(out, changed(func(s *impl.Session) { *keyFields(s)[i] = bad }))
			}
		}
		for _, i := range []int{0, 3} {
			out = append(out, changed(func(s *impl.Session) { s.Skips[i].Pub = bad }))
			out = append(out, changed(func(s *impl.Session) { s.Skips[i].Key = bad }))
		}
	}
	for _, n := range []int64{-1, -1000, 1001, 1002, 65536, math.MinInt64, math.MaxInt64} {
		for i := range 5 {
			out = append(out, changed(func(s *impl.Session) { *countFields(s)[i] = n }))
		}
	}
	for _, n := range []int{21, 22, 1000} {
		out = append(out, changed(func(s *impl.Session) { s.Skips = someSkips(n) }))
	}
	return append(out, twiceSkipped()...)
}

func twiceSkipped() []impl.Session {
	out := []impl.Session{}
	for _, n := range []int{2, 4, 20} {
		for _, i := range []int{0, n / 2} {
			out = append(out, changed(func(s *impl.Session) {
				s.Skips = someSkips(n)
				s.Skips[n-1].Pub, s.Skips[n-1].N = s.Skips[0].Pub, s.Skips[0].N
				s.Skips[n-1].Key = text(32, 31)
				s.Skips[0], s.Skips[i] = s.Skips[i], s.Skips[0]
			}))
		}
	}
	return out
}

// What belongs together: Theirs with SendKey, and RecvKey with Theirs.
func unpairedSessions() []impl.Session {
	return []impl.Session{
		changed(func(s *impl.Session) { s.Theirs = "" }),
		changed(func(s *impl.Session) { s.SendKey = "" }),
		changed(func(s *impl.Session) { s.Theirs, s.RecvKey = "", "" }),
		changed(func(s *impl.Session) { s.SendKey, s.RecvKey = "", "" }),
		changed(func(s *impl.Session) { s.Theirs, s.SendKey = "", "" }),
	}
}

func goodSessions() []impl.Session {
	out := []impl.Session{
		fullSession(),
		changed(func(s *impl.Session) { s.RecvKey = "" }),
		changed(func(s *impl.Session) { s.Theirs, s.SendKey, s.RecvKey = "", "", "" }),
		changed(func(s *impl.Session) { s.Skips = nil }),
		changed(func(s *impl.Session) { s.Skips = []impl.Skip{} }),
		changed(func(s *impl.Session) { s.Skips = someSkips(19) }),
		changed(func(s *impl.Session) { s.Skips = someSkips(20) }),
		changed(func(s *impl.Session) { s.Skips[1].Pub = s.Skips[0].Pub }),
		changed(func(s *impl.Session) { s.Skips[1].N = s.Skips[0].N }),
		changed(func(s *impl.Session) { s.Skips[0].Pub, s.Skips[1].Pub = s.Theirs, s.Pub }),
		changed(func(s *impl.Session) { s.Root, s.Own, s.Pub = zeros(32), zeros(32), zeros(32) }),
	}
	for _, n := range []int64{0, 1, 999, 1000} {
		for i := range 5 {
			s := fullSession()
			s.Skips[0].Pub, s.Skips[3].Pub = text(32, 40), text(32, 41)
			*countFields(&s)[i] = n
			out = append(out, s)
		}
	}
	return out
}

func TestSessionOk(t *testing.T) {
	for i, s := range goodSessions() {
		g := guarded(s)
		if !impl.SessionOk(g.s) {
			t.Errorf("the valid session %d is rejected: %#v", i, s)
		}
		g.check(t, "SessionOk")
	}
	for i, s := range append(badSessions(), unpairedSessions()...) {
		g := guarded(s)
		if impl.SessionOk(g.s) {
			t.Errorf("the invalid session %d is accepted: %#v", i, s)
		}
		g.check(t, "SessionOk")
	}
}

func TestInvalidSessions(t *testing.T) {
	for _, s := range append(badSessions(), unpairedSessions()...) {
		checkSealCode(t, "an invalid session", s, someAd, "data", impl.SnForm)
		checkOpenCode(t, "a message of an invalid session", s, someMsg(40), impl.SnForm)
		g := guarded(s)
		g.checkResult(t, "Forget", impl.Forget(g.s), impl.Session{})
	}
}

func TestForget(t *testing.T) {
	for _, s := range goodSessions() {
		want := s
		want.Skips = nil
		g := guarded(s)
		g.checkResult(t, "Forget", impl.Forget(g.s), want)
	}
}

func TestForgetKeepsTheChains(t *testing.T) {
	a, b := startPair(t)
	list := writeMany(t, &a, "m", 4)
	read(t, &b, list[2], 4, "m2")
	b = impl.Forget(b)
	checkSkips(t, "behind Forget", b, 0)
	checkOpenCode(t, "a forgotten message", b, list[0], impl.SnOld)
	read(t, &b, list[3], 5, "m3")
	answered(t, &a, &b, 6)
}

func TestSealTo(t *testing.T) {
	for _, s := range goodSessions() {
		next, m, code := sealTo(t, s, someAd, "data")
		if s.SendKey == "" || s.SendN == impl.MaxN {
			continue
		}
		if code != impl.SnOk || m.Head != (impl.Head{Pub: s.Pub, Prev: s.Prev, N: s.SendN}) || next.SendN != s.SendN+1 {
			t.Errorf("SealTo = %#v, %#v, %d", next, m, code)
		}
	}
}

func TestSealToSizes(t *testing.T) {
	for _, size := range []int{0, 1, 63, 64, 65, 399, 400} {
		for _, room := range []int{0, 1, 263, 264} {
			a, b := startPair(t)
			ad, data := text(room, 1), text(size, 2)
			_, m, code := sealTo(t, a, ad, data)
			_, got, openCode := openFrom(t, b, ad, m, impl.KeyFrom(4))
			if code != impl.SnOk || openCode != impl.SnOk || got != data {
				t.Errorf("%d bytes with %d: codes %d, %d", size, room, code, openCode)
			}
		}
	}
	a, _ := startPair(t)
	for _, n := range []int{265, 266, 300, 301, 1000} {
		checkSealCode(t, "long associated data", a, text(n, 1), "data", impl.SnForm)
	}
	for _, n := range []int{401, 402, 1000} {
		checkSealCode(t, "long data", a, someAd, text(n, 1), impl.SnForm)
	}
}

func TestSealToEndsWithTheChain(t *testing.T) {
	a, b := startPair(t)
	a.SendN = 998
	write(t, &a, "last but one")
	if last := write(t, &a, "last"); last.Head.N != 999 || a.SendN != 1000 {
		t.Errorf("the last message has the index %d, behind it SendN is %d", last.Head.N, a.SendN)
	}
	checkSealCode(t, "one message more", a, someAd, "data", impl.SnFull)
	b.SendN = 1000
	checkSealCode(t, "a full session without SendKey", b, someAd, "data", impl.SnNone)
	for _, s := range []impl.Session{a, b} {
		checkSealCode(t, "long associated data", s, text(265, 1), "data", impl.SnForm)
		checkSealCode(t, "long data", s, someAd, text(401, 1), impl.SnForm)
	}
}

// A new chain begins when an answer is read, however full the last one was.
func TestFullChainIsAnswered(t *testing.T) {
	a, b := startPair(t)
	read(t, &b, write(t, &a, "hello"), 4, "hello")
	a.SendN, b.RecvN = 1000, 1000
	answered(t, &a, &b, 5)
	m := write(t, &a, "more")
	if m.Head.Prev != 1000 || m.Head.N != 0 {
		t.Errorf("the head is %#v", m.Head)
	}
	read(t, &b, m, 6, "more")
}

func TestOpenFromForm(t *testing.T) {
	a, b := startPair(t)
	list := writeMany(t, &a, "m", 3)
	read(t, &b, list[1], 4, "m1")
	for _, h := range badHeads() {
		checkOpenCode(t, "a message with no head", b, impl.Msg{Head: h, Sealed: list[2].Sealed}, impl.SnForm)
	}
	for _, size := range []int{0, 1, 31, 433, 434, 1000} {
		checkOpenCode(t, "a message of a wrong length", b, impl.Msg{Head: list[2].Head, Sealed: text(size, 1)}, impl.SnForm)
	}
	// The messages would be rejected as old, opened by a Skip, and opened by the chain.
	for _, m := range []impl.Msg{list[1], list[0], list[2]} {
		for _, bad := range noKeys() {
			if _, _, code := openFrom(t, b, someAd, m, bad); code != impl.SnForm {
				t.Errorf("OpenFrom with no fresh key: code %d", code)
			}
		}
		for _, n := range []int{265, 266, 300, 1000} {
			if _, _, code := openFrom(t, b, text(n, 1), m, impl.KeyFrom(5)); code != impl.SnForm {
				t.Errorf("OpenFrom with long associated data: code %d", code)
			}
		}
		if _, _, code := openFrom(t, b, text(264, 1), m, impl.KeyFrom(5)); code == impl.SnForm {
			t.Error("associated data of 264 bytes is rejected")
		}
	}
	checkOpenCode(t, "a message of 32 bytes", b, impl.Msg{Head: list[2].Head, Sealed: text(32, 1)}, impl.SnAuth)
	checkOpenCode(t, "a message of 432 bytes", b, impl.Msg{Head: list[2].Head, Sealed: text(432, 1)}, impl.SnAuth)
}

func TestConversation(t *testing.T) {
	a, b := startPair(t)
	for i := range int64(12) {
		pub := a.Pub
		for j, m := range writeMany(t, &a, "question", 1+int(i)%4) {
			read(t, &b, m, 100+2*i, "question"+strconv.Itoa(j))
		}
		if b.Theirs != pub || b.Pub != impl.PublicOf(impl.KeyFrom(100+2*i)) {
			t.Error("no new ratchet key with an answer")
		}
		for j, m := range writeMany(t, &b, "answer", 1+int(i)%3) {
			read(t, &a, m, 101+2*i, "answer"+strconv.Itoa(j))
		}
		if a.Pub == pub || a.Prev != 1+i%4 {
			t.Errorf("the turn %d: Prev is %d", i, a.Prev)
		}
		checkSkips(t, "the first side", a, 0)
		checkSkips(t, "the second side", b, 0)
	}
}

// Both sides write before they read what the other one wrote.
func TestCrossingMessages(t *testing.T) {
	a, b := startPair(t)
	read(t, &b, write(t, &a, "hello"), 4, "hello")
	for i := range int64(6) {
		questions := writeMany(t, &a, "question", 3)
		answers := writeMany(t, &b, "answer", 3)
		for j := range 3 {
			read(t, &a, answers[2-j], 100+2*i, "answer"+strconv.Itoa(2-j))
			read(t, &b, questions[j], 101+2*i, "question"+strconv.Itoa(j))
		}
	}
	checkSkips(t, "the first side", a, 0)
	checkSkips(t, "the second side", b, 0)
}

// The first message of the other side: its Prev is skipped to by nobody, since there is no chain before it.
func TestFirstAnswer(t *testing.T) {
	for _, prev := range []int64{0, 1, 9, 1000} {
		a, b := startPair(t)
		read(t, &b, write(t, &a, "hello"), 4, "hello")
		b.Prev = prev
		list := writeMany(t, &b, "answer", 10)
		checkOpenCode(t, "a far answer", a, list[9], impl.SnSkip)
		read(t, &a, list[8], 5, "answer8")
		checkSkips(t, "behind the first answer", a, 8)
		for i, skip := range a.Skips {
			if skip.Pub != b.Pub || skip.N != int64(i) {
				t.Errorf("the Skip %d is %#v", i, skip)
			}
		}
	}
}

// Before the other side has written, nothing is read from the key with which the session began.
func TestNoReceivingChain(t *testing.T) {
	a, _ := startPair(t)
	for _, n := range []int64{0, 8, 9, 999} {
		m := someMsg(40)
		m.Head = impl.Head{Pub: a.Theirs, Prev: 1000, N: n}
		checkOpenCode(t, "a message without a chain", a, m, impl.SnNone)
		a.RecvN = 1000
	}
}

func permutations(n int) [][]int {
	if n == 0 {
		return [][]int{{}}
	}
	out := [][]int{}
	for _, rest := range permutations(n - 1) {
		for i := range n {
			order := append([]int{}, rest[:i]...)
			out = append(out, append(append(order, n-1), rest[i:]...))
		}
	}
	return out
}

// checkOrder reads messages in an order, and then each of them again.
func checkOrder(t *testing.T, b impl.Session, list []impl.Msg, order []int) {
	t.Helper()
	for _, i := range order {
		read(t, &b, list[i], 7, "m"+strconv.Itoa(i))
		checkOpenCode(t, "a message that was just read", b, list[i], impl.SnOld)
	}
	checkSkips(t, "behind all messages", b, 0)
	for _, m := range list {
		checkOpenCode(t, "a message that was read", b, m, impl.SnOld)
	}
}

func TestEveryOrderOfFourMessages(t *testing.T) {
	a, b := startPair(t)
	list := writeMany(t, &a, "m", 4)
	for _, order := range permutations(4) {
		checkOrder(t, b, list, order)
	}
}

func TestOrdersOfEightMessages(t *testing.T) {
	a, b := startPair(t)
	list := writeMany(t, &a, "m", 8)
	checkOrder(t, b, list, []int{7, 6, 5, 4, 3, 2, 1, 0})
	checkOrder(t, b, list, []int{0, 1, 2, 3, 4, 5, 6, 7})
	source := rand.New(rand.NewSource(7))
	for range 60 {
		checkOrder(t, b, list, source.Perm(8))
	}
}

// Eight messages of two chains, in any order: each is read once, also those of the chain that has ended.
func TestOrdersOfTwoChains(t *testing.T) {
	a, b := startPair(t)
	read(t, &b, write(t, &a, "hello"), 4, "hello")
	list := writeMany(t, &a, "m", 4)
	answered(t, &a, &b, 5)
	for i := 4; i < 8; i++ {
		list = append(list, write(t, &a, "m"+strconv.Itoa(i)))
	}
	source := rand.New(rand.NewSource(8))
	for range 60 {
		s := b
		for i, k := range source.Perm(8) {
			read(t, &s, list[k], int64(20+i), "m"+strconv.Itoa(k))
		}
		checkSkips(t, "behind all messages", s, 0)
		for i, m := range list {
			if i < 4 {
				checkOpenCode(t, "a message of the chain that has ended", s, m, impl.SnAuth)
			} else {
				checkOpenCode(t, "a message of the present chain", s, m, impl.SnOld)
			}
		}
	}
}
