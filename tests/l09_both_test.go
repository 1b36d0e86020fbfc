package tests

import (
	"math/rand"
	"strconv"
	"testing"

	"loop.example/g00702/impl"
)

// Both devices write first; the messages are read in either order, and the next message is written by either device.
func TestBothWriteFirst(t *testing.T) {
	for _, one := range []int64{0, 1} {
		for _, firstReads := range []bool{false, true} {
			for _, firstWrites := range []bool{false, true} {
				a, b := twoDevices(t)
				e, f := post(t, &a, b, one, "from a", 100), post(t, &b, a, one, "from b", 200)
				ofA, ofB := impl.ActiveOf(a, 2), impl.ActiveOf(b, 1)
				if !e.Has || !f.Has || ofA == ofB {
					t.Fatalf("the sessions are %q and %q", ofA, ofB)
				}
				if firstReads {
					fetch(t, &a, f, 300, "from b")
					fetch(t, &b, e, 400, "from a")
				} else {
					fetch(t, &b, e, 400, "from a")
					fetch(t, &a, f, 300, "from b")
				}
				checkHelds(t, a, 2, ofB, ofA)
				checkHelds(t, b, 1, ofA, ofB)
				if firstWrites {
					pingPong(t, &a, &b, 500)
					checkHelds(t, b, 1, ofB, ofA)
				} else {
					pingPong(t, &b, &a, 500)
					checkHelds(t, a, 2, ofA, ofB)
				}
				pingPong(t, &a, &b, 600)
				pingPong(t, &b, &a, 700)
				checkReceiveCode(t, "the first envelope again", b, e, impl.DvNone)
				checkReceiveCode(t, "the first envelope again", a, f, impl.DvNone)
			}
		}
	}
}

// One side reads before it writes a second time, the other one has written twice.
func TestBothWriteFirstAndGoOn(t *testing.T) {
	a, b := twoDevices(t)
	e := []impl.Env{post(t, &a, b, 1, "a0", 100), post(t, &a, b, 1, "a1", 101)}
	f := []impl.Env{post(t, &b, a, 1, "b0", 200), post(t, &b, a, 1, "b1", 201)}
	ofA, ofB := impl.ActiveOf(a, 2), impl.ActiveOf(b, 1)
	fetch(t, &a, f[1], 300, "b1")
	next := post(t, &a, b, 0, "a2", 400)
	if next.Has {
		t.Error("a message in the session of the other side has an Init")
	}
	fetch(t, &b, next, 500, "a2")
	checkHelds(t, b, 1, ofB)
	if b.Peers[0].Held[0].Has {
		t.Error("the Init is kept behind an answer")
	}
	fetch(t, &b, e[1], 600, "a1")
	checkHelds(t, b, 1, ofA, ofB)
	fetch(t, &b, e[0], 601, "a0")
	fetch(t, &a, f[0], 602, "b0")
	checkHelds(t, a, 2, ofB, ofA)
	for i, h := range a.Peers[0].Held {
		if h.Has != (i == 1) {
			t.Errorf("the session %d has Has %v", i, h.Has)
		}
	}
	// The older session is still read, and becomes the active one with its Init gone.
	fetch(t, &a, post(t, &b, a, 0, "in the session of a", 700), 701, "in the session of a")
	checkHelds(t, a, 2, ofA, ofB)
	if a.Peers[0].Held[0].Has {
		t.Error("the Init is kept behind an answer")
	}
	checkOneActive(t, a, b)
	pingPong(t, &b, &a, 800)
}

// crossing lets both sides write first, and returns what is then on the way, with its data.
func crossing(t *testing.T, a *impl.Device, b *impl.Device, each int) map[string]impl.Env {
	t.Helper()
	out := map[string]impl.Env{}
	for i := range each {
		out["a"+strconv.Itoa(i)] = post(t, a, *b, 1, "a"+strconv.Itoa(i), 100+int64(i))
		out["b"+strconv.Itoa(i)] = post(t, b, *a, 1, "b"+strconv.Itoa(i), 200+int64(i))
	}
	return out
}

// Whatever the order in which the messages are read, all of them are.
func TestCrossingInAnyOrder(t *testing.T) {
	names := []string{"a0", "b0", "a1", "b1"}
	for i, order := range permutations(4) {
		a, b := twoDevices(t)
		list := crossing(t, &a, &b, 2)
		for j, n := range order {
			reader := &b
			if names[n][0] == 'b' {
				reader = &a
			}
			fetch(t, reader, list[names[n]], 300+int64(j), names[n])
			checkReceiveCode(t, "an envelope received twice", *reader, list[names[n]], impl.DvNone)
		}
		if i%2 == 0 {
			a, b = b, a
		}
		pingPong(t, &a, &b, 500)
		checkHelds(t, a, b.Id, impl.ActiveOf(b, a.Id), a.Peers[0].Held[1].Id)
	}
}

// freshSessions returns first messages of one device, each in another session.
func freshSessions(t *testing.T, b impl.Device, n int) []impl.Env {
	t.Helper()
	out := []impl.Env{}
	for i := range n {
		a := newDevice(t, 1, 0, 10)
		out = append(out, post(t, &a, b, 0, "first "+strconv.Itoa(i), 100+10*int64(i)))
	}
	return out
}

func TestFifthSession(t *testing.T) {
	_, b := twoDevices(t)
	ids := []string{}
	list := freshSessions(t, b, 6)
	for i, e := range list {
		fetch(t, &b, e, 300+int64(i), "first "+strconv.Itoa(i))
		ids = append([]string{realId(e.Init.Eph, b.Ident.Pub)}, ids...)
		checkHelds(t, b, 1, ids[:min(4, len(ids))]...)
	}
	for _, e := range list[2:] {
		checkReceiveCode(t, "a first message again", b, e, impl.DvNone)
	}
	// The sessions of these are gone, so that they begin anew; only a one-time prekey hinders that.
	fetch(t, &b, list[0], 400, "first 0")
	checkHelds(t, b, 1, ids[5], ids[0], ids[1], ids[2])
}

// A message in the last of four sessions moves it before the others, and a new one then drops another session.
func TestSessionsMove(t *testing.T) {
	_, b := twoDevices(t)
	senders := []impl.Device{}
	ids := []string{}
	for i := range int64(5) {
		a := newDevice(t, 1, 0, 10)
		e := post(t, &a, b, 0, "first", 100+10*i)
		ids = append(ids, impl.ActiveOf(a, 2))
		senders = append(senders, a)
		if i < 4 {
			fetch(t, &b, e, 300+i, "first")
		}
	}
	checkHelds(t, b, 1, ids[3], ids[2], ids[1], ids[0])
	fetch(t, &b, post(t, &senders[0], b, 0, "second", 400), 401, "second")
	checkHelds(t, b, 1, ids[0], ids[3], ids[2], ids[1])
	fetch(t, &b, post(t, &senders[2], b, 0, "second", 402), 403, "second")
	checkHelds(t, b, 1, ids[2], ids[0], ids[3], ids[1])
	fetch(t, &b, post(t, &senders[2], b, 0, "third", 404), 405, "third")
	checkHelds(t, b, 1, ids[2], ids[0], ids[3], ids[1])
	fetch(t, &b, post(t, &senders[4], b, 0, "second", 406), 407, "second")
	checkHelds(t, b, 1, ids[4], ids[2], ids[0], ids[3])
	// The answer is read by the sender of the active session alone.
	answer := post(t, &b, senders[4], 0, "answer", 408)
	checkReceiveCode(t, "an answer in another session", senders[2], answer, impl.DvNone)
	fetch(t, &senders[4], answer, 409, "answer")
}

// The session is found by its message alone: an Init of a known session may come with a message of another one.
func TestInitOfAnotherSession(t *testing.T) {
	_, b := twoDevices(t)
	first, second := newDevice(t, 1, 0, 10), newDevice(t, 1, 0, 10)
	e, f := post(t, &first, b, 0, "e0", 100), post(t, &second, b, 0, "f0", 200)
	fetch(t, &b, e, 300, "e0")
	fetch(t, &b, f, 301, "f0")
	next := post(t, &first, b, 0, "e1", 101)
	next.Init = f.Init
	fetch(t, &b, next, 302, "e1")
	checkHelds(t, b, 1, impl.ActiveOf(first, 2), impl.ActiveOf(second, 2))
	next = post(t, &first, b, 0, "e2", 102)
	next.Has, next.Init = false, impl.Init{}
	fetch(t, &b, next, 303, "e2")
}

// The first session that opens the message is taken, also if a later one would open it.
func TestFirstSessionThatOpens(t *testing.T) {
	a, b := twoDevices(t)
	fetch(t, &b, post(t, &a, b, 1, "hello", 100), 200, "hello")
	p := &b.Peers[0]
	twin := p.Held[0]
	twin.Id = "ffffffffffffffff"
	p.Held = append(p.Held, someHeld(1), twin)
	id := p.Held[0].Id
	e := post(t, &a, b, 1, "next", 300)
	d := b
	fetch(t, &d, e, 400, "next")
	checkHelds(t, d, 1, id, someHeld(1).Id, twin.Id)
	// The twin has not moved on, and reads the message once more.
	fetch(t, &d, e, 401, "next")
	checkHelds(t, d, 1, twin.Id, id, someHeld(1).Id)
	checkReceiveCode(t, "a third time", d, e, impl.DvNone)
}

func TestEqualArguments(t *testing.T) {
	a, b := twoDevices(t)
	x := bundleOf(t, b, 1)
	_, e, _ := impl.DeviceSend(a, 2, x, "hello", 100)
	first, data, code := impl.DeviceReceive(b, e, 200)
	for range 3 {
		_, again, _ := impl.DeviceSend(a, 2, x, "hello", 100)
		second, sameData, sameCode := impl.DeviceReceive(b, e, 200)
		if again != e || !sameDevice(first, second) || data != sameData || code != sameCode {
			t.Error("equal arguments yield other results")
		}
	}
}

// A traffic has devices that forget their peers from time to time, and a mail service that drops and copies.
type traffic struct {
	t       *testing.T
	source  *rand.Rand
	devices []impl.Device
	mail    []impl.Env
	sent    map[string]bool
	seed    int64
}

func (w *traffic) nextSeed() int64 {
	w.seed += 10
	return w.seed
}

func (w *traffic) write() {
	from, to := w.source.Intn(3), w.source.Intn(3)
	if from == to {
		return
	}
	b := bundleOf(w.t, w.devices[to], int64(w.source.Intn(4)))
	data := strconv.Itoa(from+1) + " writes " + strconv.Itoa(len(w.sent))
	next, e, code := deviceSend(w.t, w.devices[from], int64(to+1), b, data, w.nextSeed())
	if code == impl.DvOk {
		w.devices[from] = next
		w.mail = append(w.mail, e)
		w.sent[data] = true
	}
}

func (w *traffic) deliver() {
	if len(w.mail) == 0 {
		return
	}
	i := w.source.Intn(len(w.mail))
	e := w.mail[i]
	if w.source.Intn(4) > 0 {
		w.mail = append(w.mail[:i], w.mail[i+1:]...)
	}
	if w.source.Intn(8) == 0 {
		e.Msg.Sealed = flipped(e.Msg.Sealed, w.source.Intn(len(e.Msg.Sealed)), w.source.Intn(8))
	}
	next, data, code := deviceReceive(w.t, w.devices[e.To-1], e, w.nextSeed())
	if code != impl.DvOk {
		return
	}
	w.devices[e.To-1] = next
	if !w.sent[data] || data[:1] != strconv.FormatInt(e.From, 10) {
		w.t.Errorf("%q is delivered from the device %d", data, e.From)
	}
}

func (w *traffic) forget() {
	d := &w.devices[w.source.Intn(3)]
	d.Peers = nil
	d.Ones = nil
	for i := range int64(1 + w.source.Intn(5)) {
		d.Ones = append(d.Ones, impl.One{Id: i + 1, Pair: realPair(w.t, w.nextSeed())})
	}
}

// All calls are compared with the model, whatever happens to the envelopes.
func TestRandomTraffic(t *testing.T) {
	for round := range int64(6) {
		w := &traffic{t: t, source: rand.New(rand.NewSource(round)), sent: map[string]bool{}}
		w.devices = []impl.Device{newDevice(t, 1, 0, 10), newDevice(t, 2, 1, 20), newDevice(t, 3, 0, 30)}
		for range 150 {
			switch n := w.source.Intn(20); {
			case n < 9:
				w.write()
			case n < 19:
				w.deliver()
			default:
				w.forget()
			}
		}
	}
}
