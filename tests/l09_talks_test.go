package tests

import (
	"math/rand"
	"strconv"
	"testing"

	"loop.example/g00702/impl"
)

func newDevice(t *testing.T, id int64, user int64, seed int64) impl.Device {
	t.Helper()
	d, ok := impl.NewDevice(id, user, seed)
	if !ok {
		t.Fatal("no device")
	}
	return d
}

func twoDevices(t *testing.T) (impl.Device, impl.Device) {
	t.Helper()
	return newDevice(t, 1, 0, 10), newDevice(t, 2, 1, 20)
}

func bundleOf(t *testing.T, d impl.Device, one int64) impl.Bundle {
	t.Helper()
	b, ok := impl.BundleOf(d, one)
	if !ok {
		t.Fatal("no bundle")
	}
	return b
}

// post lets a device write to another one, with this one-time prekey if it is the first message.
func post(t *testing.T, from *impl.Device, to impl.Device, one int64, data string, seed int64) impl.Env {
	t.Helper()
	next, e, code := deviceSend(t, *from, to.Id, bundleOf(t, to, one), data, seed)
	if code != impl.DvOk {
		t.Fatalf("DeviceSend of %q: code %d", data, code)
	}
	*from = next
	return e
}

func fetch(t *testing.T, d *impl.Device, e impl.Env, seed int64, want string) {
	t.Helper()
	next, data, code := deviceReceive(t, *d, e, seed)
	if code != impl.DvOk || data != want {
		t.Fatalf("DeviceReceive = %q, code %d; want %q", data, code, want)
	}
	*d = next
}

// checkSendCode expects a rejection; deviceSend checks that nothing else is returned.
func checkSendCode(t *testing.T, name string, d impl.Device, to int64, b impl.Bundle, data string, seed int64, want int64) {
	t.Helper()
	if _, _, code := deviceSend(t, d, to, b, data, seed); code != want {
		t.Errorf("DeviceSend, %s: code %d; want %d", name, code, want)
	}
}

func checkReceiveCode(t *testing.T, name string, d impl.Device, e impl.Env, want int64) {
	t.Helper()
	if _, _, code := deviceReceive(t, d, e, 90); code != want {
		t.Errorf("DeviceReceive, %s: code %d; want %d", name, code, want)
	}
}

func checkOneActive(t *testing.T, a impl.Device, b impl.Device) {
	t.Helper()
	if id := impl.ActiveOf(a, b.Id); id == "" || id != impl.ActiveOf(b, a.Id) {
		t.Errorf("the active sessions are %q and %q", id, impl.ActiveOf(b, a.Id))
	}
}

func checkHelds(t *testing.T, d impl.Device, peer int64, want ...string) {
	t.Helper()
	list := []impl.Held(nil)
	if p := findPeer(d.Peers, peer); p != nil {
		list = p.Held
	}
	if len(list) != len(want) {
		t.Fatalf("there are %d sessions; want %d", len(list), len(want))
	}
	for i, h := range list {
		checkSame(t, "the Id of a session", h.Id, want[i])
	}
}

func checkOnes(t *testing.T, d impl.Device, want ...int64) {
	t.Helper()
	got := []int64{}
	for _, one := range d.Ones {
		got = append(got, one.Id)
	}
	if len(got) != len(want) {
		t.Fatalf("the Ones are %v; want %v", got, want)
	}
	for i := range got {
		if got[i] != want[i] {
			t.Errorf("the Ones are %v; want %v", got, want)
		}
	}
}

// pingPong writes a message and its answer, behind which both have one active session.
func pingPong(t *testing.T, a *impl.Device, b *impl.Device, seed int64) {
	t.Helper()
	fetch(t, b, post(t, a, *b, 0, "ping", seed), seed+10, "ping")
	fetch(t, a, post(t, b, *a, 0, "pong", seed+20), seed+30, "pong")
	checkOneActive(t, *a, *b)
}

// flatDevice returns all fields of a device in one text.
func flatDevice(d impl.Device) string {
	out := word(d.Id) + word(d.User) + d.Ident.Key + d.Ident.Pub + d.Signed.Key + d.Signed.Pub
	for _, one := range d.Ones {
		out += word(one.Id) + one.Pair.Key + one.Pair.Pub
	}
	for _, p := range d.Peers {
		out += word(p.Id) + p.Ident
		for _, h := range p.Held {
			out += h.Id + h.Ad + flat(h.S)
			if h.Has {
				out += "\x01" + h.Init.Ident + h.Init.Eph + word(h.Init.One)
			} else {
				out += "\x00"
			}
		}
	}
	return out
}

// The expected values were computed with another implementation of the device and of everything below it.
func TestDeviceVectors(t *testing.T) {
	a, b := twoDevices(t)
	check := func(d impl.Device, want string) {
		t.Helper()
		checkHex(t, "the device "+strconv.FormatInt(d.Id, 10), realSha256(flatDevice(d)), want)
	}
	checkBytes := func(e impl.Env, want string) {
		t.Helper()
		checkHex(t, "the envelope", realSha256(impl.EnvBytes(e)), want)
	}
	check(a, "1fcdc50c75516a1bb4a8ace58903e62de550750606875c6153c7c560aa9f53d4")
	check(b, "8cb9b5c1979c1eb4f9a983e57a47ccc1a42a614d2f2ab28dd7601fc7fa6e1c89")
	e := post(t, &a, b, 2, "hi", 100)
	check(a, "ba72ca7a399b5bef75ada5305dd21b27a7bc87e8c8d5a555c17208057e4a8b09")
	checkBytes(e, "ca28bd0defd92bf387d3d551b1c9f5f3ab93e0a184ddc232d27abff93004d659")
	checkHelds(t, a, 2, "c3bc8be40c20a6c4")
	f := post(t, &b, a, 1, "yo", 200)
	check(b, "7263063d7b2439434a5c59c938bd74f046934a3c4e886e7f2e56a66aafe842f4")
	checkBytes(f, "6ed11c5021944bf25b2f48ce54e88b9304f3d293abf7d57537aa10fd41bad6c3")
	checkHelds(t, b, 1, "71138a963ccb8c2a")
	fetch(t, &b, post(t, &a, b, 3, "again", 300), 400, "again")
	check(b, "49b1a17a3685566ff8da8fcd68b42629a6f262fc38be33fd737e764f853368a9")
	fetch(t, &b, e, 500, "hi")
	check(b, "46e54d3242858b82be94d0ac7be3c2b0f6c7025f4bbdce5727646d048e15ad45")
	fetch(t, &a, f, 600, "yo")
	check(a, "658254d495a2c1e438c0e28ca0d1b4f528ad44a68fe1a4d91d16fb65d4d66f91")
	g := post(t, &b, a, 9, "one", 700)
	checkBytes(g, "2758ff23e596fa44ebe8f5a30bcbb8399cb3f966bf3ce7c2144c10f69bcf82ad")
	fetch(t, &a, g, 800, "one")
	check(a, "c57f7cb512e4950e45f8e009f30563b4abbec2c5ad3125aa1577e7545ca37588")
	g = post(t, &a, b, 9, "two", 900)
	checkBytes(g, "ca2d0e291206833d286dd115fe77ec1db1f44f7df9fe5973befd9d2b1e9c095a")
	fetch(t, &b, g, 1000, "two")
	check(b, "dfb1cc037702e9e527491b73cbc3cdab6331e69e4a9bfbda3bcf69897c8d442b")
}

func TestDeviceExamples(t *testing.T) {
	a, b := twoDevices(t)
	without := b
	without.Ones = b.Ones[:1]
	e := post(t, &a, b, 2, "hi", 100)
	if !e.Has || e.Init.One != 2 || e.From != 1 || e.To != 2 {
		t.Errorf("the envelope is %#v", e)
	}
	fetch(t, &b, e, 200, "hi")
	checkOneActive(t, a, b)
	checkOnes(t, b, 1)
	checkReceiveCode(t, "the same envelope again", b, e, impl.DvNone)
	checkReceiveCode(t, "no such one-time prekey", without, e, impl.DvOne)
}

// A first message is read, and then both sides have one session.
func TestFirstMessage(t *testing.T) {
	for _, one := range []int64{0, 1, 2, 3} {
		for _, seed := range []int64{0, 1, 100, impl.MaxSeed} {
			a, b := twoDevices(t)
			x := bundleOf(t, b, one)
			e := post(t, &a, b, one, "hello", seed)
			eph := realPublic(t, realKeyFrom(seed))
			if !e.Has || e.Init != (impl.Init{Ident: a.Ident.Pub, Eph: eph, One: x.OneId}) || e.Msg.Head.N != 0 || e.Msg.Head.Prev != 0 {
				t.Errorf("the envelope is %#v", e)
			}
			fetch(t, &b, e, seed, "hello")
			id := realId(eph, b.Ident.Pub)
			checkHelds(t, a, 2, id)
			checkHelds(t, b, 1, id)
			checkOneActive(t, a, b)
			if a.Peers[0].Ident != b.Ident.Pub || b.Peers[0].Ident != a.Ident.Pub || a.Peers[0].Held[0].Ad != b.Peers[0].Held[0].Ad {
				t.Errorf("the peers are %#v and %#v", a.Peers, b.Peers)
			}
			if b.Peers[0].Held[0].Has || !a.Peers[0].Held[0].Has {
				t.Error("the wrong side has an Init")
			}
			if len(a.Ones) != 2 || len(b.Ones) != 2-min(1, int(x.OneId)) {
				t.Errorf("there are %d and %d Ones", len(a.Ones), len(b.Ones))
			}
			pingPong(t, &a, &b, 500)
			checkHelds(t, a, 2, id)
			checkHelds(t, b, 1, id)
		}
	}
}

// Of many Ones, the one that was used is removed.
func TestOneIsUsedOnce(t *testing.T) {
	for _, one := range []int64{1, 3, 500, 998, 999} {
		_, b := twoDevices(t)
		b.Ones = nil
		left := []int64{}
		for i, id := range []int64{1, 3, 500, 998, 999} {
			b.Ones = append(b.Ones, impl.One{Id: id, Pair: realPair(t, 700+int64(i))})
			if id != one {
				left = append(left, id)
			}
		}
		first, second := newDevice(t, 1, 0, 10), newDevice(t, 3, 0, 30)
		x := bundleOf(t, b, one)
		e := post(t, &first, b, one, "first", 100)
		_, f, _ := deviceSend(t, second, 2, x, "second", 110)
		again, late := newDevice(t, 1, 0, 10), impl.Env{}
		_, late, _ = deviceSend(t, again, 2, x, "late", 120)
		fetch(t, &b, e, 200, "first")
		checkOnes(t, b, left...)
		checkReceiveCode(t, "a one-time prekey used by another device", b, f, impl.DvOne)
		checkReceiveCode(t, "a one-time prekey used by another session", b, late, impl.DvOne)
		// The session goes on, though the Init names a prekey that is gone.
		next := post(t, &first, b, 0, "next", 130)
		if next.Init != e.Init {
			t.Errorf("the Init is %#v", next.Init)
		}
		fetch(t, &b, next, 210, "next")
		checkOnes(t, b, left...)
	}
}

// A rejected first message leaves the one-time prekey where it was.
func TestRejectedOneIsKept(t *testing.T) {
	a, b := twoDevices(t)
	e := post(t, &a, b, 1, "hello", 100)
	bent := e
	bent.Msg.Sealed = flipped(e.Msg.Sealed, 0, 0)
	checkReceiveCode(t, "a changed first message", b, bent, impl.DvNone)
	checkOnes(t, b, 1, 2)
	for _, other := range []int64{0, 2} {
		wrong := e
		wrong.Init.One = other
		checkReceiveCode(t, "another one-time prekey", b, wrong, impl.DvNone)
	}
	fetch(t, &b, e, 200, "hello")
	checkOnes(t, b, 2)
}

// Every bit of the message and of the Init has its part.
func TestChangedEnvelopes(t *testing.T) {
	a, b := twoDevices(t)
	e := post(t, &a, b, 2, "hello", 100)
	began := b
	fetch(t, &began, e, 200, "hello")
	next := post(t, &a, b, 2, "next", 300)
	for _, d := range []impl.Device{b, began} {
		for i := range e.Msg.Sealed {
			bent := next
			bent.Msg.Sealed = flipped(next.Msg.Sealed, i%len(next.Msg.Sealed), i%8)
			checkReceiveCode(t, "a changed byte", d, bent, impl.DvNone)
		}
		for i := range 32 {
			bent := next
			bent.Msg.Head.Pub = flipped(next.Msg.Head.Pub, i, i%7)
			checkReceiveCode(t, "a changed Pub", d, bent, impl.DvNone)
		}
		for _, n := range []int64{0, 2, 8, 9, 999} {
			bent := next
			bent.Msg.Head.N = n
			checkReceiveCode(t, "a changed N", d, bent, impl.DvNone)
		}
		bent := next
		bent.Msg.Head.Prev = 1
		checkReceiveCode(t, "a changed Prev", d, bent, impl.DvNone)
		bent = next
		bent.Msg.Sealed += "x"
		checkReceiveCode(t, "a longer Sealed", d, bent, impl.DvNone)
		fetch(t, &d, next, 400, "next")
	}
	for i := range 32 {
		bent := e
		bent.Init.Eph = flipped(e.Init.Eph, i, i%7)
		checkReceiveCode(t, "a changed Eph", b, bent, impl.DvNone)
		bent = e
		bent.Init.Ident = flipped(e.Init.Ident, i, i%7)
		checkReceiveCode(t, "a changed Ident", b, bent, impl.DvNone)
		checkReceiveCode(t, "a changed Ident of a known device", began, bent, impl.DvIdent)
	}
}

func TestSendForm(t *testing.T) {
	a, b := twoDevices(t)
	x := bundleOf(t, b, 1)
	known := a
	post(t, &known, b, 1, "hello", 100)
	for _, d := range []impl.Device{a, known} {
		for _, to := range append([]int64{1}, badIds()...) {
			checkSendCode(t, "to "+strconv.FormatInt(to, 10), d, to, x, "data", 1, impl.DvForm)
		}
		for _, seed := range badSeeds() {
			checkSendCode(t, "seed "+strconv.FormatInt(seed, 10), d, 2, x, "data", seed, impl.DvForm)
		}
		for _, n := range []int{impl.MaxData + 1, impl.MaxData + 2, 1000} {
			checkSendCode(t, "long data", d, 2, x, text(n, 1), 1, impl.DvForm)
		}
		for _, bad := range []impl.Bundle{
			{}, {Ident: x.Ident}, {Signed: x.Signed}, {Ident: x.Ident, Signed: x.Signed, OneId: 1},
			{Ident: x.Ident, Signed: x.Signed, One: x.One}, {Ident: x.Ident, Signed: x.Signed, One: x.One, OneId: 1000},
			{Ident: x.Ident + "x", Signed: x.Signed}, {Ident: x.Ident, Signed: x.Signed[1:]}, {Ident: x.Ident, Signed: x.Signed, One: "x", OneId: 1},
		} {
			checkSendCode(t, "a bundle that is not valid", d, 2, bad, "data", 1, impl.DvForm)
		}
		for _, to := range []int64{2, 3, 9} {
			for _, seed := range []int64{0, 1, impl.MaxSeed - 1, impl.MaxSeed} {
				checkSendCode(t, "seed "+strconv.FormatInt(seed, 10), d, to, x, "data", seed, impl.DvOk)
			}
		}
	}
}

func TestDataSizes(t *testing.T) {
	a, b := twoDevices(t)
	for i, n := range []int{0, 1, 63, 64, 65, impl.MaxData - 1, impl.MaxData} {
		seed := int64(100 * (i + 1))
		fetch(t, &b, post(t, &a, b, 1, text(n, i), seed), seed+10, text(n, i))
		fetch(t, &a, post(t, &b, a, 1, text(n, i+1), seed+20), seed+30, text(n, i+1))
	}
}

// A peer keeps its Ident; a bundle or an Init with another one is rejected, and what is not valid before that.
func TestAnotherIdent(t *testing.T) {
	a, b := twoDevices(t)
	e := post(t, &a, b, 1, "hello", 100)
	fetch(t, &b, e, 200, "hello")
	x := bundleOf(t, b, 2)
	for _, ident := range []string{b.Signed.Pub, a.Ident.Pub, zeros(32), flipped(x.Ident, 31, 0), flipped(x.Ident, 0, 7)} {
		y := x
		y.Ident = ident
		checkSendCode(t, "another Ident", a, 2, y, "data", 1, impl.DvIdent)
		checkSendCode(t, "another Ident with long data", a, 2, y, text(401, 1), 1, impl.DvForm)
		checkSendCode(t, "another Ident with a wrong seed", a, 2, y, "data", -1, impl.DvForm)
		checkSendCode(t, "another Ident for another device", a, 3, y, "data", 1, impl.DvOk)
		full := cloned(a)
		full.Peers[0].Held[0].S.SendN = 1000
		checkSendCode(t, "another Ident in a full session", full, 2, y, "data", 1, impl.DvIdent)
		checkSendCode(t, "a full session", full, 2, x, "data", 1, impl.DvNone)

		f := e
		f.Init.Ident = ident
		if ident != a.Ident.Pub {
			checkReceiveCode(t, "another Ident", b, f, impl.DvIdent)
			f.Init.One = 77
			checkReceiveCode(t, "another Ident without the one-time prekey", b, f, impl.DvIdent)
			f.Init.Eph = public(99)
			checkReceiveCode(t, "another Ident in a new session", b, f, impl.DvIdent)
		}
		f.To = 3
		checkReceiveCode(t, "another Ident to another device", b, f, impl.DvTo)
	}
	// Other keys of the bundle have no part once there is a peer.
	y := x
	y.Signed, y.One, y.OneId = zeros(32), zeros(32), 999
	_, first, _ := deviceSend(t, a, 2, x, "data", 1)
	_, second, code := deviceSend(t, a, 2, y, "data", 999)
	if code != impl.DvOk || first != second {
		t.Errorf("the envelopes are %#v and %#v", first, second)
	}
}

// The Ident of the peer is looked at only where the envelope has an Init.
func TestIdentWithoutInit(t *testing.T) {
	a, b := twoDevices(t)
	fetch(t, &b, post(t, &a, b, 1, "hello", 100), 200, "hello")
	answer := post(t, &b, a, 1, "answer", 300)
	a.Peers[0].Ident = zeros(32)
	fetch(t, &a, answer, 400, "answer")
	if a.Peers[0].Ident != zeros(32) {
		t.Error("the Ident of the peer has changed")
	}
}

// A session that cannot write: it has read nothing, or its chain is full.
func TestSendNone(t *testing.T) {
	a, b := twoDevices(t)
	fetch(t, &b, post(t, &a, b, 1, "hello", 100), 200, "hello")
	x := bundleOf(t, a, 1)
	mute := cloned(b)
	s, _ := impl.StartB(impl.KeyFrom(1), impl.KeyFrom(2))
	mute.Peers[0].Held[0].S = s
	checkSendCode(t, "a session that has read nothing", mute, 1, x, "data", 1, impl.DvNone)
	b.Peers[0].Held[0].S.SendN = 999
	e := post(t, &b, a, 1, "last", 300)
	if e.Msg.Head.N != 999 {
		t.Errorf("the index is %d", e.Msg.Head.N)
	}
	checkSendCode(t, "a full session", b, 1, x, "data", 1, impl.DvNone)
	// Another session is not tried.
	b.Peers[0].Held = append(b.Peers[0].Held, someHeld(1))
	checkSendCode(t, "a full session before another one", b, 1, x, "data", 1, impl.DvNone)
}

func TestReceiveForm(t *testing.T) {
	a, b := twoDevices(t)
	e := post(t, &a, b, 1, "hello", 100)
	for _, seed := range badSeeds() {
		if _, _, code := deviceReceive(t, b, e, seed); code != impl.DvForm {
			t.Errorf("seed %d: code %d", seed, code)
		}
		far := e
		far.To = 3
		if _, _, code := deviceReceive(t, b, far, seed); code != impl.DvForm {
			t.Errorf("seed %d to another device: code %d", seed, code)
		}
	}
	for _, seed := range []int64{0, 1, impl.MaxSeed - 1, impl.MaxSeed} {
		d := b
		fetch(t, &d, e, seed, "hello")
	}
	at := func(name string, change func(*impl.Env)) {
		t.Helper()
		f := e
		change(&f)
		checkReceiveCode(t, name, b, f, impl.DvForm)
	}
	for _, id := range badIds() {
		at("From", func(f *impl.Env) { f.From = id })
		at("To", func(f *impl.Env) { f.To = id })
	}
	at("From is To", func(f *impl.Env) { f.From = 2 })
	at("From is To, of another device", func(f *impl.Env) { f.From, f.To = 3, 3 })
	at("an Init without Has", func(f *impl.Env) { f.Has = false })
	for _, init := range badInits() {
		at("Init", func(f *impl.Env) { f.Init = init })
	}
	for _, head := range badHeads() {
		at("Head", func(f *impl.Env) { f.Msg.Head = head })
	}
	for _, n := range []int{0, 31, 433, 1000} {
		at("Sealed", func(f *impl.Env) { f.Msg.Sealed = text(n, 1) })
	}
	at("nothing", func(f *impl.Env) { *f = impl.Env{} })
}

func TestAnotherDevice(t *testing.T) {
	a, b := twoDevices(t)
	e := post(t, &a, b, 1, "hello", 100)
	for _, to := range []int64{3, 4, 9} {
		away := e
		away.To = to
		checkReceiveCode(t, "to another device", b, away, impl.DvTo)
		away.Init.One = 77
		checkReceiveCode(t, "to another device, without the one-time prekey", b, away, impl.DvTo)
	}
	checkReceiveCode(t, "by the sender", a, e, impl.DvTo)
	// Another device with the same Id has other keys.
	checkReceiveCode(t, "by another device", newDevice(t, 2, 1, 50), e, impl.DvNone)
	// What another device says it has written is a session of that one.
	false3 := e
	false3.From = 3
	d := b
	fetch(t, &d, false3, 200, "hello")
	checkHelds(t, d, 3, impl.ActiveOf(a, 2))
	checkHelds(t, d, 1)
}

func TestUnknownSender(t *testing.T) {
	a, b := twoDevices(t)
	fetch(t, &b, post(t, &a, b, 1, "hello", 100), 200, "hello")
	answer := post(t, &b, a, 1, "answer", 300)
	checkReceiveCode(t, "a message without a session", newDevice(t, 1, 0, 10), answer, impl.DvNone)
	answer.From = 3
	checkReceiveCode(t, "a message of another sender", a, answer, impl.DvNone)
}

// A one-time prekey that the device does not have is noticed before the message is opened.
func TestUnknownOne(t *testing.T) {
	a, b := twoDevices(t)
	e := post(t, &a, b, 0, "hello", 100)
	for _, one := range []int64{3, 4, 998, 999} {
		f := e
		f.Init.One = one
		checkReceiveCode(t, "an unknown one-time prekey", b, f, impl.DvOne)
	}
	none := b
	none.Ones = nil
	f := e
	f.Init.One = 1
	checkReceiveCode(t, "no one-time prekeys", none, f, impl.DvOne)
	fetch(t, &none, e, 200, "hello")
	f.Init.One = 999
	// The session is there, so that its One is not looked for.
	f.Msg = post(t, &a, b, 0, "next", 300).Msg
	fetch(t, &none, f, 400, "next")
}

// Messages carry the Init until one of the session is answered.
func TestInitUntilAnswered(t *testing.T) {
	a, b := twoDevices(t)
	list := []impl.Env{}
	for i := range int64(4) {
		e := post(t, &a, b, 2, "m"+strconv.FormatInt(i, 10), 100+i)
		if !e.Has || e.Init != (impl.Init{Ident: a.Ident.Pub, Eph: public(100), One: 2}) || e.Msg.Head.N != i {
			t.Errorf("the envelope %d is %#v", i, e)
		}
		list = append(list, e)
	}
	fetch(t, &b, list[2], 200, "m2")
	fetch(t, &b, list[0], 201, "m0")
	checkOnes(t, b, 1)
	checkHelds(t, b, 1, impl.ActiveOf(a, 2))
	answer := post(t, &b, a, 1, "answer", 300)
	if answer.Has || answer.Init != (impl.Init{}) {
		t.Errorf("the answer has %#v", answer.Init)
	}
	late := post(t, &a, b, 2, "m4", 301)
	if !late.Has {
		t.Error("an answer that was not yet read ends the Init")
	}
	fetch(t, &a, answer, 400, "answer")
	if h := a.Peers[0].Held[0]; h.Has || h.Init != (impl.Init{}) {
		t.Errorf("the session has %#v", h.Init)
	}
	e := post(t, &a, b, 2, "m5", 500)
	if e.Has || e.Msg.Head.N != 0 || e.Msg.Head.Prev != 5 {
		t.Errorf("the envelope is %#v", e)
	}
	fetch(t, &b, e, 600, "m5")
	for i, m := range []impl.Env{list[3], late, list[1]} {
		fetch(t, &b, m, 700, []string{"m3", "m4", "m1"}[i])
	}
	for _, m := range append(list, late, e, answer) {
		if m.To == 2 {
			checkReceiveCode(t, "an envelope received twice", b, m, impl.DvNone)
		} else {
			checkReceiveCode(t, "an answer received twice", a, m, impl.DvNone)
		}
	}
	checkOnes(t, b, 1)
}

// Up to eight first messages are read in any order; each of them may be the one that begins the session.
func TestFirstMessagesInAnyOrder(t *testing.T) {
	source := rand.New(rand.NewSource(9))
	for range 12 {
		a, b := twoDevices(t)
		list := []impl.Env{}
		for i := range int64(8) {
			list = append(list, post(t, &a, b, 1, "m"+strconv.FormatInt(i, 10), 100+i))
		}
		for _, i := range source.Perm(8) {
			fetch(t, &b, list[i], 200+int64(i), "m"+strconv.Itoa(i))
			checkReceiveCode(t, "an envelope received twice", b, list[i], impl.DvNone)
		}
		checkOnes(t, b, 2)
		checkHelds(t, b, 1, impl.ActiveOf(a, 2))
		pingPong(t, &a, &b, 500)
	}
}

func TestFarFirstMessage(t *testing.T) {
	a, b := twoDevices(t)
	list := []impl.Env{}
	for i := range int64(10) {
		list = append(list, post(t, &a, b, 1, "m"+strconv.FormatInt(i, 10), 100+i))
	}
	checkReceiveCode(t, "a message nine beyond the first", b, list[9], impl.DvNone)
	fetch(t, &b, list[8], 200, "m8")
	fetch(t, &b, list[9], 201, "m9")
}

// Public keys of small order are keys as others are, though their secrets are 0.
func TestDevicesOfSmallOrder(t *testing.T) {
	a, b := twoDevices(t)
	b.Ident.Pub, b.Ones[0].Pair.Pub = zeros(32), zeros(32)
	e := post(t, &a, b, 1, "hello", 100)
	checkHelds(t, a, 2, realId(public(100), zeros(32)))
	checkReceiveCode(t, "an agreement with other keys", b, e, impl.DvNone)
	a, b = twoDevices(t)
	e = post(t, &a, b, 1, "hello", 100)
	e.Init.Ident = zeros(32)
	checkReceiveCode(t, "an Ident of small order", b, e, impl.DvNone)
}

// The peers are kept in order, whoever writes first.
func TestPeersInOrder(t *testing.T) {
	for _, order := range permutations(4) {
		sent := newDevice(t, 5, 0, 10)
		read := newDevice(t, 5, 0, 10)
		for _, i := range order {
			id := []int64{1, 4, 6, 9}[i]
			other := newDevice(t, id, 1, 100*id)
			post(t, &sent, other, 1, "hello", 1000+id)
			fetch(t, &read, post(t, &other, read, 0, "hello", 2000+id), 3000+id, "hello")
		}
		for _, d := range []impl.Device{sent, read} {
			for i, id := range []int64{1, 4, 6, 9} {
				if d.Peers[i].Id != id || d.Peers[i].Ident != public(100*id) {
					t.Errorf("the peer %d is %#v", i, d.Peers[i])
				}
			}
		}
	}
}

// One device has a session with each of several peers, which do not disturb each other.
func TestAllPeers(t *testing.T) {
	d := newDevice(t, 5, 0, 10)
	others := []impl.Device{}
	for _, id := range []int64{9, 1, 8, 2, 7, 3, 6, 4} {
		other := newDevice(t, id, id%2, 100*id)
		fetch(t, &other, post(t, &d, other, 1, "to "+strconv.FormatInt(id, 10), 1000+id), 2000+id, "to "+strconv.FormatInt(id, 10))
		others = append(others, other)
	}
	for i := range others {
		pingPong(t, &others[i], &d, 5000+int64(100*i))
		for j := range others[:i] {
			checkOneActive(t, d, others[j])
		}
	}
	if len(d.Peers) != 8 {
		t.Errorf("there are %d peers", len(d.Peers))
	}
}
