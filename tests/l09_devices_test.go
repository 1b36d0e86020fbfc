package tests

import (
	"math"
	"strconv"
	"strings"
	"testing"

	"loop.example/g00702/impl"
)

func somePair(salt int) impl.Pair {
	return impl.Pair{Key: text(32, salt), Pub: text(32, salt+1)}
}

// someHeld has an Init if n is even.
func someHeld(n int) impl.Held {
	h := impl.Held{Id: "0123456789abcde" + strconv.Itoa(n), Ad: text(64, n), S: fullSession()}
	if n%2 == 0 {
		h.Has, h.Init = true, someInit()
	}
	return h
}

func somePeer(id int64, held int) impl.Peer {
	p := impl.Peer{Id: id, Ident: text(32, 50+int(id))}
	for n := range held {
		p.Held = append(p.Held, someHeld(n))
	}
	return p
}

func someOnes(ids ...int64) []impl.One {
	out := []impl.One{}
	for i, id := range ids {
		out = append(out, impl.One{Id: id, Pair: somePair(60 + 2*i)})
	}
	return out
}

// fullDevice has a value in every field, and pairs that do not belong together.
func fullDevice() impl.Device {
	return impl.Device{
		Id: 5, User: 1, Ident: somePair(40), Signed: somePair(42), Ones: someOnes(1, 7, 999),
		Peers: []impl.Peer{somePeer(1, 1), somePeer(4, 4), somePeer(9, 2)},
	}
}

// A changedDevice differs from a valid one by what its name says.
type changedDevice struct {
	name string
	d    impl.Device
}

func deviceWith(name string, change func(*impl.Device)) changedDevice {
	d := fullDevice()
	change(&d)
	return changedDevice{name: name, d: d}
}

func farNumbers() []int64 {
	return []int64{math.MinInt64, math.MinInt64 + 1, -1 << 32, 1 << 32, 1<<32 + 1, math.MaxInt64}
}

func badIds() []int64 {
	return append([]int64{0, 10, -1, 11, 257}, farNumbers()...)
}

// allPairs are those of the device and of its first and last One.
func allPairs(d *impl.Device) []*impl.Pair {
	return []*impl.Pair{&d.Ident, &d.Signed, &d.Ones[0].Pair, &d.Ones[2].Pair}
}

// someHelds are the only one, the first and the last of four, and the last of all.
func someHelds(d *impl.Device) []*impl.Held {
	return []*impl.Held{&d.Peers[0].Held[0], &d.Peers[1].Held[0], &d.Peers[1].Held[3], &d.Peers[2].Held[1]}
}

func badDevices() []changedDevice {
	out := []changedDevice{{name: "the zero device"}}
	for _, id := range badIds() {
		out = append(out, deviceWith("the Id of the device", func(d *impl.Device) { d.Id = id }))
	}
	for _, user := range append([]int64{-1, 2, 3, 256}, farNumbers()...) {
		out = append(out, deviceWith("User", func(d *impl.Device) { d.User = user }))
	}
	for _, bad := range noKeys() {
		for i := range 4 {
			out = append(out,
				deviceWith("the Key of a Pair", func(d *impl.Device) { allPairs(d)[i].Key = bad }),
				deviceWith("the Pub of a Pair", func(d *impl.Device) { allPairs(d)[i].Pub = bad }))
		}
	}
	out = append(out, badOnes()...)
	out = append(out, badPeers()...)
	return append(out, badHelds()...)
}

func badOnes() []changedDevice {
	out := []changedDevice{}
	lists := [][]int64{
		{0}, {1000}, {-1}, {0, 1}, {999, 1000}, {-1, 1}, {1, 0}, {1, -1}, {1, 1001},
		{7, 7}, {1, 1, 2}, {1, 2, 2}, {2, 1}, {1, 3, 2}, {999, 1}, {3, 1, 2},
		{1, 2, 3, 4, 5, 6}, {1, 2, 3, 4, 5, 5}, {1, 2, 3, 4, 5, 6, 7}, {5, 4, 3, 2, 1, 0},
	}
	for _, n := range farNumbers() {
		lists = append(lists, []int64{n}, []int64{1, n}, []int64{n, 1})
	}
	for _, list := range lists {
		out = append(out, deviceWith("the Ids of the Ones", func(d *impl.Device) { d.Ones = someOnes(list...) }))
	}
	return out
}

func badPeers() []changedDevice {
	out := []changedDevice{}
	for _, id := range badIds() {
		for i := range 3 {
			out = append(out, deviceWith("the Id of a Peer", func(d *impl.Device) { d.Peers[i].Id = id }))
		}
	}
	for _, ids := range [][]int64{{5}, {1, 5}, {5, 9}, {1, 5, 9}, {1, 1}, {9, 9}, {1, 2, 2}, {2, 1}, {1, 9, 8}, {9, 1, 2}, {1, 2, 3, 4, 5, 6, 7, 8, 9}} {
		out = append(out, deviceWith("the Ids of the Peers", func(d *impl.Device) {
			d.Peers = nil
			for _, id := range ids {
				d.Peers = append(d.Peers, somePeer(id, 1))
			}
		}))
	}
	for i := range 3 {
		for _, bad := range noKeys() {
			out = append(out, deviceWith("the Ident of a Peer", func(d *impl.Device) { d.Peers[i].Ident = bad }))
		}
		for _, n := range []int{0, 5, 6} {
			out = append(out, deviceWith("the number of Held", func(d *impl.Device) { d.Peers[i].Held = somePeer(1, n).Held }))
		}
		out = append(out, deviceWith("an empty list of Held", func(d *impl.Device) { d.Peers[i].Held = []impl.Held{} }))
	}
	return out
}

func badHeldIds() []string {
	out := []string{"", "0", "0123456789abcde", "0123456789abcdef0", "0123456789abcdef01", "0123456789abcdeF", "A123456789abcdef", strings.Repeat("x", 1000)}
	for _, c := range []string{"g", "/", ":", "`", " ", "G", "@", "-", "\x00", "\xff", "*"} {
		for _, i := range []int{0, 7, 15} {
			out = append(out, replaced("0123456789abcdef", i, c))
		}
	}
	// These have 16 runes, or 16 bytes with a rune of two bytes.
	return append(out, "0123456789abcdeé", "0123456789abcdé")
}

func badInits() []impl.Init {
	out := []impl.Init{{}}
	for _, bad := range noKeys() {
		out = append(out, impl.Init{Ident: bad, Eph: text(32, 4), One: 5}, impl.Init{Ident: text(32, 3), Eph: bad, One: 5})
	}
	for _, n := range append([]int64{-1, 1000, 1001, 65536}, farNumbers()...) {
		out = append(out, impl.Init{Ident: text(32, 3), Eph: text(32, 4), One: n})
	}
	return out
}

func badHelds() []changedDevice {
	out := []changedDevice{}
	for i := range 4 {
		at := func(name string, change func(*impl.Held)) {
			out = append(out, deviceWith(name, func(d *impl.Device) { change(someHelds(d)[i]) }))
		}
		for _, id := range badHeldIds() {
			at("the Id of a Held", func(h *impl.Held) { h.Id = id })
		}
		for _, n := range []int{0, 32, 63, 65, 128} {
			at("Ad", func(h *impl.Held) { h.Ad = text(n, 1) })
		}
		for _, s := range []impl.Session{badSessions()[0], badSessions()[1], unpairedSessions()[0]} {
			at("the session of a Held", func(h *impl.Held) { h.S = s })
		}
		for _, init := range badInits() {
			at("Has with a wrong Init", func(h *impl.Held) { h.Has, h.Init = true, init })
		}
		for _, init := range []impl.Init{someInit(), {Ident: text(32, 3)}, {Eph: text(32, 4)}, {One: 1}, {Ident: "x"}, {Eph: "x"}} {
			at("an Init without Has", func(h *impl.Held) { h.Has, h.Init = false, init })
		}
	}
	for _, two := range [][2]int{{0, 1}, {0, 3}, {1, 2}, {2, 3}, {1, 3}} {
		out = append(out, deviceWith("two Held with the same Id", func(d *impl.Device) {
			d.Peers[1].Held[two[1]].Id = d.Peers[1].Held[two[0]].Id
		}))
	}
	for _, s := range append(badSessions(), unpairedSessions()...) {
		out = append(out, deviceWith("the session of a Held", func(d *impl.Device) { d.Peers[1].Held[2].S = s }))
	}
	return out
}

func goodDevices() []changedDevice {
	out := []changedDevice{
		deviceWith("the whole device", func(d *impl.Device) {}),
		deviceWith("no Ones", func(d *impl.Device) { d.Ones = nil }),
		deviceWith("no Peers", func(d *impl.Device) { d.Peers = nil }),
		deviceWith("empty lists", func(d *impl.Device) { d.Ones, d.Peers = []impl.One{}, []impl.Peer{} }),
		deviceWith("equal keys", func(d *impl.Device) {
			d.Ident, d.Signed, d.Ones[0].Pair = d.Ones[1].Pair, d.Ones[1].Pair, d.Ones[1].Pair
		}),
		deviceWith("keys of zeros", func(d *impl.Device) { d.Ident, d.Peers[0].Ident = impl.Pair{Key: zeros(32), Pub: zeros(32)}, zeros(32) }),
		deviceWith("two Peers with the same Ident", func(d *impl.Device) { d.Peers[0].Ident = d.Peers[1].Ident }),
		deviceWith("a Peer with the Ident of the device", func(d *impl.Device) { d.Peers[0].Ident = d.Ident.Pub }),
		deviceWith("two Peers with the same sessions", func(d *impl.Device) { d.Peers[0].Held = somePeer(1, 4).Held }),
		deviceWith("all Peers", func(d *impl.Device) {
			d.Peers = nil
			for _, id := range []int64{1, 2, 3, 4, 6, 7, 8, 9} {
				d.Peers = append(d.Peers, somePeer(id, 4))
			}
		}),
	}
	for _, id := range []int64{1, 9} {
		out = append(out, deviceWith("the Id of the device", func(d *impl.Device) { d.Id, d.Peers = id, d.Peers[1:2] }))
		out = append(out, deviceWith("the Id of a Peer", func(d *impl.Device) { d.Peers = []impl.Peer{somePeer(id, 1)} }))
	}
	for _, user := range []int64{0, 1} {
		out = append(out, deviceWith("User", func(d *impl.Device) { d.User = user }))
	}
	for _, ids := range [][]int64{{1}, {999}, {1, 2}, {998, 999}, {1, 2, 3, 4}, {1, 2, 3, 4, 5}, {5, 100, 101, 998, 999}} {
		out = append(out, deviceWith("the Ids of the Ones", func(d *impl.Device) { d.Ones = someOnes(ids...) }))
	}
	for n := 1; n <= 4; n++ {
		out = append(out, deviceWith("the number of Held", func(d *impl.Device) { d.Peers[2].Held = somePeer(9, n).Held }))
	}
	return append(out, goodHelds()...)
}

func goodHelds() []changedDevice {
	out := []changedDevice{}
	at := func(name string, change func(*impl.Held)) {
		out = append(out, deviceWith(name, func(d *impl.Device) { change(&d.Peers[1].Held[1]) }))
	}
	for _, id := range []string{"0000000000000000", "9999999999999999", "aaaaaaaaaaaaaaaa", "ffffffffffffffff", "fedcba9876543210"} {
		at("the Id of a Held", func(h *impl.Held) { h.Id = id })
	}
	for _, one := range []int64{0, 1, 999} {
		at("the One of an Init", func(h *impl.Held) { h.Has, h.Init = true, impl.Init{Ident: text(32, 3), Eph: text(32, 4), One: one} })
	}
	at("an Init of zeros", func(h *impl.Held) { h.Has, h.Init = true, impl.Init{Ident: zeros(32), Eph: zeros(32)} })
	at("no Init", func(h *impl.Held) { h.Has, h.Init = false, impl.Init{} })
	at("an Ad of zeros", func(h *impl.Held) { h.Ad = zeros(64) })
	for _, s := range goodSessions() {
		at("the session of a Held", func(h *impl.Held) { h.S = s })
	}
	return out
}

func TestDeviceConstants(t *testing.T) {
	got := []int{impl.MaxHeld, impl.MaxOnes, impl.MaxSeed, impl.DvOk, impl.DvForm, impl.DvTo, impl.DvNone, impl.DvOne, impl.DvIdent}
	for i, want := range []int{4, 5, 1000000000, 0, 1, 2, 3, 4, 5} {
		if got[i] != want {
			t.Errorf("constant %d is %d; want %d", i, got[i], want)
		}
	}
}

func TestDeviceOk(t *testing.T) {
	check := func(c changedDevice, want bool) {
		t.Helper()
		if realDeviceOk(c.d) != want {
			t.Fatalf("%s: the test itself is wrong: %#v", c.name, c.d)
		}
		g := guardedDevice(c.d)
		if impl.DeviceOk(g.d) != want || impl.DeviceOk(c.d) != want {
			t.Errorf("%s: DeviceOk(%#v) is %v", c.name, c.d, !want)
		}
		g.check(t, "DeviceOk")
	}
	for _, c := range goodDevices() {
		check(c, true)
	}
	for _, c := range badDevices() {
		check(c, false)
	}
}

// The fixed results of all functions that take a device.
func TestInvalidDevices(t *testing.T) {
	for _, c := range badDevices() {
		g := guardedDevice(c.d)
		for _, n := range []int64{0, 1, 7} {
			if b, ok := impl.BundleOf(g.d, n); ok || b != (impl.Bundle{}) {
				t.Errorf("%s: BundleOf = %#v, %v", c.name, b, ok)
			}
		}
		for peer := range int64(11) {
			checkSame(t, c.name+": ActiveOf", impl.ActiveOf(g.d, peer), "")
		}
		g.check(t, "BundleOf and ActiveOf")
		checkSendCode(t, c.name, c.d, 3, bareBundle(), "data", 1, impl.DvForm)
		checkSendCode(t, c.name, c.d, 4, bareBundle(), "data", 1, impl.DvForm)
		e := bareEnv()
		e.From, e.To = 4, 5
		checkReceiveCode(t, c.name, c.d, e, impl.DvForm)
		// To is none of the device, which is checked later.
		e.To = 6
		checkReceiveCode(t, c.name, c.d, e, impl.DvForm)
	}
}

func TestPairOf(t *testing.T) {
	for _, key := range append(someKeys(), text(32, 9)) {
		p, ok := impl.PairOf(key)
		if !ok || p != (impl.Pair{Key: key, Pub: realPublic(t, key)}) {
			t.Errorf("PairOf(%q) = %#v, %v", key, p, ok)
		}
	}
	for _, bad := range append(noKeys(), strings.Repeat("x", 1000)) {
		if p, ok := impl.PairOf(bad); ok || p != (impl.Pair{}) {
			t.Errorf("PairOf(%q) = %#v, %v", bad, p, ok)
		}
	}
}

func TestNewDevice(t *testing.T) {
	for _, id := range []int64{1, 2, 5, 9} {
		for _, user := range []int64{0, 1} {
			for _, seed := range []int64{0, 1, 10, 999999999, 1000000000} {
				want := impl.Device{Id: id, User: user, Ident: realPair(t, seed), Signed: realPair(t, seed+1)}
				want.Ones = []impl.One{{Id: 1, Pair: realPair(t, seed+2)}, {Id: 2, Pair: realPair(t, seed+3)}}
				got, ok := impl.NewDevice(id, user, seed)
				if !ok || !sameDevice(got, want) || !impl.DeviceOk(got) {
					t.Errorf("NewDevice(%d, %d, %d) = %#v, %v; want %#v", id, user, seed, got, ok, want)
				}
			}
		}
	}
}

func TestNewDeviceRejects(t *testing.T) {
	check := func(id int64, user int64, seed int64) {
		t.Helper()
		if d, ok := impl.NewDevice(id, user, seed); ok || !sameDevice(d, impl.Device{}) {
			t.Errorf("NewDevice(%d, %d, %d) = %#v, %v; want false", id, user, seed, d, ok)
		}
	}
	for _, id := range badIds() {
		check(id, 0, 10)
		check(id, -1, -1)
	}
	for _, user := range append([]int64{-1, 2, 3, 256}, farNumbers()...) {
		check(1, user, 10)
	}
	for _, seed := range badSeeds() {
		check(1, 0, seed)
	}
}

func badSeeds() []int64 {
	return append([]int64{-1, -2, impl.MaxSeed + 1, impl.MaxSeed + 2}, farNumbers()...)
}

// Each device has Ones of its own.
func TestNewDevicesShareNothing(t *testing.T) {
	a, _ := impl.NewDevice(1, 0, 10)
	b, _ := impl.NewDevice(1, 0, 10)
	if !sameDevice(a, b) {
		t.Errorf("equal arguments yield %#v and %#v", a, b)
	}
	a.Ones[0].Id, a.Ones[1].Pair.Key = 77, "x"
	if again, _ := impl.NewDevice(1, 0, 10); !sameDevice(again, b) {
		t.Errorf("NewDevice has changed to %#v", again)
	}
}

func checkBundleOf(t *testing.T, d impl.Device, one int64, want impl.Bundle) {
	t.Helper()
	g := guardedDevice(d)
	if b, ok := impl.BundleOf(g.d, one); !ok || b != want {
		t.Errorf("BundleOf(%d) = %#v, %v; want %#v", one, b, ok, want)
	}
	g.check(t, "BundleOf")
}

func TestBundleOf(t *testing.T) {
	for _, c := range goodDevices() {
		bare := impl.Bundle{Ident: c.d.Ident.Pub, Signed: c.d.Signed.Pub}
		found := map[int64]bool{}
		for _, one := range c.d.Ones {
			with := bare
			with.One, with.OneId = one.Pair.Pub, one.Id
			checkBundleOf(t, c.d, one.Id, with)
			found[one.Id] = true
		}
		for _, id := range append([]int64{-1, 0, 1, 2, 3, 6, 7, 8, 998, 999, 1000}, farNumbers()...) {
			if !found[id] {
				checkBundleOf(t, c.d, id, bare)
			}
		}
	}
}

func TestBundleOfNewDevice(t *testing.T) {
	d := newDevice(t, 1, 0, 10)
	checkBundleOf(t, d, 1, impl.Bundle{Ident: public(10), Signed: public(11), One: public(12), OneId: 1})
	checkBundleOf(t, d, 2, impl.Bundle{Ident: public(10), Signed: public(11), One: public(13), OneId: 2})
	checkBundleOf(t, d, 3, impl.Bundle{Ident: public(10), Signed: public(11)})
	checkBundleOf(t, d, 0, impl.Bundle{Ident: public(10), Signed: public(11)})
}

func TestActiveOf(t *testing.T) {
	for _, c := range goodDevices() {
		g := guardedDevice(c.d)
		for _, id := range append([]int64{1, 2, 3, 4, 5, 6, 7, 8, 9}, badIds()...) {
			want := ""
			if p := findPeer(c.d.Peers, id); p != nil {
				want = p.Held[0].Id
			}
			checkSame(t, c.name+": ActiveOf", impl.ActiveOf(g.d, id), want)
		}
		g.check(t, "ActiveOf")
	}
	d := fullDevice()
	d.Peers[1].Held[0], d.Peers[1].Held[2] = d.Peers[1].Held[2], d.Peers[1].Held[0]
	checkSame(t, "ActiveOf", impl.ActiveOf(d, 4), "0123456789abcde2")
	checkSame(t, "ActiveOf", impl.ActiveOf(d, 9), "0123456789abcde0")
}
