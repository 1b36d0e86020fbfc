package tests

import (
	"reflect"
	"sort"
	"strings"
	"testing"

	"loop.example/g00702/impl"
)

// This file follows chapter 9 step by step, with the sessions of l07_model_test.go.
// Every call of DeviceSend and DeviceReceive in these tests is compared with it.

func realKeyFrom(seed int64) string {
	out := make([]byte, 8)
	for i := range out {
		out[7-i] = byte(seed >> (8 * i))
	}
	return realSha256("key" + string(out))
}

func realPair(t *testing.T, seed int64) impl.Pair {
	t.Helper()
	key := realKeyFrom(seed)
	return impl.Pair{Key: key, Pub: realPublic(t, key)}
}

func realPairOk(p impl.Pair) bool {
	return isRealKey(p.Key) && isRealKey(p.Pub)
}

func realInitOk(i impl.Init) bool {
	return isRealKey(i.Ident) && isRealKey(i.Eph) && i.One >= 0 && i.One <= 999
}

func realHasOk(has bool, i impl.Init) bool {
	return has && realInitOk(i) || !has && i == impl.Init{}
}

func realHeldOk(h impl.Held) bool {
	return len(h.Id) == 16 && strings.Trim(h.Id, "0123456789abcdef") == "" && len(h.Ad) == 64 && realSessionOk(h.S) && realHasOk(h.Has, h.Init)
}

func realPeerOk(p impl.Peer) bool {
	ids := map[string]bool{}
	for _, h := range p.Held {
		if !realHeldOk(h) {
			return false
		}
		ids[h.Id] = true
	}
	return p.Id >= 1 && p.Id <= 9 && isRealKey(p.Ident) && len(p.Held) >= 1 && len(p.Held) <= 4 && len(ids) == len(p.Held)
}

func realDeviceOk(d impl.Device) bool {
	if d.Id < 1 || d.Id > 9 || d.User < 0 || d.User > 1 || !realPairOk(d.Ident) || !realPairOk(d.Signed) || len(d.Ones) > 5 {
		return false
	}
	for i, one := range d.Ones {
		if one.Id < 1 || one.Id > 999 || !realPairOk(one.Pair) || i > 0 && d.Ones[i-1].Id >= one.Id {
			return false
		}
	}
	for i, p := range d.Peers {
		if !realPeerOk(p) || p.Id == d.Id || i > 0 && d.Peers[i-1].Id >= p.Id {
			return false
		}
	}
	return true
}

func realBundleOk(b impl.Bundle) bool {
	if !isRealKey(b.Ident) || !isRealKey(b.Signed) {
		return false
	}
	return b.One == "" && b.OneId == 0 || isRealKey(b.One) && b.OneId >= 1 && b.OneId <= 999
}

func realEnvOk(e impl.Env) bool {
	return e.From >= 1 && e.From <= 9 && e.To >= 1 && e.To <= 9 && e.From != e.To && realMsgOk(e.Msg) && realHasOk(e.Has, e.Init)
}

// cloned shares nothing with the device; its empty lists are nil.
func cloned(d impl.Device) impl.Device {
	out := d
	out.Ones = append([]impl.One(nil), d.Ones...)
	out.Peers = nil
	for _, p := range d.Peers {
		list := []impl.Held(nil)
		for _, h := range p.Held {
			h.S = copied(h.S)
			list = append(list, h)
		}
		p.Held = list
		out.Peers = append(out.Peers, p)
	}
	return out
}

func sameDevice(a impl.Device, b impl.Device) bool {
	return reflect.DeepEqual(cloned(a), cloned(b))
}

// findPeer returns the peer of the list with this Id, or nil.
func findPeer(list []impl.Peer, id int64) *impl.Peer {
	for i := range list {
		if list[i].Id == id {
			return &list[i]
		}
	}
	return nil
}

// addPeer puts a peer without sessions in its place.
func addPeer(d *impl.Device, id int64, ident string) *impl.Peer {
	d.Peers = append(d.Peers, impl.Peer{Id: id, Ident: ident})
	sort.Slice(d.Peers, func(i int, j int) bool { return d.Peers[i].Id < d.Peers[j].Id })
	return findPeer(d.Peers, id)
}

func realId(eph string, ident string) string {
	return impl.HexOf(realSha256(eph + ident)[:8])
}

func realDeviceSend(t *testing.T, before impl.Device, to int64, b impl.Bundle, data string, seed int64) (impl.Device, impl.Env, int64) {
	t.Helper()
	if !realDeviceOk(before) || !realBundleOk(b) || to < 1 || to > 9 || to == before.Id || len(data) > 400 || seed < 0 || seed > 1000000000 {
		return impl.Device{}, impl.Env{}, impl.DvForm
	}
	d := cloned(before)
	p := findPeer(d.Peers, to)
	if p != nil && p.Ident != b.Ident {
		return impl.Device{}, impl.Env{}, impl.DvIdent
	}
	if p == nil {
		p = addPeer(&d, to, b.Ident)
		eph := realPair(t, seed)
		own := realKeyFrom(seed + 1)
		s := impl.Session{Own: own, Pub: realPublic(t, own), Theirs: b.Signed}
		s.Root, s.SendKey = realRootStep(t, realShared(t, d.Ident.Key, eph.Key, b), realDh(t, own, b.Signed))
		init := impl.Init{Ident: d.Ident.Pub, Eph: eph.Pub, One: b.OneId}
		p.Held = []impl.Held{{Id: realId(eph.Pub, b.Ident), Ad: d.Ident.Pub + b.Ident, S: s, Has: true, Init: init}}
	}
	s, m, code := realSealTo(t, p.Held[0].S, p.Held[0].Ad, data)
	if code != impl.SnOk {
		return impl.Device{}, impl.Env{}, impl.DvNone
	}
	p.Held[0].S = s
	return d, impl.Env{From: d.Id, To: to, Has: p.Held[0].Has, Init: p.Held[0].Init, Msg: m}, impl.DvOk
}

// realBegins tells whether the envelope begins a session, whose Id is the second result.
func realBegins(d impl.Device, e impl.Env) (bool, string) {
	id := realId(e.Init.Eph, d.Ident.Pub)
	if p := findPeer(d.Peers, e.From); p != nil {
		for _, h := range p.Held {
			if h.Id == id {
				return false, id
			}
		}
	}
	return e.Has, id
}

func realDeviceReceive(t *testing.T, before impl.Device, e impl.Env, seed int64) (impl.Device, string, int64) {
	t.Helper()
	if !realDeviceOk(before) || !realEnvOk(e) || seed < 0 || seed > 1000000000 {
		return impl.Device{}, "", impl.DvForm
	}
	if e.To != before.Id {
		return impl.Device{}, "", impl.DvTo
	}
	d := cloned(before)
	p := findPeer(d.Peers, e.From)
	if e.Has && p != nil && p.Ident != e.Init.Ident {
		return impl.Device{}, "", impl.DvIdent
	}
	if begins, id := realBegins(d, e); begins {
		return realBegin(t, d, e, id, realKeyFrom(seed))
	}
	if p == nil {
		return impl.Device{}, "", impl.DvNone
	}
	for i, h := range p.Held {
		s, data, code := realOpenFrom(t, h.S, h.Ad, e.Msg, realKeyFrom(seed))
		if code == impl.SnOk {
			list := []impl.Held{{Id: h.Id, Ad: h.Ad, S: s}}
			list = append(list, p.Held[:i]...)
			p.Held = append(list, p.Held[i+1:]...)
			return d, data, impl.DvOk
		}
	}
	return impl.Device{}, "", impl.DvNone
}

func realBegin(t *testing.T, d impl.Device, e impl.Env, id string, fresh string) (impl.Device, string, int64) {
	t.Helper()
	secrets := realDh(t, d.Signed.Key, e.Init.Ident) + realDh(t, d.Ident.Key, e.Init.Eph) + realDh(t, d.Signed.Key, e.Init.Eph)
	rest := []impl.One(nil)
	for _, one := range d.Ones {
		if one.Id == e.Init.One {
			secrets += realDh(t, one.Pair.Key, e.Init.Eph)
		} else {
			rest = append(rest, one)
		}
	}
	if e.Init.One != 0 && len(rest) == len(d.Ones) {
		return impl.Device{}, "", impl.DvOne
	}
	d.Ones = rest
	root := realExpand(t, realHmac(zeros(32), secrets), "x3dh", 32)
	s := impl.Session{Root: root, Own: d.Signed.Key, Pub: realPublic(t, d.Signed.Key)}
	h := impl.Held{Id: id, Ad: e.Init.Ident + d.Ident.Pub}
	s, data, code := realOpenFrom(t, s, h.Ad, e.Msg, fresh)
	if code != impl.SnOk {
		return impl.Device{}, "", impl.DvNone
	}
	h.S = s
	p := findPeer(d.Peers, e.From)
	if p == nil {
		p = addPeer(&d, e.From, e.Init.Ident)
	}
	p.Held = append([]impl.Held{h}, p.Held...)
	for len(p.Held) > 4 {
		p.Held = p.Held[:len(p.Held)-1]
	}
	return d, data, impl.DvOk
}

// roomy returns a copy of a list with spare capacity, which is filled.
func roomy[T any](list []T, spare T) []T {
	out := append([]T{}, list...)
	return append(out, spare, spare, spare)[:len(list)]
}

// wholeDevice returns a copy of all that the lists of a device hold, with what is in their spare capacity.
func wholeDevice(d impl.Device) impl.Device {
	d.Ones = d.Ones[:cap(d.Ones)]
	d.Peers = append([]impl.Peer(nil), d.Peers[:cap(d.Peers)]...)
	for i, p := range d.Peers {
		d.Peers[i].Held = append([]impl.Held(nil), p.Held[:cap(p.Held)]...)
		for j, h := range d.Peers[i].Held {
			d.Peers[i].Held[j].S.Skips = h.S.Skips[:cap(h.S.Skips)]
		}
	}
	return cloned(d)
}

// A memory is where a list is, with its spare capacity.
type memory struct {
	name  string
	start uintptr
	end   uintptr
}

func memoryOf[T any](name string, list []T) memory {
	v := reflect.ValueOf(list)
	return memory{name: name, start: v.Pointer(), end: v.Pointer() + uintptr(cap(list))*v.Type().Elem().Size()}
}

func memories(name string, d impl.Device) []memory {
	out := []memory{memoryOf(name+" Ones", d.Ones), memoryOf(name+" Peers", d.Peers)}
	for _, p := range d.Peers[:cap(d.Peers)] {
		out = append(out, memoryOf(name+" Held", p.Held))
		for _, h := range p.Held[:cap(p.Held)] {
			out = append(out, memoryOf(name+" Skips", h.S.Skips))
		}
	}
	return out
}

// A deviceGuard keeps what an argument was, with spare capacity behind each of its lists.
type deviceGuard struct {
	d   impl.Device
	was impl.Device
}

func guardedDevice(d impl.Device) deviceGuard {
	d = cloned(d)
	for i, p := range d.Peers {
		for j, h := range p.Held {
			p.Held[j].S.Skips = roomy(h.S.Skips, impl.Skip{Pub: "spare", Key: "capacity"})
		}
		d.Peers[i].Held = roomy(p.Held, impl.Held{Id: "spare"})
	}
	d.Ones = roomy(d.Ones, impl.One{Id: -7})
	d.Peers = roomy(d.Peers, impl.Peer{Id: -7, Ident: "spare"})
	return deviceGuard{d: d, was: wholeDevice(d)}
}

func (g deviceGuard) check(t *testing.T, name string) {
	t.Helper()
	if !reflect.DeepEqual(wholeDevice(g.d), g.was) {
		t.Errorf("%s: the argument has changed", name)
	}
}

// checkResult also looks for memory that two lists of the argument and the result share.
func (g deviceGuard) checkResult(t *testing.T, name string, got impl.Device, want impl.Device) {
	t.Helper()
	g.check(t, name)
	if !sameDevice(got, want) {
		t.Errorf("%s: the device is %#v; want %#v", name, got, want)
	}
	checkApart(t, name, append(memories("the argument's", g.d), memories("the result's", got)...))
}

// checkApart looks for memory that two of the lists share.
func checkApart(t *testing.T, name string, list []memory) {
	t.Helper()
	sort.Slice(list, func(i int, j int) bool { return list[i].start < list[j].start })
	last := memory{}
	for _, m := range list {
		if m.start == m.end {
			continue
		}
		if m.start < last.end {
			t.Errorf("%s: %s share memory with %s", name, m.name, last.name)
		}
		last = m
	}
}

// deviceSend is DeviceSend, with its result and its argument checked.
func deviceSend(t *testing.T, d impl.Device, to int64, b impl.Bundle, data string, seed int64) (impl.Device, impl.Env, int64) {
	t.Helper()
	want, wantEnv, wantCode := realDeviceSend(t, d, to, b, data, seed)
	g := guardedDevice(d)
	got, e, code := impl.DeviceSend(g.d, to, b, data, seed)
	if code != wantCode || e != wantEnv {
		t.Errorf("DeviceSend = %#v, %d; want %#v, %d", e, code, wantEnv, wantCode)
	}
	g.checkResult(t, "DeviceSend", got, want)
	if code == impl.DvOk && (!impl.DeviceOk(want) || impl.EnvBytes(e) == "") {
		t.Errorf("DeviceSend returns what is not valid: %#v, %#v", want, e)
	}
	return want, wantEnv, wantCode
}

// deviceReceive is DeviceReceive, with its result and its argument checked.
func deviceReceive(t *testing.T, d impl.Device, e impl.Env, seed int64) (impl.Device, string, int64) {
	t.Helper()
	want, wantData, wantCode := realDeviceReceive(t, d, e, seed)
	g := guardedDevice(d)
	got, data, code := impl.DeviceReceive(g.d, e, seed)
	if code != wantCode || data != wantData {
		t.Errorf("DeviceReceive = %q, %d; want %q, %d", data, code, wantData, wantCode)
	}
	g.checkResult(t, "DeviceReceive", got, want)
	if code == impl.DvOk && !impl.DeviceOk(want) {
		t.Errorf("DeviceReceive returns a device that is not valid: %#v", want)
	}
	return want, wantData, wantCode
}
