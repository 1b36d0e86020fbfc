package tests

import (
	"math/big"
	"reflect"
	"slices"
	"testing"

	"loop.example/g00702/impl"
)

// This file follows chapter 7 step by step, with lists and the standard library.
// Every call of SealTo and OpenFrom in these tests is compared with it.

func isRealKey(s string) bool {
	return len(s) == 32
}

func realSessionOk(s impl.Session) bool {
	for _, key := range []string{s.Root, s.Own, s.Pub} {
		if !isRealKey(key) {
			return false
		}
	}
	for _, key := range []string{s.Theirs, s.SendKey, s.RecvKey} {
		if key != "" && !isRealKey(key) {
			return false
		}
	}
	for _, n := range []int64{s.SendN, s.Prev, s.RecvN} {
		if n < 0 || n > 1000 {
			return false
		}
	}
	if len(s.Skips) > 20 {
		return false
	}
	for i, a := range s.Skips {
		if !isRealKey(a.Pub) || a.N < 0 || a.N > 1000 || !isRealKey(a.Key) {
			return false
		}
		for _, b := range s.Skips[:i] {
			if a.Pub == b.Pub && a.N == b.N {
				return false
			}
		}
	}
	if (s.Theirs == "") != (s.SendKey == "") {
		return false
	}
	return s.Theirs != "" || s.RecvKey == ""
}

func realMsgOk(m impl.Msg) bool {
	h := m.Head
	return isRealKey(h.Pub) && h.Prev >= 0 && h.Prev <= 1000 && h.N >= 0 && h.N < 1000 && len(m.Sealed) >= 32 && len(m.Sealed) <= 432
}

func realHead(h impl.Head) string {
	return h.Pub + word(h.Prev) + word(h.N)
}

func realChainStep(key string) (string, string) {
	return realHmac(key, "\x02"), realHmac(key, "\x01")
}

func realRootStep(t *testing.T, root string, dh string) (string, string) {
	t.Helper()
	out := realExpand(t, realHmac(root, dh), "root", 64)
	return out[:32], out[32:]
}

func realPublic(t *testing.T, key string) string {
	t.Helper()
	return realDh(t, key, little(big.NewInt(9)))
}

// realOpenSeal decrypts by sealing, since the cipher undoes itself.
func realOpenSeal(t *testing.T, key string, ad string, sealed string) (string, bool) {
	t.Helper()
	size := len(sealed) - 32
	data := realSeal(t, key, ad, sealed[:size])[:size]
	return data, realSeal(t, key, ad, data) == sealed
}

func copied(s impl.Session) impl.Session {
	s.Skips = append([]impl.Skip(nil), s.Skips...)
	return s
}

func sameSession(a impl.Session, b impl.Session) bool {
	return reflect.DeepEqual(copied(a), copied(b))
}

func realSealTo(t *testing.T, s impl.Session, ad string, data string) (impl.Session, impl.Msg, int64) {
	t.Helper()
	switch {
	case !realSessionOk(s) || len(ad)+36 > 300 || len(data) > 400:
		return impl.Session{}, impl.Msg{}, impl.SnForm
	case s.SendKey == "":
		return impl.Session{}, impl.Msg{}, impl.SnNone
	case s.SendN == 1000:
		return impl.Session{}, impl.Msg{}, impl.SnFull
	}
	out := copied(s)
	next, now := realChainStep(s.SendKey)
	head := impl.Head{Pub: s.Pub, Prev: s.Prev, N: s.SendN}
	out.SendKey = next
	out.SendN = s.SendN + 1
	return out, impl.Msg{Head: head, Sealed: realSeal(t, now, ad+realHead(head), data)}, impl.SnOk
}

func realSkip(s *impl.Session, n int64) bool {
	if n > s.RecvN+8 {
		return false
	}
	for s.RecvN < n {
		next, now := realChainStep(s.RecvKey)
		for i, skip := range s.Skips {
			if skip.Pub == s.Theirs && skip.N == s.RecvN {
				s.Skips = slices.Delete(s.Skips, i, i+1)
				break
			}
		}
		s.Skips = append(s.Skips, impl.Skip{Pub: s.Theirs, N: s.RecvN, Key: now})
		for len(s.Skips) > 20 {
			s.Skips = s.Skips[1:]
		}
		s.RecvKey = next
		s.RecvN++
	}
	return true
}

func realTurn(t *testing.T, s *impl.Session, pub string, fresh string) {
	t.Helper()
	s.Prev = s.SendN
	s.SendN = 0
	s.RecvN = 0
	s.Theirs = pub
	s.Root, s.RecvKey = realRootStep(t, s.Root, realDh(t, s.Own, s.Theirs))
	s.Own = fresh
	s.Pub = realPublic(t, fresh)
	s.Root, s.SendKey = realRootStep(t, s.Root, realDh(t, s.Own, s.Theirs))
}

func realOpenFrom(t *testing.T, before impl.Session, ad string, m impl.Msg, fresh string) (impl.Session, string, int64) {
	t.Helper()
	if !realSessionOk(before) || !realMsgOk(m) || !isRealKey(fresh) || len(ad)+36 > 300 {
		return impl.Session{}, "", impl.SnForm
	}
	s := copied(before)
	for i, skip := range s.Skips {
		if skip.Pub == m.Head.Pub && skip.N == m.Head.N {
			data, ok := realOpenSeal(t, skip.Key, ad+realHead(m.Head), m.Sealed)
			if !ok {
				return impl.Session{}, "", impl.SnAuth
			}
			s.Skips = slices.Delete(s.Skips, i, i+1)
			return s, data, impl.SnOk
		}
	}
	if m.Head.Pub != s.Theirs {
		if s.RecvKey != "" && !realSkip(&s, m.Head.Prev) {
			return impl.Session{}, "", impl.SnSkip
		}
		realTurn(t, &s, m.Head.Pub, fresh)
	}
	if s.RecvKey == "" {
		return impl.Session{}, "", impl.SnNone
	}
	if m.Head.N < s.RecvN {
		return impl.Session{}, "", impl.SnOld
	}
	if !realSkip(&s, m.Head.N) {
		return impl.Session{}, "", impl.SnSkip
	}
	next, now := realChainStep(s.RecvKey)
	data, ok := realOpenSeal(t, now, ad+realHead(m.Head), m.Sealed)
	if !ok {
		return impl.Session{}, "", impl.SnAuth
	}
	s.RecvKey = next
	s.RecvN++
	return s, data, impl.SnOk
}

// A guard keeps what an argument was, with spare capacity behind its Skips.
type guard struct {
	s     impl.Session
	skips []impl.Skip
}

func guarded(s impl.Session) guard {
	whole := append([]impl.Skip{}, s.Skips...)
	for i := range int64(4) {
		whole = append(whole, impl.Skip{Pub: "spare", N: i, Key: "capacity"})
	}
	g := guard{s: s, skips: append([]impl.Skip{}, whole...)}
	g.s.Skips = whole[:len(s.Skips)]
	return g
}

func (g guard) check(t *testing.T, name string) {
	t.Helper()
	if !slices.Equal(g.s.Skips[:len(g.skips)], g.skips) {
		t.Errorf("%s: the Skips of the argument have changed", name)
	}
}

// checkResult writes over the Skips of a result, behind which the argument must stay as it was.
func (g guard) checkResult(t *testing.T, name string, got impl.Session, want impl.Session) {
	t.Helper()
	g.check(t, name)
	if !sameSession(got, want) {
		t.Errorf("%s: the session is %#v; want %#v", name, got, want)
	}
	all := got.Skips[:cap(got.Skips)]
	for i := range all {
		all[i] = impl.Skip{Pub: "written", Key: "over"}
	}
	g.check(t, name+", written over")
}

// sealTo is SealTo, with its result and its argument checked.
func sealTo(t *testing.T, s impl.Session, ad string, data string) (impl.Session, impl.Msg, int64) {
	t.Helper()
	want, wantMsg, wantCode := realSealTo(t, s, ad, data)
	g := guarded(s)
	got, m, code := impl.SealTo(g.s, ad, data)
	if code != wantCode || m != wantMsg {
		t.Errorf("SealTo = %#v, %d; want %#v, %d", m, code, wantMsg, wantCode)
	}
	g.checkResult(t, "SealTo", got, want)
	if code == impl.SnOk && !impl.SessionOk(want) {
		t.Errorf("SealTo returns a session that is not valid: %#v", want)
	}
	return want, wantMsg, wantCode
}

// openFrom is OpenFrom, with its result and its argument checked.
func openFrom(t *testing.T, s impl.Session, ad string, m impl.Msg, fresh string) (impl.Session, string, int64) {
	t.Helper()
	want, wantData, wantCode := realOpenFrom(t, s, ad, m, fresh)
	g := guarded(s)
	got, data, code := impl.OpenFrom(g.s, ad, m, fresh)
	if code != wantCode || data != wantData {
		t.Errorf("OpenFrom = %q, %d; want %q, %d", data, code, wantData, wantCode)
	}
	g.checkResult(t, "OpenFrom", got, want)
	if code == impl.SnOk && !impl.SessionOk(want) {
		t.Errorf("OpenFrom returns a session that is not valid: %#v", want)
	}
	return want, wantData, wantCode
}
