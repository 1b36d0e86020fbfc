package tests

import (
	"math"
	"strings"
	"testing"

	"loop.example/g00702/impl"
)

func public(seed int64) string {
	return impl.PublicOf(impl.KeyFrom(seed))
}

func someBundle() impl.Bundle {
	return impl.Bundle{Ident: public(3), Signed: public(4), One: public(5), OneId: 7}
}

func bareBundle() impl.Bundle {
	return impl.Bundle{Ident: public(3), Signed: public(4)}
}

// realShared follows the document with the standard library.
func realShared(t *testing.T, ident string, eph string, b impl.Bundle) string {
	t.Helper()
	input := realDh(t, ident, b.Signed) + realDh(t, eph, b.Ident) + realDh(t, eph, b.Signed)
	if b.One != "" {
		input += realDh(t, eph, b.One)
	}
	return realExpand(t, realHmac(zeros(32), input), "x3dh", 32)
}

// The expected values were computed with another implementation of X25519 and HKDF.
func TestSharedVectors(t *testing.T) {
	checkHex(t, "SharedA with One", impl.SharedA(impl.KeyFrom(1), impl.KeyFrom(2), someBundle()), "206ee593c85a3a5cc0ce93cbd1e2d156a4702a1c172c5809328689f0eba8ddcd")
	checkHex(t, "SharedA without One", impl.SharedA(impl.KeyFrom(1), impl.KeyFrom(2), bareBundle()), "063c8013c2b752a019f16765c726e2ad413be27779e883e23d5dcb504d744929")
	checkSame(t, "IdOf", impl.IdOf(public(1), public(2)), "9107ca64569be168")
}

func TestSharedExample(t *testing.T) {
	a := impl.SharedA(impl.KeyFrom(1), impl.KeyFrom(2), someBundle())
	checkSame(t, "SharedB", impl.SharedB(impl.KeyFrom(3), impl.KeyFrom(4), impl.KeyFrom(5), public(1), public(2)), a)
	if len(a) != 32 {
		t.Errorf("the shared key has %d bytes", len(a))
	}
}

func TestSharedKeysAgree(t *testing.T) {
	keys := someKeys()
	at := func(i int) string { return keys[i%len(keys)] }
	seen := map[string]bool{}
	for i := range keys {
		ident, eph, bIdent, signed, one := at(i), at(i+1), at(i+2), at(i+3), at(i+5)
		b := impl.Bundle{Ident: impl.PublicOf(bIdent), Signed: impl.PublicOf(signed)}
		without := impl.SharedA(ident, eph, b)
		checkSame(t, "SharedA without One", without, realShared(t, ident, eph, b))
		checkSame(t, "SharedB without One", impl.SharedB(bIdent, signed, "", impl.PublicOf(ident), impl.PublicOf(eph)), without)
		b.One, b.OneId = impl.PublicOf(one), int64(i+1)
		with := impl.SharedA(ident, eph, b)
		checkSame(t, "SharedA with One", with, realShared(t, ident, eph, b))
		checkSame(t, "SharedB with One", impl.SharedB(bIdent, signed, one, impl.PublicOf(ident), impl.PublicOf(eph)), with)
		seen[without], seen[with] = true, true
	}
	if len(seen) != 2*len(keys) {
		t.Errorf("%d shared keys, of which %d differ", 2*len(keys), len(seen))
	}
}

// Every key has its part in the shared key; the OneId has none.
func TestSharedKeyOfOtherKeys(t *testing.T) {
	want := impl.SharedA(impl.KeyFrom(1), impl.KeyFrom(2), someBundle())
	private := [5]int64{3, 4, 5, 1, 2}
	shared := func(k [5]int64) string {
		return impl.SharedB(impl.KeyFrom(k[0]), impl.KeyFrom(k[1]), impl.KeyFrom(k[2]), public(k[3]), public(k[4]))
	}
	checkSame(t, "SharedB", shared(private), want)
	for i := range private {
		other := private
		other[i] = 99
		if shared(other) == want {
			t.Errorf("the argument %d of SharedB has no part in the key", i)
		}
	}
	change := []func(*impl.Bundle){
		func(b *impl.Bundle) { b.Ident = public(99) },
		func(b *impl.Bundle) { b.Signed = public(99) },
		func(b *impl.Bundle) { b.One = public(99) },
		func(b *impl.Bundle) { b.One, b.OneId = "", 0 },
		func(b *impl.Bundle) { b.Ident, b.Signed = b.Signed, b.Ident },
	}
	for i, f := range change {
		b := someBundle()
		f(&b)
		if impl.SharedA(impl.KeyFrom(1), impl.KeyFrom(2), b) == want {
			t.Errorf("the change %d of the bundle changes no key", i)
		}
	}
	b := someBundle()
	b.OneId = 8
	checkSame(t, "SharedA with another OneId", impl.SharedA(impl.KeyFrom(1), impl.KeyFrom(2), b), want)
	if impl.SharedA(impl.KeyFrom(99), impl.KeyFrom(2), b) == want || impl.SharedA(impl.KeyFrom(1), impl.KeyFrom(99), b) == want {
		t.Error("a private key of A has no part in the key")
	}
}

func checkBundle(t *testing.T, b impl.Bundle, want bool) {
	t.Helper()
	if impl.BundleOk(b) != want {
		t.Errorf("BundleOk(%#v) = %v", b, !want)
	}
	shared := impl.SharedA(impl.KeyFrom(1), impl.KeyFrom(2), b)
	if want {
		checkSame(t, "SharedA", shared, realShared(t, impl.KeyFrom(1), impl.KeyFrom(2), b))
	} else {
		checkSame(t, "SharedA of no bundle", shared, "")
	}
}

func TestBundleIds(t *testing.T) {
	for _, id := range []int64{0, 1, 2, 998, 999, 1000, 1001, -1, -999, 65537, math.MinInt64, math.MaxInt64} {
		with, without := someBundle(), bareBundle()
		with.OneId, without.OneId = id, id
		checkBundle(t, with, id >= 1 && id <= 999)
		checkBundle(t, without, id == 0)
	}
}

func TestBundleKeys(t *testing.T) {
	checkBundle(t, impl.Bundle{}, false)
	for _, bad := range noKeys() {
		for _, b := range []impl.Bundle{someBundle(), bareBundle()} {
			good := b
			b.Ident = bad
			checkBundle(t, b, false)
			b = good
			b.Signed = bad
			checkBundle(t, b, false)
		}
		for _, id := range []int64{0, 1, 999, 1000} {
			b := someBundle()
			b.One, b.OneId = bad, id
			checkBundle(t, b, bad == "" && id == 0)
		}
	}
}

func TestSharedARejects(t *testing.T) {
	key := impl.KeyFrom(1)
	for _, bad := range noKeys() {
		for _, b := range []impl.Bundle{someBundle(), bareBundle()} {
			checkSame(t, "SharedA with no identity key", impl.SharedA(bad, key, b), "")
			checkSame(t, "SharedA with no ephemeral key", impl.SharedA(key, bad, b), "")
			checkSame(t, "SharedA with neither", impl.SharedA(bad, bad, b), "")
		}
	}
}

func TestSharedBRejects(t *testing.T) {
	for _, bad := range noKeys() {
		for i := range 5 {
			k := [5]string{impl.KeyFrom(3), impl.KeyFrom(4), impl.KeyFrom(5), public(1), public(2)}
			k[i] = bad
			shared := impl.SharedB(k[0], k[1], k[2], k[3], k[4])
			if i == 2 && bad == "" {
				checkSame(t, "SharedB without One", shared, impl.SharedA(impl.KeyFrom(1), impl.KeyFrom(2), bareBundle()))
			} else {
				checkSame(t, "SharedB with no key", shared, "")
			}
			k[2] = ""
			if i != 2 {
				checkSame(t, "SharedB with no key, without One", impl.SharedB(k[0], k[1], k[2], k[3], k[4]), "")
			}
		}
	}
	checkSame(t, "SharedB of nothing", impl.SharedB("", "", "", "", ""), "")
}

// Keys of small order are keys, for which the secrets are zero.
func TestSharedOfSmallOrder(t *testing.T) {
	b := impl.Bundle{Ident: zeros(32), Signed: zeros(32), One: zeros(32), OneId: 1}
	want := realExpand(t, realHmac(zeros(32), zeros(128)), "x3dh", 32)
	checkSame(t, "SharedA", impl.SharedA(impl.KeyFrom(1), impl.KeyFrom(2), b), want)
	checkSame(t, "SharedB", impl.SharedB(impl.KeyFrom(1), impl.KeyFrom(2), impl.KeyFrom(3), zeros(32), zeros(32)), want)
}

func TestAdAndId(t *testing.T) {
	for i, a := range someKeys() {
		b := text(32, i)
		checkSame(t, "AdOf", impl.AdOf(a, b), a+b)
		checkSame(t, "AdOf", impl.AdOf(b, a), b+a)
		checkSame(t, "IdOf", impl.IdOf(a, b), impl.HexOf(realSha256(a + b)[:8]))
		checkSame(t, "IdOf", impl.IdOf(b, a), impl.HexOf(realSha256(b + a)[:8]))
	}
	key := impl.KeyFrom(1)
	for _, bad := range append(noKeys(), strings.Repeat("x", 1000)) {
		for _, two := range [][2]string{{bad, key}, {key, bad}, {bad, bad}} {
			checkSame(t, "AdOf no key", impl.AdOf(two[0], two[1]), "")
			checkSame(t, "IdOf no key", impl.IdOf(two[0], two[1]), "")
		}
	}
	// Together these have the length of two keys.
	checkSame(t, "AdOf", impl.AdOf(text(31, 1), text(33, 1)), "")
	checkSame(t, "IdOf", impl.IdOf(text(33, 1), text(31, 1)), "")
}

// A session that begins with an agreement is read with it, and with no other.
func TestSessionOfAgreement(t *testing.T) {
	for _, b := range []impl.Bundle{someBundle(), bareBundle()} {
		one := ""
		if b.One != "" {
			one = impl.KeyFrom(5)
		}
		first, _ := impl.StartA(impl.SharedA(impl.KeyFrom(1), impl.KeyFrom(2), b), b.Signed, impl.KeyFrom(6))
		second, _ := impl.StartB(impl.SharedB(impl.KeyFrom(3), impl.KeyFrom(4), one, public(1), public(2)), impl.KeyFrom(4))
		m := write(t, &first, "hello")
		other, _ := impl.StartB(impl.SharedB(impl.KeyFrom(3), impl.KeyFrom(4), impl.KeyFrom(98), public(1), public(2)), impl.KeyFrom(4))
		checkOpenCode(t, "a message of another agreement", other, m, impl.SnAuth)
		read(t, &second, m, 7, "hello")
		answered(t, &first, &second, 8)
	}
}
