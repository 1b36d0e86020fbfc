package tests

import (
	"crypto/hkdf"
	"crypto/hmac"
	"crypto/sha256"
	"math"
	"strings"
	"testing"

	"loop.example/g00702/impl"
)

// text returns n bytes without a short period, different for each salt.
func text(n int, salt int) string {
	out := make([]byte, n)
	for i := range out {
		out[i] = byte(i*i*7 + i*31 + i/256 + salt*101)
	}
	return string(out)
}

func realSha256(s string) string {
	h := sha256.Sum256([]byte(s))
	return string(h[:])
}

func realHmac(key string, s string) string {
	h := hmac.New(sha256.New, []byte(key))
	h.Write([]byte(s))
	return string(h.Sum(nil))
}

func realExpand(t *testing.T, prk string, info string, n int) string {
	t.Helper()
	out, err := hkdf.Expand(sha256.New, []byte(prk), info, n)
	if err != nil {
		t.Fatal(err)
	}
	return string(out)
}

func checkHex(t *testing.T, name string, got string, want string) {
	t.Helper()
	if impl.HexOf(got) != want {
		t.Errorf("%s = %s; want %s", name, impl.HexOf(got), want)
	}
}

func checkSame(t *testing.T, name string, got string, want string) {
	t.Helper()
	if got != want {
		t.Errorf("%s = %q; want %q", name, got, want)
	}
}

func TestHashLimits(t *testing.T) {
	if impl.MaxHash != 1000 || impl.MaxInfo != 300 {
		t.Error(impl.MaxHash, impl.MaxInfo)
	}
}

func TestSha256Vectors(t *testing.T) {
	for _, c := range []struct{ s, want string }{
		{"", "e3b0c44298fc1c149afbf4c8996fb92427ae41e4649b934ca495991b7852b855"},
		{"abc", "ba7816bf8f01cfea414140de5dae2223b00361a396177a9cb410ff61f20015ad"},
		{"abcdbcdecdefdefgefghfghighijhijkijkljklmklmnlmnomnopnopq", "248d6a61d20638b8e5c026930c3e6039a33ce45964ff2167f6ecedd419db06c1"},
	} {
		checkHex(t, "Sha256", impl.Sha256(c.s), c.want)
	}
}

func TestSha256OfEveryLength(t *testing.T) {
	for n := range impl.MaxHash + 1 {
		s := text(n, n)
		checkSame(t, "Sha256", impl.Sha256(s), realSha256(s))
	}
	for _, n := range []int{impl.MaxHash + 1, impl.MaxHash + 64, 100000} {
		checkSame(t, "Sha256 of a long text", impl.Sha256(text(n, 0)), "")
	}
}

func TestHmacVectors(t *testing.T) {
	for _, c := range []struct{ key, s, want string }{
		{strings.Repeat("\x0b", 20), "Hi There", "b0344c61d8db38535ca8afceaf0bf12b881dc200c9833da726e9376c2e32cff7"},
		{"Jefe", "what do ya want for nothing?", "5bdcc146bf60754e6a042426089575c75a003f089d2739839dec58b964ec3843"},
		{strings.Repeat("\xaa", 20), strings.Repeat("\xdd", 50), "773ea91e36800e46854db8ebd09181a72959098b3ef8c122d9635514ced565fe"},
		{strings.Repeat("\xaa", 131), "Test Using Larger Than Block-Size Key - Hash Key First", "60e431591ee0b67f0d8a26aacbf5b77f8e0bc6213728c5140546040f0ee37f54"},
		{strings.Repeat("\xaa", 131), "This is a test using a larger than block-size key and a larger than block-size data. The key needs to be hashed before being used by the HMAC algorithm.", "9b09ffa71b942fcb27635fbcd5b0e944bfdc63644f0713938a7f51535c3a35e2"},
	} {
		checkHex(t, "Hmac", impl.Hmac(c.key, c.s), c.want)
	}
}

func TestHmacOfEveryLength(t *testing.T) {
	for n := range impl.MaxHash + 1 {
		key, s := text(n, 3), text(n, 4)
		checkSame(t, "Hmac with this key", impl.Hmac(key, "text"), realHmac(key, "text"))
		checkSame(t, "Hmac of this text", impl.Hmac("key", s), realHmac("key", s))
	}
	long := text(impl.MaxHash, 5)
	checkSame(t, "Hmac at both limits", impl.Hmac(long, long), realHmac(long, long))
}

func TestHmacRejects(t *testing.T) {
	long := text(impl.MaxHash+1, 0)
	checkSame(t, "Hmac with a long key", impl.Hmac(long, "a"), "")
	checkSame(t, "Hmac of a long text", impl.Hmac("a", long), "")
	checkSame(t, "Hmac of both", impl.Hmac(long, long), "")
}

// A key of more than 64 bytes is used as its hash, and a shorter one with zeros behind it.
func TestHmacKeyBlock(t *testing.T) {
	short, full, over := text(63, 1), text(64, 1), text(65, 1)
	for _, key := range []string{short, full, over} {
		checkSame(t, "Hmac", impl.Hmac(key, "text"), realHmac(key, "text"))
	}
	if impl.Hmac(full, "text") == impl.Hmac(impl.Sha256(full), "text") {
		t.Error("a key of 64 bytes is hashed")
	}
	checkSame(t, "Hmac with a hashed key", impl.Hmac(over, "text"), impl.Hmac(impl.Sha256(over), "text"))
	checkSame(t, "Hmac with a padded key", impl.Hmac(short, "text"), impl.Hmac(short+"\x00", "text"))
}

func TestHkdfVectors(t *testing.T) {
	long := func(first int) string {
		out := make([]byte, 80)
		for i := range out {
			out[i] = byte(first + i)
		}
		return string(out)
	}
	for _, c := range []struct {
		salt, ikm, info string
		n               int64
		prk, okm        string
	}{
		{"\x00\x01\x02\x03\x04\x05\x06\x07\x08\x09\x0a\x0b\x0c", strings.Repeat("\x0b", 22), "\xf0\xf1\xf2\xf3\xf4\xf5\xf6\xf7\xf8\xf9", 42,
			"077709362c2e32df0ddc3f0dc47bba6390b6c73bb50f9c3122ec844ad7c2b3e5",
			"3cb25f25faacd57a90434f64d0362f2a2d2d0a90cf1a5a4c5db02d56ecc4c5bf34007208d5b887185865"},
		{long(0x60), long(0), long(0xb0), 82,
			"06a6b88c5853361a06104c9ceb35b45cef760014904671014a193f40c15fc244",
			"b11e398dc80327a1c8e7f78c596a49344f012eda2d4efad8a050cc4c19afa97c59045a99cac7827271cb41c65e590e09da3275600c2f09b8367793a9aca3db71cc30c58179ec3e87c14c01d5c1f3434f1d87"},
		{"", strings.Repeat("\x0b", 22), "", 42,
			"19ef24a32c717b167f33a91d6f648bdf96596776afdb6377ac434c1c293ccb04",
			"8da4e775a563c18f715f802a063c5a31b8a11f5c5ee1879ec3454e5f3c738d2d9d201395faa4b61a96c8"},
	} {
		checkHex(t, "Extract", impl.Extract(c.salt, c.ikm), c.prk)
		checkHex(t, "Expand", impl.Expand(impl.Extract(c.salt, c.ikm), c.info, c.n), c.okm)
		checkHex(t, "Hkdf", impl.Hkdf(c.salt, c.ikm, c.info, c.n), c.okm)
	}
}

// Every number of bytes is compared with the longest result, so that each is a prefix of the next.
func TestHkdfIsExtractThenExpand(t *testing.T) {
	lengths := []int{0, 1, 32, 33, 64, 65, impl.MaxInfo}
	for i, a := range lengths {
		salt, ikm, info := text(a, 1), text(lengths[(i+2)%len(lengths)], 2), text(lengths[(i+5)%len(lengths)], 3)
		prk := impl.Extract(salt, ikm)
		checkSame(t, "Extract", prk, realHmac(salt, ikm))
		whole := realExpand(t, prk, info, 255)
		for n := range 256 {
			checkSame(t, "Expand", impl.Expand(prk, info, int64(n)), whole[:n])
			checkSame(t, "Hkdf", impl.Hkdf(salt, ikm, info, int64(n)), whole[:n])
		}
	}
}

func TestExpandOfEveryKeyLength(t *testing.T) {
	for n := range impl.MaxInfo + 1 {
		key := text(n, 6)
		checkSame(t, "Expand of this key", impl.Expand(key, "info", 40), realExpand(t, key, "info", 40))
		checkSame(t, "Expand of this info", impl.Expand("key", key, 40), realExpand(t, "key", key, 40))
		checkSame(t, "Extract of this salt", impl.Extract(key, "ikm"), realHmac(key, "ikm"))
		checkSame(t, "Extract of this input", impl.Extract("salt", key), realHmac("salt", key))
	}
}

func TestHkdfLimits(t *testing.T) {
	most, over := text(impl.MaxInfo, 1), text(impl.MaxInfo+1, 1)
	if len(impl.Extract(most, most)) != 32 || len(impl.Expand(most, most, 255)) != 255 || len(impl.Hkdf(most, most, most, 255)) != 255 {
		t.Error("a value at its limit is rejected")
	}
	for name, got := range map[string]string{
		"Extract with a long salt":  impl.Extract(over, "a"),
		"Extract with a long input": impl.Extract("a", over),
		"Expand of a long key":      impl.Expand(over, "a", 32),
		"Expand with a long info":   impl.Expand("a", over, 32),
		"Hkdf with a long salt":     impl.Hkdf(over, "a", "a", 32),
		"Hkdf with a long input":    impl.Hkdf("a", over, "a", 32),
		"Hkdf with a long info":     impl.Hkdf("a", "a", over, 32),
	} {
		checkSame(t, name, got, "")
	}
	for _, n := range []int64{0, 256, 257, 511, -1, 1<<32 + 32, math.MinInt64, math.MaxInt64} {
		checkSame(t, "Expand", impl.Expand("key", "info", n), "")
		checkSame(t, "Hkdf", impl.Hkdf("salt", "ikm", "info", n), "")
	}
}

func TestKeyFrom(t *testing.T) {
	checkSame(t, "KeyFrom(-1)", impl.KeyFrom(-1), impl.Sha256("key\xff\xff\xff\xff\xff\xff\xff\xff"))
	for _, c := range []struct {
		seed  int64
		bytes string
	}{
		{0, "\x00\x00\x00\x00\x00\x00\x00\x00"},
		{1, "\x00\x00\x00\x00\x00\x00\x00\x01"},
		{-1, "\xff\xff\xff\xff\xff\xff\xff\xff"},
		{-2, "\xff\xff\xff\xff\xff\xff\xff\xfe"},
		{-256, "\xff\xff\xff\xff\xff\xff\xff\x00"},
		{0x0102030405060708, "\x01\x02\x03\x04\x05\x06\x07\x08"},
		{math.MaxInt64, "\x7f\xff\xff\xff\xff\xff\xff\xff"},
		{math.MinInt64, "\x80\x00\x00\x00\x00\x00\x00\x00"},
	} {
		checkSame(t, "KeyFrom", impl.KeyFrom(c.seed), realSha256("key"+c.bytes))
	}
}

func TestKeysDiffer(t *testing.T) {
	seeds := []int64{math.MinInt64, math.MinInt64 + 1, math.MaxInt64, math.MaxInt64 - 1}
	for i := int64(-1000); i <= 1000; i++ {
		seeds = append(seeds, i)
	}
	for shift := 10; shift < 63; shift++ {
		seeds = append(seeds, int64(1)<<shift, -(int64(1) << shift))
	}
	seen := map[string]int64{}
	for _, seed := range seeds {
		key := impl.KeyFrom(seed)
		other, found := seen[key]
		if len(key) != 32 || found && other != seed {
			t.Errorf("KeyFrom(%d) = %q, as KeyFrom(%d)", seed, key, other)
		}
		seen[key] = seed
	}
}
