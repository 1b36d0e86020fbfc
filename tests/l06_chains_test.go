package tests

import (
	"math"
	"testing"

	"loop.example/g00702/impl"
)

func checkTwo(t *testing.T, name string, a string, b string, wantA string, wantB string) {
	t.Helper()
	checkSame(t, name+", first result", a, wantA)
	checkSame(t, name+", second result", b, wantB)
}

// The expected values were computed with another implementation of HMAC and HKDF.
func TestChainVectors(t *testing.T) {
	next, now := impl.ChainStep(lowKey())
	checkHex(t, "the next chain key", next, "4304c22c84a53755ab08ead8d97a8d429be5efa480682d7ad1da27f73e1fbe1d")
	checkHex(t, "the message key", now, "9b4c8120a4823a95f47cde17a244f4507244ee6e3957d1fab9fa29b44d3829b7")
	checkHex(t, "ChainKey", impl.ChainKey(lowKey(), 1), "f7703c39dea9feb30cb6369304ad7b847b9aca58c1152af317aa78a91beddda1")
	checkHex(t, "the last ChainKey", impl.ChainKey(lowKey(), 1000), "70b627e898e8d6e94e4a0b3127e92de055c984ff4f3a2ce83e0b9c5d680056c3")
	root, first := impl.RootStep(lowKey(), text(32, 1))
	checkHex(t, "the next root key", root, "4dcbf7cb622e5d29d530f09346a576d271aed5d3be4bea42b39b6bbf38d90cba")
	checkHex(t, "the first key of a chain", first, "6bb5f12ab5157e077869862969a32e00d9f96ff9634a7360429bb2b0600bdfb0")
}

func TestChainStep(t *testing.T) {
	for _, key := range someKeys() {
		next, now := impl.ChainStep(key)
		checkTwo(t, "ChainStep", next, now, realHmac(key, "\x02"), realHmac(key, "\x01"))
	}
	for _, bad := range noKeys() {
		next, now := impl.ChainStep(bad)
		checkTwo(t, "ChainStep of no key", next, now, "", "")
	}
}

func TestChainExample(t *testing.T) {
	key := impl.KeyFrom(1)
	next, now := impl.ChainStep(key)
	checkSame(t, "ChainKey 0", impl.ChainKey(key, 0), now)
	checkSame(t, "ChainKey 1", impl.ChainKey(key, 1), impl.Hmac(next, "\x01"))
}

// Between the first and the last indexes, one of many is compared, since a call follows the chain from its beginning.
func TestChainKeyOfIndexes(t *testing.T) {
	key := impl.KeyFrom(2)
	from := key
	for n := range int64(1001) {
		if n < 40 || n > 990 || n%37 == 0 {
			checkSame(t, "ChainKey", impl.ChainKey(key, n), realHmac(from, "\x01"))
		}
		from = realHmac(from, "\x02")
	}
}

func TestChainKeyOfNextChain(t *testing.T) {
	for _, key := range someKeys() {
		next, _ := impl.ChainStep(key)
		for _, n := range []int64{1, 2, 3, 50, 999, 1000} {
			checkSame(t, "ChainKey", impl.ChainKey(key, n), impl.ChainKey(next, n-1))
		}
	}
}

func TestChainKeyRejects(t *testing.T) {
	for _, n := range []int64{-1, -2, -1000, 1001, 1002, math.MinInt64, math.MaxInt64} {
		checkSame(t, "ChainKey with this index", impl.ChainKey(impl.KeyFrom(3), n), "")
	}
	for _, bad := range noKeys() {
		for _, n := range []int64{-1, 0, 1, 1000, 1001} {
			checkSame(t, "ChainKey of no key", impl.ChainKey(bad, n), "")
		}
	}
}

func TestRootStep(t *testing.T) {
	for i, root := range someKeys() {
		dh := text(32, i)
		out := realExpand(t, realHmac(root, dh), "root", 64)
		next, first := impl.RootStep(root, dh)
		checkTwo(t, "RootStep", next, first, out[:32], out[32:])
	}
	for _, bad := range noKeys() {
		next, first := impl.RootStep(bad, impl.KeyFrom(4))
		checkTwo(t, "RootStep with no root key", next, first, "", "")
		next, first = impl.RootStep(impl.KeyFrom(4), bad)
		checkTwo(t, "RootStep with no secret", next, first, "", "")
		next, first = impl.RootStep(bad, bad)
		checkTwo(t, "RootStep with no keys", next, first, "", "")
	}
}
