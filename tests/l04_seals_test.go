package tests

import (
	"math"
	"strings"
	"testing"

	"loop.example/g00702/impl"
)

// lowKey is the key of most examples of RFC 8439.
func lowKey() string {
	return allBytes()[:32]
}

func zeros(n int) string {
	return strings.Repeat("\x00", n)
}

// flipped returns s with one bit of one byte changed.
func flipped(s string, i int, bit int) string {
	out := []byte(s)
	out[i] ^= 1 << bit
	return string(out)
}

func checkRejected(t *testing.T, name string, key string, ad string, sealed string) {
	t.Helper()
	if data, ok := impl.OpenSeal(key, ad, sealed); ok || data != "" {
		t.Errorf("OpenSeal of %s = %q, %v; want false", name, data, ok)
	}
}

func checkOpened(t *testing.T, key string, ad string, sealed string, want string) {
	t.Helper()
	if data, ok := impl.OpenSeal(key, ad, sealed); !ok || data != want {
		t.Errorf("OpenSeal = %q, %v; want %q, true", data, ok, want)
	}
}

func TestSealLimits(t *testing.T) {
	if impl.MaxData != 400 || impl.MaxAd != 300 {
		t.Error(impl.MaxData, impl.MaxAd)
	}
}

// The vectors of RFC 8439, section 2.3.2 and appendix A.1, and the last block of a key.
func TestBlockVectors(t *testing.T) {
	nonce := unhex(t, "000000090000004a00000000")
	for _, c := range []struct {
		key     string
		counter int64
		nonce   string
		want    string
	}{
		{lowKey(), 1, nonce, "10f1e7e4d13b5915500fdd1fa32071c4c7d1f4c733c068030422aa9ac3d46c4ed2826446079faa0914c2d705d98b02a2b5129cd1de164eb9cbd083e8a2503c4e"},
		{zeros(32), 0, zeros(12), "76b8e0ada0f13d90405d6ae55386bd28bdd219b8a08ded1aa836efcc8b770dc7da41597c5157488d7724e03fb8d84a376a43b8f41518a11cc387b669b2ee6586"},
		{zeros(32), 1, zeros(12), "9f07e7be5551387a98ba977c732d080dcb0f29a048e3656912c6533e32ee7aed29b721769ce64e43d57133b074d839d531ed1f28510afb45ace10a1f4b794d6f"},
		{zeros(31) + "\x01", 1, zeros(12), "3aeb5224ecf849929b9d828db1ced4dd832025e8018b8160b82284f3c949aa5a8eca00bbb4a73bdad192b5c42f73f2fd4e273644c8b36125a64addeb006c13a0"},
		{"\x00\xff" + zeros(30), 2, zeros(12), "72d54dfbf12ec44b362692df94137f328fea8da73990265ec1bbbea1ae9af0ca13b25aa26cb4a648cb9b9d1be65b2c0924a66c54d545ec1b7374f4872e99f096"},
		{zeros(32), 0, zeros(11) + "\x02", "c2c64d378cd536374ae204b9ef933fcd1a8b2288b3dfa49672ab765b54ee27c78a970e0e955c14f3a88e741b97c286f75f8fc299e8148362fa198a39531bed6d"},
		{lowKey(), 4294967295, nonce, "ff2941b8d740f6cbb50936bf997ebd5218cb108dc53f41c64841d0218167430ca03b770ca74ccb642a28194d1dedd2ed13151e25ec5d7faeb6d060bfb7e6b146"},
		{strings.Repeat("\xff", 32), 4294967295, strings.Repeat("\xff", 12), "d72b21cfa4b6b0c41d61f62b8a11159c6a4f63bc56c2035796c7ad37811121bbec56d54a530f3a933dd28a50feb23bfaf64f405be985f3718bdf4683e96be749"},
	} {
		checkHex(t, "Block", impl.Block(c.key, c.counter, c.nonce), c.want)
	}
}

func TestBlockRejects(t *testing.T) {
	for _, counter := range []int64{-1, 4294967296, 4294967297, math.MinInt64, math.MaxInt64} {
		checkSame(t, "Block with this counter", impl.Block(lowKey(), counter, zeros(12)), "")
	}
	for _, n := range []int{0, 11, 13, 24} {
		checkSame(t, "Block with this nonce", impl.Block(lowKey(), 0, zeros(n)), "")
		checkSame(t, "Stream with this nonce", impl.Stream(lowKey(), zeros(n), "data"), "")
	}
	for _, bad := range noKeys() {
		checkSame(t, "Block with no key", impl.Block(bad, 0, zeros(12)), "")
		checkSame(t, "Stream with no key", impl.Stream(bad, zeros(12), "data"), "")
	}
}

// The text of RFC 8439, section 2.4.2, begins with the block 1, so that another block is put before it.
func TestStreamVectors(t *testing.T) {
	data := "Ladies and Gentlemen of the class of '99: If I could offer you only one tip for the future, sunscreen would be it."
	out := impl.Stream(lowKey(), unhex(t, "000000000000004a00000000"), text(64, 1)+data)
	checkHex(t, "Stream", out[64:], "6e2e359a2568f98041ba0728dd0d6981e97e7aec1d4360c20a27afccfd9fae0bf91b65c5524733ab8f593dabcd62b3571639d624e65152ab8f530c359f0861d807ca0dbf500d6a6156a38e088a22b65e52bc514d16ccf806818ce91ab77937365af90bbf74a35be6b40b8eedf2785e42874d")
	checkHex(t, "Stream of zeros", impl.Stream(zeros(32), zeros(12), zeros(64)), "76b8e0ada0f13d90405d6ae55386bd28bdd219b8a08ded1aa836efcc8b770dc7da41597c5157488d7724e03fb8d84a376a43b8f41518a11cc387b669b2ee6586")
	out = impl.Stream(text(32, 1), text(12, 2), text(400, 3))
	checkHex(t, "the hash of a long Stream", realSha256(out), "92b20e1a03088e66ab37de22ab19d33464f5254afb7334729d0bd820fb60a1f4")
}

// The text of RFC 8439, appendix A.2, with the counter 42, which Stream does not reach.
func TestBlocksOfText(t *testing.T) {
	key := unhex(t, "1c9240a5eb55d38af333888604f6b5f0473917c1402b80099dca5cbc207075c0")
	nonce := zeros(11) + "\x02"
	data := "'Twas brillig, and the slithy toves\nDid gyre and gimble in the wabe:\nAll mimsy were the borogoves,\nAnd the mome raths outgrabe."
	blocks := impl.Block(key, 42, nonce) + impl.Block(key, 43, nonce)
	checkHex(t, "the text", impl.XorOf(data, blocks[:len(data)]), "62e6347f95ed87a45ffae7426f27a1df5fb69110044c0d73118effa95b01e5cf166d3df2d721caf9b21e5fb14c616871fd84c54f9d65b283196c7fe4f60553ebf39c6402c42234e32a356b3e764312a61a5532055716ead6962568f87d3f3f7704c6a8d1bcd1bf4d50d6154b6da731b187b58dfd728afa36757a797ac188d1")
}

func TestStreamExample(t *testing.T) {
	key, nonce := impl.KeyFrom(1), text(12, 4)
	checkSame(t, "Stream", impl.Stream(key, nonce, zeros(70)), impl.Block(key, 0, nonce)+impl.Block(key, 1, nonce)[:6])
}

func TestStreamOfEveryLength(t *testing.T) {
	key, nonce := impl.KeyFrom(2), text(12, 5)
	blocks := ""
	for i := range int64(7) {
		blocks += impl.Block(key, i, nonce)
	}
	for n := range impl.MaxData + 1 {
		data := text(n, n)
		out := impl.Stream(key, nonce, data)
		checkSame(t, "Stream", out, impl.XorOf(data, blocks[:n]))
		checkSame(t, "Stream, twice", impl.Stream(key, nonce, out), data)
	}
	for _, n := range []int{401, 448, 449, 10000} {
		checkSame(t, "Stream of long data", impl.Stream(key, nonce, text(n, 0)), "")
	}
}

// realSeal follows the document with functions that are compared elsewhere.
func realSeal(t *testing.T, key string, ad string, data string) string {
	t.Helper()
	k := realExpand(t, realHmac("", key), "seal", 76)
	c := impl.Stream(k[:32], k[64:], data)
	size := []byte{0, 0, 0, 0, 0, 0, byte(len(ad) / 256), byte(len(ad))}
	return c + realHmac(k[32:64], string(size)+ad+c)
}

// The expected values were computed with another implementation of ChaCha20, HKDF and HMAC.
func TestSealVectors(t *testing.T) {
	checkHex(t, "Seal", impl.Seal(lowKey(), "ad", "hello"), "bfad0cb20bea43df1ca79d3699784d61abe1746430c1c1c7f774941caa4aff79eae1a06852")
	checkHex(t, "Seal of nothing", impl.Seal(lowKey(), "", ""), "6482f65e02f0a93f239b0010d50d7534715090c95686a264cc0e7ad58a7e70f6")
	out := impl.Seal(text(32, 1), text(300, 2), text(400, 3))
	checkHex(t, "the hash of the longest Seal", realSha256(out), "e3c33fbade4cee3e40e1993eb79324c73259503154f04a48ad26b3a929650479")
}

func TestSealExample(t *testing.T) {
	key := impl.KeyFrom(3)
	sealed := impl.Seal(key, "ad", "hello")
	if len(sealed) != 37 {
		t.Errorf("the seal has %d bytes", len(sealed))
	}
	checkOpened(t, key, "ad", sealed, "hello")
	checkRejected(t, "a seal with other associated data", key, "ae", sealed)
	checkRejected(t, "a changed seal", key, "ad", flipped(sealed, 0, 0))
}

func TestSealOfEveryLength(t *testing.T) {
	key := impl.KeyFrom(4)
	for n := range impl.MaxData + 1 {
		ad, data := text(n%(impl.MaxAd+1), 1), text(n, 2)
		sealed := impl.Seal(key, ad, data)
		checkSame(t, "Seal", sealed, realSeal(t, key, ad, data))
		checkOpened(t, key, ad, sealed, data)
	}
}

func TestSealSizes(t *testing.T) {
	key := impl.KeyFrom(5)
	for _, a := range []int{0, 1, 299, 300} {
		for _, n := range []int{0, 1, 63, 64, 65, 399, 400} {
			ad, data := text(a, 1), text(n, 2)
			sealed := impl.Seal(key, ad, data)
			checkSame(t, "Seal", sealed, realSeal(t, key, ad, data))
			checkOpened(t, key, ad, sealed, data)
		}
	}
}

func TestSealRejects(t *testing.T) {
	key := impl.KeyFrom(6)
	for _, n := range []int{301, 302, 1000} {
		checkSame(t, "Seal with long associated data", impl.Seal(key, text(n, 1), "data"), "")
	}
	for _, n := range []int{401, 402, 1000} {
		checkSame(t, "Seal of long data", impl.Seal(key, "ad", text(n, 1)), "")
	}
	for _, bad := range noKeys() {
		checkSame(t, "Seal with no key", impl.Seal(bad, "ad", "data"), "")
		checkRejected(t, "a seal with no key", bad, "ad", impl.Seal(key, "ad", "data"))
		checkRejected(t, "nothing with no key", bad, "ad", "")
	}
}

// These texts have the tag that a seal of them would have, so that only their size is wrong.
func TestOpenSealChecksSizes(t *testing.T) {
	key := impl.KeyFrom(7)
	k := impl.Hkdf("", key, "seal", 76)
	tagged := func(ad string, hidden string) string {
		size := []byte{0, 0, 0, 0, 0, 0, byte(len(ad) / 256), byte(len(ad))}
		return hidden + realHmac(k[32:64], string(size)+ad+hidden)
	}
	most, over := text(impl.MaxAd, 1), text(impl.MaxAd+1, 1)
	hidden := text(impl.MaxData, 2)
	checkOpened(t, key, most, tagged(most, hidden), impl.Stream(k[:32], k[64:], hidden))
	checkRejected(t, "a seal with long associated data", key, over, tagged(over, "hidden"))
	checkRejected(t, "a seal of long data", key, "ad", tagged("ad", hidden+"x"))
}

func TestOpenSealOfShortTexts(t *testing.T) {
	key := impl.KeyFrom(8)
	whole := impl.Seal(key, "ad", "")
	checkOpened(t, key, "ad", whole, "")
	for n := range 32 {
		checkRejected(t, "the beginning of a seal", key, "ad", whole[:n])
		checkRejected(t, "the end of a seal", key, "ad", whole[32-n:])
	}
	sealed := impl.Seal(key, "ad", "some data")
	for n := range len(sealed) {
		checkRejected(t, "the beginning of a seal", key, "ad", sealed[:n])
	}
	checkRejected(t, "a longer text", key, "ad", sealed+"\x00")
}

func TestOpenSealOfChangedBytes(t *testing.T) {
	key, ad := impl.KeyFrom(9), "associated"
	sealed := impl.Seal(key, ad, text(70, 1))
	for bit := range 8 {
		for i := range len(sealed) {
			checkRejected(t, "a changed seal", key, ad, flipped(sealed, i, bit))
		}
		for i := range len(key) {
			checkRejected(t, "a seal with a changed key", flipped(key, i, bit), ad, sealed)
		}
		for i := range len(ad) {
			checkRejected(t, "a seal with changed associated data", key, flipped(ad, i, bit), sealed)
		}
	}
}

// The length of the associated data is part of the tag, so that no byte moves between it and the data.
func TestOpenSealOfMovedBytes(t *testing.T) {
	key := impl.KeyFrom(10)
	sealed := impl.Seal(key, "ad", "hello")
	checkRejected(t, "a seal with a byte moved to the associated data", key, "ad"+sealed[:1], sealed[1:])
	checkRejected(t, "a seal with a byte moved from the associated data", key, "a", "d"+sealed)
}

func TestSealsOfDifferentKeysDiffer(t *testing.T) {
	seen := map[string]bool{}
	for i := range int64(50) {
		seen[impl.Seal(impl.KeyFrom(i), "ad", "hello")] = true
	}
	if len(seen) != 50 {
		t.Errorf("50 keys have %d seals", len(seen))
	}
}
