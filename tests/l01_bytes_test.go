package tests

import (
	"encoding/hex"
	"math"
	"strings"
	"testing"

	"loop.example/g00702/impl"
)

// allBytes contains every byte, so that it is not valid UTF-8.
func allBytes() string {
	out := make([]byte, 256)
	for i := range out {
		out[i] = byte(i)
	}
	return string(out)
}

func checkReadHex(t *testing.T, s string, want string, wantOk bool) {
	t.Helper()
	if got, ok := impl.ReadHex(s); got != want || ok != wantOk {
		t.Errorf("ReadHex(%q) = %q, %v; want %q, %v", s, got, ok, want, wantOk)
	}
}

func checkNumBytes(t *testing.T, n int64, k int64, want string) {
	t.Helper()
	if got := impl.NumBytes(n, k); got != want {
		t.Errorf("NumBytes(%d, %d) = %q; want %q", n, k, got, want)
	}
}

func checkBytesNum(t *testing.T, s string, want int64, wantOk bool) {
	t.Helper()
	if got, ok := impl.BytesNum(s); got != want || ok != wantOk {
		t.Errorf("BytesNum(%q) = %d, %v; want %d, %v", s, got, ok, want, wantOk)
	}
}

func TestHexExamples(t *testing.T) {
	if got := impl.HexOf("\x00\xab"); got != "00ab" {
		t.Errorf("HexOf = %q", got)
	}
	checkReadHex(t, "00ab", "\x00\xab", true)
	checkReadHex(t, "AB", "", false)
}

func TestHexRoundTrip(t *testing.T) {
	texts := []string{"", "a", "hello", allBytes(), "\xff\xfe", "\u00e9", "\ufffd", strings.Repeat("\x80", 5000)}
	for i := range 256 {
		texts = append(texts, string([]byte{byte(i)}))
	}
	for _, s := range texts {
		digits := impl.HexOf(s)
		if want := hex.EncodeToString([]byte(s)); digits != want {
			t.Errorf("HexOf(%q) = %q; want %q", s, digits, want)
		}
		checkReadHex(t, digits, s, true)
	}
}

func TestReadHexOfTwoBytes(t *testing.T) {
	for i := range 256 {
		for j := range 256 {
			s := string([]byte{byte(i), byte(j)})
			high := strings.Index("0123456789abcdef", s[:1])
			low := strings.Index("0123456789abcdef", s[1:])
			if high < 0 || low < 0 {
				checkReadHex(t, s, "", false)
			} else {
				checkReadHex(t, s, string([]byte{byte(16*high + low)}), true)
			}
		}
	}
}

func TestReadHexRejects(t *testing.T) {
	// The last ones have an even number of bytes and runes of several bytes.
	for _, s := range []string{
		"0", "000", "0g", "g0", "00 ", " 00", "00 0", "0x00", "00AB", "aB", "00\n0", "00-1",
		"00\xff", "00\xff\xff", "\xff\xff", "\u00e9", "00\u00e9", "\u0663", "a\uff10", "\uff10\uff10", "\ufffd0", "\U0001f600", "00\U0001f60000",
	} {
		checkReadHex(t, s, "", false)
	}
}

func TestXor(t *testing.T) {
	for _, c := range []struct{ a, b, want string }{
		{"ab", "\x01\x03", "\x60a"},
		{"", "", ""},
		{"\xff", "\xff", "\x00"},
		{"\x00\xf0", "\xff\x0f", "\xff\xff"},
		{"a", "", ""},
		{"", "a", ""},
		{"a", "ab", ""},
		{"ab", "a", ""},
	} {
		if got := impl.XorOf(c.a, c.b); got != c.want {
			t.Errorf("XorOf(%q, %q) = %q; want %q", c.a, c.b, got, c.want)
		}
	}
	all := allBytes()
	for i := range 256 {
		mask := strings.Repeat(string([]byte{byte(i)}), len(all))
		mixed := impl.XorOf(all, mask)
		for j := range len(mixed) {
			if mixed[j] != byte(i^j) {
				t.Errorf("byte %d with mask %d: %d", j, i, mixed[j])
			}
		}
		if len(mixed) != len(all) || impl.XorOf(mixed, mask) != all {
			t.Errorf("mask %d does not cancel itself", i)
		}
	}
}

func TestNumberExamples(t *testing.T) {
	checkNumBytes(t, 258, 3, "\x00\x01\x02")
	checkNumBytes(t, 256, 1, "")
	checkBytesNum(t, "\x01\x00", 256, true)
}

func TestNumberLimits(t *testing.T) {
	for k := int64(1); k <= 7; k++ {
		zero, full := strings.Repeat("\x00", int(k)), strings.Repeat("\xff", int(k))
		top := int64(1)<<(8*k) - 1
		checkNumBytes(t, 0, k, zero)
		checkNumBytes(t, 1, k, zero[1:]+"\x01")
		checkNumBytes(t, top, k, full)
		checkNumBytes(t, top-1, k, full[1:]+"\xfe")
		for _, n := range []int64{-1, -2, -top, -top - 1, top + 1, top + 2, math.MinInt64, math.MaxInt64} {
			checkNumBytes(t, n, k, "")
		}
		checkBytesNum(t, zero, 0, true)
		checkBytesNum(t, full, top, true)
	}
	for _, k := range []int64{0, 8, 9, -1, -7, -8, 64, 257, math.MinInt64, math.MaxInt64} {
		for _, n := range []int64{0, 1, -1, math.MinInt64, math.MaxInt64} {
			checkNumBytes(t, n, k, "")
		}
	}
	checkBytesNum(t, "", 0, false)
	checkBytesNum(t, "12345678", 0, false)
	checkBytesNum(t, "\x00\x00\x00\x00\x00\x00\x00\x00", 0, false)
	checkBytesNum(t, allBytes(), 0, false)
}

func TestNumberRoundTrip(t *testing.T) {
	for k := int64(1); k <= 7; k++ {
		for shift := range 8 * k {
			for delta := int64(-1); delta <= 1; delta++ {
				n := int64(1)<<shift + delta
				checkBytesNum(t, impl.NumBytes(n, k), n, n < 1<<(8*k))
			}
		}
	}
	for i := range 256 {
		s := string([]byte{byte(i), 0x80, byte(255 - i)})
		n, ok := impl.BytesNum(s)
		if !ok || n != int64(i)<<16+0x8000+int64(255-i) {
			t.Errorf("BytesNum(%q) = %d, %v", s, n, ok)
		}
		checkNumBytes(t, n, 3, s)
	}
}
