package tests

import (
	"math/rand"
	"strings"
	"testing"

	"loop.example/g00702/impl"
)

func checkTaken(t *testing.T, name string, s string, size int, want ...string) {
	t.Helper()
	list, n := takeFrames(t, s)
	if !sameList(list, want) || n != int64(size) {
		t.Errorf("%s: TakeFrames = %d elements, %d; want %d, %d", name, len(list), n, len(want), size)
	}
}

func TestFrameExamples(t *testing.T) {
	frame := impl.FrameOf("abc")
	checkSame(t, "FrameOf", frame, "\x00\x00\x00\x03\xc2\x41\x24\x35abc")
	checkTaken(t, "the example", frame+frame+"x", 22, "abc", "abc")
}

func TestFrameOf(t *testing.T) {
	checkSame(t, "no data", impl.FrameOf(""), zeros(8))
	// The check value that is commonly given for this CRC.
	checkSame(t, "123456789", impl.FrameOf("123456789"), "\x00\x00\x00\x09\x26\x39\xf4\xcb123456789")
	for n := range 300 {
		checkFrameOf(t, text(n, n))
	}
	for _, s := range []string{allBytes(), "\x00", "\xff", "\x80", zeros(100), "\u00e9\u20ac", "\n", strings.Repeat("\xff", 70000)} {
		checkFrameOf(t, s)
	}
	for n := range 256 {
		checkFrameOf(t, string([]byte{byte(n)}))
	}
}

func TestFrameLimit(t *testing.T) {
	for _, n := range []int{65535, 65536, 99999, 100000} {
		checkFrameOf(t, text(n, 1))
	}
	if len(impl.FrameOf(zeros(100000))) != 100008 {
		t.Error("100000 bytes are rejected")
	}
	for _, n := range []int{100001, 100002, 200000, 1 << 20} {
		checkSame(t, "too many bytes", impl.FrameOf(zeros(n)), "")
		checkFrameOf(t, text(n, 2))
	}
}

// longFrame is what a frame of too many bytes would be.
func longFrame(n int) string {
	data := text(n, 3)
	size := string([]byte{byte(n >> 24), byte(n >> 16), byte(n >> 8), byte(n)})
	return size + realCheckSum(data) + data
}

func TestTakeFrames(t *testing.T) {
	a, b, none := realFrameOf("a"), realFrameOf(text(50, 1)), realFrameOf("")
	checkTaken(t, "nothing", "", 0)
	checkTaken(t, "no frame", "x", 0)
	checkTaken(t, "one frame", a, 9, "a")
	checkTaken(t, "three frames", a+b+a, 9+58+9, "a", text(50, 1), "a")
	checkTaken(t, "empty data", none+none+a, 25, "", "", "a")
	checkTaken(t, "seven zeros", zeros(7), 0)
	checkTaken(t, "eight zeros", zeros(8), 8, "")
	checkTaken(t, "fifteen zeros", zeros(15), 8, "")
	checkTaken(t, "a frame in a frame", realFrameOf(a+b)+a, 8+67+9, a+b, "a")
	checkTaken(t, "a frame behind a byte", "x"+a, 0)
	checkTaken(t, "a frame behind a byte between", a+"x"+b, 9, "a")
	checkTaken(t, "100000 bytes", a+realFrameOf(text(100000, 3))+b, 9+100008+58, "a", text(100000, 3), text(50, 1))
	checkTaken(t, "100001 bytes", a+longFrame(100001)+b, 9, "a")
	checkTaken(t, "150000 bytes", longFrame(150000), 0)
	checkTaken(t, "many", strings.Repeat(zeros(8), 2000), 16000, make([]string, 2000)...)
}

// Lengths that are far too large, one of which would be negative as a number of 32 bits.
func TestTakeFarLengths(t *testing.T) {
	for _, size := range []string{"\xff\xff\xff\xff", "\x80\x00\x00\x00", "\x7f\xff\xff\xff", "\xff\xff\xff\xf8", "\x00\x01\x86\xa1", "\x01\x00\x00\x00"} {
		for _, rest := range []string{"", zeros(4), zeros(40), realCheckSum("abc") + "abc"} {
			checkTaken(t, "a far length", size+rest, 0)
			checkTaken(t, "a far length behind a frame", realFrameOf("a")+size+rest, 9, "a")
		}
	}
}

func TestCutFrames(t *testing.T) {
	parts := []string{"first", "", text(30, 2), "x"}
	s, ends := "", []int{0}
	for _, data := range parts {
		s += realFrameOf(data)
		ends = append(ends, len(s))
	}
	for cut := range len(s) + 1 {
		whole := 0
		for whole < len(parts) && ends[whole+1] <= cut {
			whole++
		}
		checkTaken(t, "a cut", s[:cut], ends[whole], parts[:whole]...)
	}
}

// A changed bit in the length, the check sum or the data ends the sequence there.
func TestBentFrames(t *testing.T) {
	first, second, third := realFrameOf("one"), realFrameOf("two, and more"), realFrameOf("three")
	s := first + second + third
	for i := range s {
		for bit := range 8 {
			bent := flipped(s, i, bit)
			switch {
			case i < len(first):
				checkTaken(t, "the first frame", bent, 0)
			case i < len(first+second):
				checkTaken(t, "the second frame", bent, len(first), "one")
			default:
				checkTaken(t, "the third frame", bent, len(first+second), "one", "two, and more")
			}
		}
	}
	for _, name := range []string{"\x03\x00\x00\x00\xc2\x41\x24\x35abc", "\x00\x00\x00\x03\x35\x24\x41\xc2abc", "\x00\x00\x00\x03\x3d\xbe\xdb\xcaabc"} {
		checkTaken(t, "another order of bytes", name, 0)
	}
}

func TestRandomFrames(t *testing.T) {
	for round := range int64(300) {
		source := rand.New(rand.NewSource(round))
		s := ""
		for range source.Intn(6) {
			s += realFrameOf(text(source.Intn(20), source.Intn(100)))
		}
		if s != "" && source.Intn(2) == 0 {
			s = flipped(s, source.Intn(len(s)), source.Intn(8))
		}
		takeFrames(t, s[:source.Intn(len(s)+1)])
		takeFrames(t, s+text(source.Intn(20), 5))
	}
}
