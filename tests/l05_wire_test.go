package tests

import (
	"math"
	"strings"
	"testing"

	"loop.example/g00702/impl"
)

func someHead() impl.Head {
	return impl.Head{Pub: text(32, 1), Prev: 258, N: 3}
}

func someMsg(size int) impl.Msg {
	return impl.Msg{Head: someHead(), Sealed: text(size, 2)}
}

func someInit() impl.Init {
	return impl.Init{Ident: text(32, 3), Eph: text(32, 4), One: 517}
}

func bareEnv() impl.Env {
	return impl.Env{From: 1, To: 2, Msg: someMsg(40)}
}

func fullEnv() impl.Env {
	return impl.Env{From: 9, To: 4, Has: true, Init: someInit(), Msg: someMsg(40)}
}

// word returns two big-endian bytes, computed apart from the program.
func word(n int64) string {
	return string([]byte{byte(n / 256), byte(n % 256)})
}

// replaced returns s with other bytes from the index i on.
func replaced(s string, i int, part string) string {
	return s[:i] + part + s[i+len(part):]
}

func checkMsg(t *testing.T, name string, m impl.Msg, want string) {
	t.Helper()
	checkSame(t, "MsgBytes of "+name, impl.MsgBytes(m), want)
	if got, ok := impl.ReadMsg(want); !ok || got != m {
		t.Errorf("ReadMsg of %s = %#v, %v; want %#v, true", name, got, ok, m)
	}
}

func checkNoMsg(t *testing.T, name string, s string) {
	t.Helper()
	if got, ok := impl.ReadMsg(s); ok || got != (impl.Msg{}) {
		t.Errorf("ReadMsg of %s = %#v, %v; want false", name, got, ok)
	}
}

func checkEnv(t *testing.T, name string, e impl.Env, want string) {
	t.Helper()
	checkSame(t, "EnvBytes of "+name, impl.EnvBytes(e), want)
	if got, ok := impl.ReadEnv(want); !ok || got != e {
		t.Errorf("ReadEnv of %s = %#v, %v; want %#v, true", name, got, ok, e)
	}
}

func checkNoEnv(t *testing.T, name string, s string) {
	t.Helper()
	if got, ok := impl.ReadEnv(s); ok || got != (impl.Env{}) {
		t.Errorf("ReadEnv of %s = %#v, %v; want false", name, got, ok)
	}
}

func TestWireLimit(t *testing.T) {
	if impl.MaxN != 1000 {
		t.Error(impl.MaxN)
	}
}

func TestMsgExample(t *testing.T) {
	pub, sealed := strings.Repeat("\x07", 32), text(33, 1)
	m := impl.Msg{Head: impl.Head{Pub: pub, Prev: 258, N: 3}, Sealed: sealed}
	checkMsg(t, "the example", m, pub+"\x01\x02\x00\x03\x00\x21"+sealed)
}

func TestEnvExample(t *testing.T) {
	e := bareEnv()
	checkEnv(t, "the example", e, "\x01\x02\x00"+impl.MsgBytes(e.Msg))
}

func TestHeadNumbers(t *testing.T) {
	for _, prev := range []int64{0, 1, 255, 256, 258, 999, 1000} {
		for _, n := range []int64{0, 1, 255, 256, 258, 998, 999} {
			h := impl.Head{Pub: text(32, 1), Prev: prev, N: n}
			want := h.Pub + word(prev) + word(n)
			checkSame(t, "HeadBytes", impl.HeadBytes(h), want)
			checkMsg(t, "a message with these numbers", impl.Msg{Head: h, Sealed: text(32, 2)}, want+word(32)+text(32, 2))
		}
	}
}

// badHeads differ from a valid head in one field each.
func badHeads() []impl.Head {
	out := []impl.Head{{}}
	for _, pub := range noKeys() {
		out = append(out, impl.Head{Pub: pub, Prev: 2, N: 3})
	}
	for _, n := range []int64{1001, 1002, 65535, 65536, 65537, -1, -1000, math.MinInt64, math.MaxInt64} {
		out = append(out, impl.Head{Pub: text(32, 1), Prev: n, N: 3}, impl.Head{Pub: text(32, 1), Prev: 2, N: n})
	}
	return append(out, impl.Head{Pub: text(32, 1), Prev: 2, N: 1000})
}

func TestHeadRejects(t *testing.T) {
	for _, h := range badHeads() {
		m := impl.Msg{Head: h, Sealed: text(40, 1)}
		checkSame(t, "HeadBytes of no head", impl.HeadBytes(h), "")
		checkSame(t, "MsgBytes with no head", impl.MsgBytes(m), "")
		e := bareEnv()
		e.Msg = m
		checkSame(t, "EnvBytes with no head", impl.EnvBytes(e), "")
	}
}

func TestMsgOfEveryLength(t *testing.T) {
	for size := range 500 {
		m := someMsg(size)
		s := impl.HeadBytes(m.Head) + word(int64(size)) + m.Sealed
		e := fullEnv()
		e.Msg = m
		b := "\x09\x04\x01" + impl.InitBytes(e.Init) + s
		if size >= 32 && size <= 432 {
			checkMsg(t, "a message", m, s)
			checkEnv(t, "an envelope", e, b)
			continue
		}
		checkSame(t, "MsgBytes with a Sealed of a wrong length", impl.MsgBytes(m), "")
		checkNoMsg(t, "a Sealed of a wrong length", s)
		checkSame(t, "EnvBytes with a Sealed of a wrong length", impl.EnvBytes(e), "")
		checkNoEnv(t, "a Sealed of a wrong length", b)
	}
	huge := someMsg(65536 + 40)
	checkSame(t, "MsgBytes of a huge message", impl.MsgBytes(huge), "")
	checkNoMsg(t, "a huge message", impl.HeadBytes(huge.Head)+word(40)+huge.Sealed)
}

func TestReadMsgOfParts(t *testing.T) {
	for _, size := range []int{32, 33, 432} {
		s := impl.MsgBytes(someMsg(size))
		for n := range len(s) {
			checkNoMsg(t, "the beginning of a message", s[:n])
			checkNoMsg(t, "the end of a message", s[n+1:])
		}
		for _, more := range []string{"\x00", "\xff", "y", "yy", s} {
			checkNoMsg(t, "a message and more", s+more)
			checkNoMsg(t, "a message behind more", more+s)
		}
	}
}

func TestReadMsgOfWrongLengths(t *testing.T) {
	s := impl.MsgBytes(someMsg(40))
	for _, n := range []int64{0, 1, 31, 32, 39, 41, 42, 72, 296, 432, 433, 10240, 65535} {
		checkNoMsg(t, "a message with another length", replaced(s, 36, word(n)))
	}
	checkNoMsg(t, "a message with a missing byte", s[:len(s)-1])
}

func TestReadMsgOfNumbers(t *testing.T) {
	s := impl.MsgBytes(someMsg(40))
	for n := range int64(65536) {
		prev, prevOk := impl.ReadMsg(replaced(s, 32, word(n)))
		if prevOk != (n <= 1000) || prevOk && prev.Head.Prev != n {
			t.Errorf("Prev %d: %d, %v", n, prev.Head.Prev, prevOk)
		}
		now, nowOk := impl.ReadMsg(replaced(s, 34, word(n)))
		if nowOk != (n <= 999) || nowOk && now.Head.N != n {
			t.Errorf("N %d: %d, %v", n, now.Head.N, nowOk)
		}
	}
	checkNoMsg(t, "a message with a large Prev", replaced(s, 32, word(1001)))
	checkNoMsg(t, "a message with a large N", replaced(s, 34, word(1000)))
}

// The bytes of two different values differ, and each of them is recovered from its own.
func TestReadMsgOfChangedBytes(t *testing.T) {
	s := impl.MsgBytes(someMsg(40))
	for i := range len(s) {
		for bit := range 8 {
			x := flipped(s, i, bit)
			if m, ok := impl.ReadMsg(x); ok {
				checkSame(t, "MsgBytes of changed bytes", impl.MsgBytes(m), x)
			} else if i < 32 || i >= 38 {
				t.Errorf("a change of byte %d is rejected", i)
			}
		}
	}
}

func TestInitBytes(t *testing.T) {
	for _, one := range []int64{0, 1, 255, 256, 998, 999} {
		i := someInit()
		i.One = one
		want := text(32, 3) + text(32, 4) + word(one)
		checkSame(t, "InitBytes", impl.InitBytes(i), want)
		e := fullEnv()
		e.Init = i
		checkEnv(t, "an envelope", e, "\x09\x04\x01"+want+impl.MsgBytes(e.Msg))
	}
}

func TestInitRejects(t *testing.T) {
	bad := []impl.Init{{}, {Ident: text(32, 1)}, {Eph: text(32, 1)}, {One: 1}}
	for _, key := range noKeys() {
		bad = append(bad, impl.Init{Ident: key, Eph: text(32, 4), One: 1}, impl.Init{Ident: text(32, 3), Eph: key, One: 1})
	}
	for _, one := range []int64{1000, 1001, 65536, 65537, -1, math.MinInt64, math.MaxInt64} {
		bad = append(bad, impl.Init{Ident: text(32, 3), Eph: text(32, 4), One: one})
	}
	// The keys have 64 bytes together.
	bad = append(bad, impl.Init{Ident: text(31, 3), Eph: text(33, 4)})
	for _, i := range bad {
		checkSame(t, "InitBytes of no Init", impl.InitBytes(i), "")
		e := fullEnv()
		e.Init = i
		checkSame(t, "EnvBytes with no Init", impl.EnvBytes(e), "")
	}
}

func TestEnvWithoutHas(t *testing.T) {
	for _, i := range []impl.Init{someInit(), {One: 1}, {One: -1}, {Ident: text(32, 3)}, {Eph: text(32, 4)}, {Ident: "x"}, {Eph: "x"}} {
		e := bareEnv()
		e.Init = i
		checkSame(t, "EnvBytes with Init but without Has", impl.EnvBytes(e), "")
	}
}

func TestEnvIds(t *testing.T) {
	ids := []int64{0, 1, 2, 5, 8, 9, 10, 11, 127, 128, 255}
	for _, from := range ids {
		for _, to := range ids {
			for _, e := range []impl.Env{bareEnv(), fullEnv()} {
				b := string([]byte{byte(from), byte(to)}) + impl.EnvBytes(e)[2:]
				e.From, e.To = from, to
				if from >= 1 && from <= 9 && to >= 1 && to <= 9 && from != to {
					checkEnv(t, "an envelope", e, b)
				} else {
					checkSame(t, "EnvBytes with wrong Ids", impl.EnvBytes(e), "")
					checkNoEnv(t, "an envelope with wrong Ids", b)
				}
			}
		}
	}
	for _, id := range []int64{-1, -9, 256, 257, 258, math.MinInt64, math.MaxInt64} {
		e := bareEnv()
		e.From = id
		checkSame(t, "EnvBytes with a wrong From", impl.EnvBytes(e), "")
		e = bareEnv()
		e.To = id
		checkSame(t, "EnvBytes with a wrong To", impl.EnvBytes(e), "")
	}
}

func TestReadEnvOfParts(t *testing.T) {
	for _, e := range []impl.Env{bareEnv(), fullEnv()} {
		b := impl.EnvBytes(e)
		checkEnv(t, "the whole", e, b)
		for n := range len(b) {
			checkNoEnv(t, "the beginning of an envelope", b[:n])
			checkNoEnv(t, "the end of an envelope", b[n+1:])
		}
		for _, more := range []string{"\x00", "\xff", "y", "yy", b} {
			checkNoEnv(t, "an envelope and more", b+more)
		}
		checkNoEnv(t, "a message alone", impl.MsgBytes(e.Msg))
		checkNoMsg(t, "an envelope", b)
	}
}

func TestReadEnvOfFlags(t *testing.T) {
	bare, full := impl.EnvBytes(bareEnv()), impl.EnvBytes(fullEnv())
	for n := range 256 {
		flag := string([]byte{byte(n)})
		if n != 0 {
			checkNoEnv(t, "a bare envelope with another flag", replaced(bare, 2, flag))
		}
		if n != 1 {
			checkNoEnv(t, "a full envelope with another flag", replaced(full, 2, flag))
		}
	}
}

func TestReadEnvOfNumbers(t *testing.T) {
	full := impl.EnvBytes(fullEnv())
	for n := range int64(65536) {
		e, ok := impl.ReadEnv(replaced(full, 67, word(n)))
		if ok != (n <= 999) || ok && e.Init.One != n || !ok && e != (impl.Env{}) {
			t.Errorf("One %d: %d, %v", n, e.Init.One, ok)
		}
	}
	for _, c := range []struct {
		at int
		n  int64
	}{{101, 1001}, {101, 65535}, {103, 1000}, {103, 65535}, {105, 0}, {105, 31}, {105, 39}, {105, 41}, {105, 65535}} {
		checkNoEnv(t, "an envelope with a wrong number", replaced(full, c.at, word(c.n)))
		checkNoEnv(t, "a bare envelope with a wrong number", replaced(impl.EnvBytes(bareEnv()), c.at-66, word(c.n)))
	}
}

func TestReadEnvOfChangedBytes(t *testing.T) {
	for _, e := range []impl.Env{bareEnv(), fullEnv()} {
		b := impl.EnvBytes(e)
		for i := range len(b) {
			for bit := range 8 {
				x := flipped(b, i, bit)
				if got, ok := impl.ReadEnv(x); ok {
					checkSame(t, "EnvBytes of changed bytes", impl.EnvBytes(got), x)
				}
			}
		}
	}
}
