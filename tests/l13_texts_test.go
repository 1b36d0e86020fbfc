package tests

import (
	"math/rand"
	"strconv"
	"strings"
	"testing"

	"loop.example/g00702/impl"
)

func TestTextExamples(t *testing.T) {
	l := impl.Letter{From: 1, To: 4, Data: "hi!"}
	checkSame(t, "LetterText", letterText(t, l), "1 4 hi!")
	a, b := twoDevices(t)
	checkSame(t, "DeviceText", deviceText(t, "the example", a), "device 1 user 0 ones 1 2")
	checkSame(t, "LetterPart", letterPart(t, post(t, &a, b, 1, "hi", 100)), "1>2 init 1 0 0 34")
}

func TestLetterTextNumbers(t *testing.T) {
	for _, from := range cmdNumbers() {
		for _, to := range cmdNumbers() {
			for _, data := range []string{"", "x", " ", "1", "a b"} {
				letterText(t, impl.Letter{From: from, To: to, Data: data})
			}
		}
	}
	for from := range int64(6) {
		for to := range int64(6) {
			want := ""
			if from >= 1 && from <= 4 && to >= 1 && to <= 4 {
				want = strconv.FormatInt(from, 10) + " " + strconv.FormatInt(to, 10) + " x"
			}
			checkSame(t, "LetterText", impl.LetterText(impl.Letter{From: from, To: to, Data: "x"}), want)
		}
	}
}

func TestLetterTextSizes(t *testing.T) {
	for n := range 70 {
		for _, c := range []string{"!", "x", "~", "0", " "} {
			data := strings.Repeat(c, n)
			letterText(t, impl.Letter{From: 4, To: 1, Data: data})
			checkLetterText(t, "4 1 "+data)
		}
	}
	long := strings.Repeat("x", 60)
	checkSame(t, "the longest Data", impl.LetterText(impl.Letter{From: 2, To: 3, Data: long}), "2 3 "+long)
	checkSame(t, "one byte more", impl.LetterText(impl.Letter{From: 2, To: 3, Data: long + "x"}), "")
	checkSame(t, "no Data", impl.LetterText(impl.Letter{From: 2, To: 3}), "")
	// These have at most 60 runes.
	for _, data := range []string{"é", strings.Repeat("é", 30), "日本", "a\u00a0b", long[2:] + "é", strings.Repeat("x", 100000)} {
		letterText(t, impl.Letter{From: 1, To: 2, Data: data})
		checkLetterText(t, "1 2 "+data)
	}
}

// Each byte alone, and as the first, a middle and the last one.
func TestLetterTextBytes(t *testing.T) {
	for b := range 256 {
		c := string([]byte{byte(b)})
		for _, data := range []string{c, c + "x", "x" + c, "ab" + c + "cd", strings.Repeat("x", 59) + c} {
			s := letterText(t, impl.Letter{From: 1, To: 2, Data: data})
			if sent := impl.CmdOk(impl.Cmd{Kind: impl.CmSend, A: 1, Text: data}); sent != (s != "") || sent != (b >= 33 && b <= 126) {
				t.Errorf("the Data %q: %q", data, s)
			}
			checkLetterText(t, "1 2 "+data)
		}
	}
}

func TestReadLetter(t *testing.T) {
	for s, l := range map[string]impl.Letter{
		"1 4 hi!":    {From: 1, To: 4, Data: "hi!"},
		"4 1 0":      {From: 4, To: 1, Data: "0"},
		"2 2 -7,\"~": {From: 2, To: 2, Data: "-7,\"~"},
		"3 4 3":      {From: 3, To: 4, Data: "3"},
		"1 2 00":     {From: 1, To: 2, Data: "00"},
	} {
		checkReadLetter(t, s, l, true)
		checkSame(t, "LetterText", letterText(t, l), s)
	}
}

func TestReadLetterRejects(t *testing.T) {
	for _, s := range []string{
		"", " ", "  ", "   ", "1", "1 ", "1 2", "1 2 ", " 1 2", "1 x", "x", "x y z", "1 2  ", " 1 2 ", "1  2 ",
		"01 2 a", "1 02 a", "001 2 a", "1 002 a", "00 1 a", "1 00 a",
		"+1 2 a", "1 +2 a", "-1 2 a", "1 -2 a", "-0 1 a", "1 -0 a", "--1 2 a",
		"1  2 a", "1 2  a", "1  2  a", "  1 2 a", " 1 2 a", "1 2 a ", "1 2 a  ", " 1 2 a ",
		"1 2 a b", "1 2 a b c", "1 2 3 4", "1 2 1 2 a", "0 1 2 a",
		"0 1 a", "1 0 a", "5 1 a", "1 5 a", "10 1 a", "1 10 a", "14 1 a", "1 41 a",
		"1 2 a\n", "\n1 2 a", "1\t2 a", "1 2\ta", "1\u00a02 a", "1 2 é", "1 2 \x7f", "1 2 \x1f", "1 2 \x00", "1,2 a", "12 a", "1 2a", "12a",
		"x 2 a", "1 x a", "1.0 2 a", "1e0 2 a", "0x1 2 a", "1_ 2 a", "١ 2 a", "one 2 a",
		"1 2 " + strings.Repeat("x", 61), "1 2 " + strings.Repeat("x ", 100000), strings.Repeat(" ", 100000), strings.Repeat("1 ", 100000),
	} {
		checkReadLetter(t, s, impl.Letter{}, false)
		checkLetterText(t, s)
	}
}

// Numbers of sixteen and seventeen digits, and of more than are in the range of the integers.
func TestReadLetterLongNumbers(t *testing.T) {
	for _, n := range longNumbers() {
		checkReadLetter(t, n+" 2 a", impl.Letter{}, false)
		checkReadLetter(t, "1 "+n+" a", impl.Letter{}, false)
	}
	// These are 0 and 1 modulo 2^64 or 2^32.
	for _, n := range []string{"18446744073709551616", "18446744073709551617", "4294967296", "4294967297", "-18446744073709551615", "9223372036854775808"} {
		checkReadLetter(t, n+" 2 a", impl.Letter{}, false)
		checkReadLetter(t, "1 "+n+" a", impl.Letter{}, false)
	}
	// As Data, a number is only bytes.
	long := strings.Repeat("0", 60)
	checkReadLetter(t, "1 2 "+long, impl.Letter{From: 1, To: 2, Data: long}, true)
}

func TestReadLetterNeighbours(t *testing.T) {
	for _, s := range []string{"1 4 hi!", "4 1 0", "2 3 1", "3 2 " + strings.Repeat("x", 60), "1 2 a b"} {
		checkNeighbours(s, func(x string) { checkLetterText(t, x) })
	}
}

// Promise 13.
func TestDeliveredLettersAreRecovered(t *testing.T) {
	count := 0
	for round := range int64(10) {
		source := rand.New(rand.NewSource(round))
		list := commands(t, "device 0", "device 1", "device 1", "device 0")
		for len(list) < 60 {
			c := randomCmd(source)
			if c.Kind == impl.CmSend {
				c.Text = text(source.Intn(64), source.Intn(100))
			}
			if c.Kind == impl.CmSend && source.Intn(3) > 0 {
				c.Text = strings.Repeat(string(rune(33+source.Intn(94))), 1+source.Intn(60))
			}
			list = append(list, c)
		}
		w, _ := impl.Play(list)
		for _, l := range w.Said {
			count++
			s := impl.LetterText(l)
			checkSame(t, "LetterText", s, realLetterText(l))
			checkReadLetter(t, s, l, true)
		}
	}
	if count < 50 {
		t.Errorf("only %d letters are delivered", count)
	}
}

func TestDeviceTexts(t *testing.T) {
	for _, c := range goodDevices() {
		if deviceText(t, c.name, c.d) == "" {
			t.Errorf("%s: there is no text", c.name)
		}
	}
	for want, d := range map[string]impl.Device{
		"device 5 user 1 ones 1 7 999 1:1 0123456789abcde0* 4:4 0123456789abcde0* 9:2 0123456789abcde0*": fullDevice(),
		"device 5 user 1 ones 1:1 0123456789abcde0* 4:4 0123456789abcde0* 9:2 0123456789abcde0*":         deviceWith("", func(d *impl.Device) { d.Ones = nil }).d,
		"device 5 user 0 ones":                        {Id: 5, Ident: somePair(40), Signed: somePair(42)},
		"device 9 user 1 ones 3":                      {Id: 9, User: 1, Ident: somePair(40), Signed: somePair(42), Ones: someOnes(3)},
		"device 1 user 0 ones 2 4 6 8 10":             {Id: 1, Ident: somePair(40), Signed: somePair(42), Ones: someOnes(2, 4, 6, 8, 10)},
		"device 1 user 0 ones 2:1 " + heldId(1):       {Id: 1, Ident: somePair(40), Signed: somePair(42), Peers: []impl.Peer{{Id: 2, Ident: text(32, 1), Held: []impl.Held{someHeld(1)}}}},
		"device 1 user 0 ones 2:2 " + heldId(1):       {Id: 1, Ident: somePair(40), Signed: somePair(42), Peers: []impl.Peer{{Id: 2, Ident: text(32, 1), Held: []impl.Held{someHeld(1), someHeld(2)}}}},
		"device 1 user 0 ones 2:3 " + heldId(2) + "*": {Id: 1, Ident: somePair(40), Signed: somePair(42), Peers: []impl.Peer{{Id: 2, Ident: text(32, 1), Held: []impl.Held{someHeld(2), someHeld(1), someHeld(3)}}}},
		"device 8 user 0 ones 2:1 " + heldId(3) + " 7:2 " + heldId(0) + "* 9:1 " + heldId(1): {Id: 8, Ident: somePair(40), Signed: somePair(42), Peers: []impl.Peer{
			{Id: 2, Ident: text(32, 1), Held: []impl.Held{someHeld(3)}}, {Id: 7, Ident: text(32, 2), Held: []impl.Held{someHeld(0), someHeld(1)}}, {Id: 9, Ident: text(32, 3), Held: []impl.Held{someHeld(1)}},
		}},
	} {
		checkSame(t, "DeviceText", deviceText(t, want, d), want)
	}
}

// heldId is that of someHeld(n).
func heldId(n int) string {
	return someHeld(n).Id
}

// The first session of a peer is the one that is shown, whether the others have an Init or not.
func TestDeviceTextOfEachHas(t *testing.T) {
	for mask := range 16 {
		d := fullDevice()
		want := "device 5 user 1 ones 1 7 999 1:1 0123456789abcde0* 4:4 0123456789abcde0"
		for i := range d.Peers[1].Held {
			h := &d.Peers[1].Held[i]
			h.Has, h.Init = mask>>i&1 == 1, impl.Init{}
			if h.Has {
				h.Init = someInit()
			}
		}
		if mask&1 == 1 {
			want += "*"
		}
		checkSame(t, "DeviceText", deviceText(t, "Has", d), want+" 9:2 0123456789abcde0*")
	}
}

func TestInvalidDeviceTexts(t *testing.T) {
	for _, c := range badDevices() {
		checkSame(t, c.name, deviceText(t, c.name, c.d), "")
	}
}

// The texts of two devices that write to each other, and whose one-time prekeys are used up.
func TestDeviceTextsOfATalk(t *testing.T) {
	a, b := twoDevices(t)
	e := post(t, &a, b, 1, "hi", 100)
	ofA := impl.ActiveOf(a, 2)
	checkSame(t, "a wrote", deviceText(t, "a", a), "device 1 user 0 ones 1 2 2:1 "+ofA+"*")
	f := post(t, &b, a, 2, "yo", 200)
	ofB := impl.ActiveOf(b, 1)
	checkSame(t, "b wrote", deviceText(t, "b", b), "device 2 user 1 ones 1 2 1:1 "+ofB+"*")
	fetch(t, &b, e, 300, "hi")
	checkSame(t, "b read", deviceText(t, "b", b), "device 2 user 1 ones 2 1:2 "+ofA)
	fetch(t, &a, f, 400, "yo")
	checkSame(t, "a read", deviceText(t, "a", a), "device 1 user 0 ones 1 2:2 "+ofB)
	c := newDevice(t, 3, 1, 30)
	fetch(t, &a, post(t, &c, a, 1, "hello", 500), 600, "hello")
	checkSame(t, "a read from c", deviceText(t, "a", a), "device 1 user 0 ones 2:2 "+ofB+" 3:1 "+impl.ActiveOf(c, 1))
	fetch(t, &b, post(t, &a, b, 0, "so", 700), 800, "so")
	checkSame(t, "b read again", deviceText(t, "b", b), "device 2 user 1 ones 2 1:2 "+ofB)
}

func TestLetterParts(t *testing.T) {
	full, bare := fullEnv(), bareEnv()
	checkSame(t, "with Init", letterPart(t, full), "9>4 init 517 258 3 40")
	checkSame(t, "without Init", letterPart(t, bare), "1>2 258 3 40")
	for one := range int64(1000) {
		full.Init.One = one
		checkSame(t, "with this One", letterPart(t, full), "9>4 init "+strconv.FormatInt(one, 10)+" 258 3 40")
	}
	for size := range 500 {
		for _, e := range []impl.Env{fullEnv(), bareEnv()} {
			e.Msg.Sealed = text(size, 2)
			if got := letterPart(t, e); (got != "") != (size >= 32 && size <= 432) {
				t.Errorf("a Sealed of %d bytes: %q", size, got)
			}
		}
	}
	for _, n := range []int64{0, 1, 9, 10, 99, 100, 998, 999} {
		e := bareEnv()
		e.Msg.Head.N, e.Msg.Head.Prev = n, 1000-n
		checkSame(t, "with these numbers", letterPart(t, e), "1>2 "+strconv.FormatInt(1000-n, 10)+" "+strconv.FormatInt(n, 10)+" 40")
	}
}

// The shortest and the longest Sealed are those of no data and of the longest data.
func TestLetterPartSizes(t *testing.T) {
	for data, want := range map[string]string{"": "1>2 init 2 0 0 32", "x": "1>2 init 2 0 0 33", text(400, 1): "1>2 init 2 0 0 432"} {
		a, b := twoDevices(t)
		checkSame(t, "LetterPart", letterPart(t, post(t, &a, b, 2, data, 100)), want)
	}
	for _, size := range []int{31, 433} {
		e := bareEnv()
		e.Msg.Sealed = text(size, 1)
		checkSame(t, "LetterPart", letterPart(t, e), "")
	}
}

func TestLetterPartIds(t *testing.T) {
	ids := append([]int64{1, 2, 3, 4, 5, 6, 7, 8, 9}, badIds()...)
	for _, from := range ids {
		for _, to := range ids {
			for _, e := range []impl.Env{bareEnv(), fullEnv()} {
				e.From, e.To = from, to
				letterPart(t, e)
			}
		}
	}
}

func TestLetterPartsOfInvalidEnvelopes(t *testing.T) {
	list := []impl.Env{{}, {From: 1, To: 2}, {From: 1, To: 2, Has: true}}
	for _, h := range badHeads() {
		for _, e := range []impl.Env{bareEnv(), fullEnv()} {
			e.Msg.Head = h
			list = append(list, e)
		}
	}
	for _, i := range badInits() {
		e := fullEnv()
		e.Init = i
		list = append(list, e)
	}
	for _, i := range []impl.Init{someInit(), {One: 1}, {One: -1}, {Ident: text(32, 3)}, {Eph: text(32, 4)}, {Ident: "x"}} {
		e := bareEnv()
		e.Init = i
		list = append(list, e)
	}
	for _, n := range farNumbers() {
		e := fullEnv()
		e.Msg.Head.N = n
		f := fullEnv()
		f.Msg.Head.Prev = n
		list = append(list, e, f)
	}
	for _, e := range list {
		if got := letterPart(t, e); got != "" || impl.EnvBytes(e) != "" {
			t.Errorf("LetterPart(%#v) = %q", e, got)
		}
	}
}
