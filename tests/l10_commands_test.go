package tests

import (
	"fmt"
	"regexp"
	"strconv"
	"strings"
	"testing"

	"loop.example/g00702/impl"
)

func within(n int64, low int64, high int64) bool {
	return low <= n && n <= high
}

// realTextOk is what chapter 10 says of the Text of a CmSend.
var realTextOk = regexp.MustCompile(`^[\x21-\x7e]{1,60}$`).MatchString

func realCmdOk(c impl.Cmd) bool {
	switch c.Kind {
	case 1:
		return within(c.A, 0, 1) && c.B == 0 && c.Text == ""
	case 2:
		return within(c.A, 1, 4) && within(c.B, 0, 1) && realTextOk(c.Text)
	case 3, 4, 5:
		return within(c.A, 0, 999) && c.B == 0 && c.Text == ""
	case 6:
		return within(c.A, 0, 999) && within(c.B, 0, 999) && c.Text == ""
	}
	return false
}

func realCmdText(c impl.Cmd) string {
	if !realCmdOk(c) {
		return ""
	}
	name := []string{"", "device", "send", "take", "drop", "copy", "bend"}[c.Kind]
	switch c.Kind {
	case 2:
		return fmt.Sprintf("%s %d %d %s", name, c.A, c.B, c.Text)
	case 6:
		return fmt.Sprintf("%s %d %d", name, c.A, c.B)
	}
	return fmt.Sprintf("%s %d", name, c.A)
}

var cmdPattern = regexp.MustCompile(`^(?:device [01]|send [1-4] [01] [\x21-\x7e]{1,60}|(?:take|drop|copy) (?:0|[1-9][0-9]{0,2})|bend (?:0|[1-9][0-9]{0,2}) (?:0|[1-9][0-9]{0,2}))$`)

// checkCmd checks all three functions with one command.
func checkCmd(t *testing.T, c impl.Cmd) {
	t.Helper()
	want := realCmdText(c)
	if got := impl.CmdOk(c); got != (want != "") {
		t.Errorf("CmdOk(%#v) = %v", c, got)
	}
	if got := impl.CmdText(c); got != want {
		t.Errorf("CmdText(%#v) = %q; want %q", c, got, want)
	}
	if want != "" {
		checkReadCmd(t, want, c, true)
	}
}

func checkReadCmd(t *testing.T, s string, want impl.Cmd, wantOk bool) {
	t.Helper()
	if got, ok := impl.ReadCmd(s); got != want || ok != wantOk {
		t.Errorf("ReadCmd(%q) = %#v, %v; want %#v, %v", s, got, ok, want, wantOk)
	}
}

// checkText checks ReadCmd with a text that may or may not be that of a command.
func checkText(t *testing.T, s string) {
	t.Helper()
	c, ok := impl.ReadCmd(s)
	if ok != cmdPattern.MatchString(s) {
		t.Errorf("ReadCmd(%q) = %#v, %v", s, c, ok)
	}
	if ok && realCmdText(c) != s || !ok && c != (impl.Cmd{}) {
		t.Errorf("ReadCmd(%q) = %#v, %v", s, c, ok)
	}
}

// commands reads the texts, each of which is that of a command.
func commands(t *testing.T, texts ...string) []impl.Cmd {
	t.Helper()
	out := []impl.Cmd{}
	for _, s := range texts {
		c, ok := impl.ReadCmd(s)
		if !ok {
			t.Fatalf("%q is no command", s)
		}
		out = append(out, c)
	}
	return out
}

func TestCmdConstants(t *testing.T) {
	got := []int{
		impl.MaxDevices, impl.MaxMail, impl.MaxCmds,
		impl.CmDevice, impl.CmSend, impl.CmTake, impl.CmDrop, impl.CmCopy, impl.CmBend,
		impl.PwOk, impl.PwForm, impl.PwNone, impl.PwFull, impl.PwDevice,
	}
	for i, want := range []int{4, 60, 60, 1, 2, 3, 4, 5, 6, 0, 1, 2, 3, 4} {
		if got[i] != want {
			t.Errorf("constant %d is %d; want %d", i, got[i], want)
		}
	}
}

func TestCmdExamples(t *testing.T) {
	checkReadCmd(t, "send 1 1 hi", impl.Cmd{Kind: impl.CmSend, A: 1, B: 1, Text: "hi"}, true)
	for _, s := range []string{"take 01", "device 2", "send 1 0 a b"} {
		checkReadCmd(t, s, impl.Cmd{}, false)
	}
}

func TestCmdTexts(t *testing.T) {
	for s, c := range map[string]impl.Cmd{
		"device 0":         {Kind: impl.CmDevice},
		"device 1":         {Kind: impl.CmDevice, A: 1},
		"send 1 0 x":       {Kind: impl.CmSend, A: 1, Text: "x"},
		"send 4 1 0":       {Kind: impl.CmSend, A: 4, B: 1, Text: "0"},
		"send 3 0 send":    {Kind: impl.CmSend, A: 3, Text: "send"},
		"send 2 1 -7,\"~!": {Kind: impl.CmSend, A: 2, B: 1, Text: "-7,\"~!"},
		"take 0":           {Kind: impl.CmTake},
		"take 999":         {Kind: impl.CmTake, A: 999},
		"drop 10":          {Kind: impl.CmDrop, A: 10},
		"copy 100":         {Kind: impl.CmCopy, A: 100},
		"bend 0 0":         {Kind: impl.CmBend},
		"bend 999 999":     {Kind: impl.CmBend, A: 999, B: 999},
		"bend 0 999":       {Kind: impl.CmBend, B: 999},
		"bend 7 0":         {Kind: impl.CmBend, A: 7},
	} {
		checkSame(t, "CmdText", impl.CmdText(c), s)
		checkReadCmd(t, s, c, true)
		checkCmd(t, c)
	}
}

// cmdNumbers are inside and outside each of the ranges.
func cmdNumbers() []int64 {
	return append([]int64{-2, -1, 0, 1, 2, 3, 4, 5, 6, 9, 10, 60, 61, 256, 257, 998, 999, 1000, 1001, 9999, 65536}, farNumbers()...)
}

// Each kind with each number as A and as B, with a Text and without.
func TestCmdRanges(t *testing.T) {
	for _, kind := range append([]int64{-1, 0, 1, 2, 3, 4, 5, 6, 7, 8, 255, 256, 257, 258}, farNumbers()...) {
		for _, a := range cmdNumbers() {
			for _, b := range cmdNumbers() {
				for _, text := range []string{"", "x", " "} {
					checkCmd(t, impl.Cmd{Kind: kind, A: a, B: b, Text: text})
				}
			}
		}
	}
}

// Each number that is inside the ranges has its text.
func TestCmdNumbers(t *testing.T) {
	for n := int64(-3); n <= 1003; n++ {
		for kind := int64(1); kind <= 6; kind++ {
			checkCmd(t, impl.Cmd{Kind: kind, A: n})
			checkCmd(t, impl.Cmd{Kind: kind, A: 1, B: n})
			checkCmd(t, impl.Cmd{Kind: kind, A: n, Text: "x"})
			checkCmd(t, impl.Cmd{Kind: kind, A: 1, B: n, Text: "x"})
		}
		for _, name := range []string{"device ", "take ", "drop ", "copy ", "bend 1 ", "send ", "send 1 ", "bend "} {
			for _, rest := range []string{"", " x", " 0", " 0 x"} {
				checkText(t, name+strconv.FormatInt(n, 10)+rest)
			}
		}
	}
}

func TestCmdTextSizes(t *testing.T) {
	for n := range 70 {
		for _, c := range []string{"!", "x", "~"} {
			s := strings.Repeat(c, n)
			checkCmd(t, impl.Cmd{Kind: impl.CmSend, A: 1, Text: s})
			checkText(t, "send 1 0 "+s)
			for kind := range int64(8) {
				checkCmd(t, impl.Cmd{Kind: kind, Text: s})
			}
		}
	}
	long := strings.Repeat("x", 60)
	checkCmd(t, impl.Cmd{Kind: impl.CmSend, A: 4, B: 1, Text: long})
	if impl.CmdOk(impl.Cmd{Kind: impl.CmSend, A: 4, B: 1, Text: long + "x"}) || !impl.CmdOk(impl.Cmd{Kind: impl.CmSend, A: 4, B: 1, Text: long}) {
		t.Error("the longest Text is not one of 60 bytes")
	}
	// These have at most 60 runes.
	for _, s := range []string{"é", strings.Repeat("é", 30), "日本", "a\u00a0b", long[2:] + "é"} {
		checkCmd(t, impl.Cmd{Kind: impl.CmSend, A: 1, Text: s})
		checkText(t, "send 1 0 "+s)
	}
}

// Each byte alone, and as the first, a middle and the last one.
func TestCmdTextBytes(t *testing.T) {
	for b := range 256 {
		c := string([]byte{byte(b)})
		for _, s := range []string{c, c + "x", "x" + c, "ab" + c + "cd", strings.Repeat("x", 59) + c, c + strings.Repeat("x", 59)} {
			if ok := impl.CmdOk(impl.Cmd{Kind: impl.CmSend, A: 1, Text: s}); ok != (b >= 33 && b <= 126) {
				t.Errorf("CmdOk with the Text %q is %v", s, ok)
			}
			checkCmd(t, impl.Cmd{Kind: impl.CmSend, A: 1, Text: s})
			checkText(t, "send 1 0 "+s)
		}
	}
}

func TestReadCmdRejects(t *testing.T) {
	for _, s := range []string{
		"", " ", "  ", "0", "1", "1 0", "3 0", "device", "send", "take", "drop", "copy", "bend",
		"device ", "take ", "send ", "bend ", " device 0", "device  0", "device 0 ", "  take 0", "take 0  ", "bend 1  1", "bend  1 1", "bend 1 1 ", " bend 1 1",
		"send 1 0", "send 1 0 ", "send 1  0 x", "send  1 0 x", "send 1 0  x", "send 1 0 x ", " send 1 0 x", "send 1 x", "send x",
		"device 00", "device 01", "take 00", "take 007", "take 0999", "drop 01", "copy 000", "bend 01 0", "bend 0 01", "send 01 0 x", "send 1 00 x", "send 1 01 x",
		"device +0", "device -0", "device +1", "device -1", "take +5", "take -5", "take -0", "bend +1 1", "bend 1 -1", "send +1 0 x", "send 1 -0 x", "send -1 0 x",
		"device 2", "send 0 0 x", "send 5 0 x", "send 1 2 x", "take 1000", "drop 1000", "copy 1000", "bend 1000 0", "bend 0 1000",
		"device 0 0", "device 0 0 x", "device 0 x", "take 1 0", "take 1 2", "take 1 0 x", "drop 0 0", "copy 0 0", "bend 1", "bend 1 1 1", "bend 1 1 x", "send 1 0 a b", "send 1 0 a b c", "send 1 0 a 0", "send 1 0 0 a",
		"Device 0", "DEVICE 0", "devices 0", "devic 0", "taken 0", "tak 0", "fly 1", "device0", "take0", "device\t0", "device 0\n", "\ndevice 0", "take\u00a01", "take,1",
		"take 1e2", "take 0x1", "take 1_0", "take 1.0", "take ١", "take one", "take 0 ", "take \x000", "take 0\x00", "\x00take 0",
		" 0", " 0 0", " 0 0 x", "  0 x",
	} {
		checkReadCmd(t, s, impl.Cmd{}, false)
		checkText(t, s)
	}
}

// longNumbers have more digits than 999; some have more than are read, or are beyond the range of the integers.
func longNumbers() []string {
	out := []string{}
	for _, digits := range []int{4, 15, 16, 17, 18, 19, 20, 21, 40, 1000} {
		for _, n := range []string{strings.Repeat("9", digits), strings.Repeat("0", digits), strings.Repeat("0", digits-1) + "1", "1" + strings.Repeat("0", digits-1)} {
			out = append(out, n, "-"+n, "+"+n)
		}
	}
	return out
}

func TestReadCmdLongNumbers(t *testing.T) {
	for _, n := range longNumbers() {
		for _, s := range []string{"take N", "drop N", "copy N", "device N", "bend N 0", "bend 0 N", "send N 0 x", "send 1 N x"} {
			checkReadCmd(t, strings.Replace(s, "N", n, 1), impl.Cmd{}, false)
		}
	}
	// These are 0, 1 and 5 modulo 2^64 or 2^32.
	for _, n := range []string{"18446744073709551616", "18446744073709551617", "18446744073709551621", "4294967296", "4294967297", "9223372036854775808", "-9223372036854775808", "36893488147419103233"} {
		for _, s := range []string{"take N", "device N", "bend N 0", "bend 0 N", "send N 0 x", "send 1 N x"} {
			checkReadCmd(t, strings.Replace(s, "N", n, 1), impl.Cmd{}, false)
		}
	}
	// As a Text, a number is only bytes.
	long := strings.Repeat("0", 60)
	checkReadCmd(t, "send 1 0 "+long, impl.Cmd{Kind: impl.CmSend, A: 1, Text: long}, true)
	checkReadCmd(t, "send 1 0 "+strings.Repeat("x ", 100000), impl.Cmd{}, false)
	checkReadCmd(t, strings.Repeat(" ", 100000), impl.Cmd{}, false)
}

// checkNeighbours calls check with the text, its parts, and every text that differs from it by one byte more, less or other.
func checkNeighbours(s string, check func(string)) {
	bytes := []string{" ", "0", "1", "2", "4", "5", "9", "+", "-", "x", "e", ".", "_", "\t", "\n", "\x00", "~", "\x7f", "\xff", "é"}
	check(s)
	for i := range s {
		check(s[:i])
		check(s[i:])
		check(s[:i] + s[i+1:])
		for _, b := range bytes {
			check(s[:i] + b + s[i:])
			check(s[:i] + b + s[i+1:])
		}
	}
	for _, b := range bytes {
		check(s + b)
	}
}

func TestReadCmdNeighbours(t *testing.T) {
	for _, s := range []string{"device 0", "device 1", "send 1 0 x", "send 4 1 hi", "take 0", "take 99", "take 999", "drop 10", "copy 7", "bend 0 0", "bend 12 999", "send 2 0 0 0", "bend 1 1 1", "take 1 "} {
		checkNeighbours(s, func(x string) { checkText(t, x) })
	}
}
