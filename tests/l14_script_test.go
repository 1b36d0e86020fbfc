package tests

import (
	"strconv"
	"strings"
	"testing"

	"loop.example/g00702/impl"
)

// talk has two devices, one delivered letter, and two envelopes in transit.
func talk() []string {
	return []string{"device 0", "device 1", "send 1 1 hi", "take 0", "send 2 0 yo", "send 1 1 so"}
}

// world has four devices, of both users, two delivered letters, and four envelopes in transit.
func world() []string {
	return []string{"device 0", "device 1", "device 0", "device 1", "send 1 1 hi", "send 4 0 yo", "take 0", "take 4"}
}

func TestScriptConstants(t *testing.T) {
	if impl.MaxScript != 40 || impl.MaxText != 3000 {
		t.Error(impl.MaxScript, impl.MaxText)
	}
}

func TestScriptExample(t *testing.T) {
	lines := []string{"device 0", "device 1", "send 1 1 hi", "mail", "take 0", "said 0", "send 2 0 yes", "mail", "take 7", "said 1", "send 1 1 so", "mail"}
	want := []string{"ok 1", "ok 2", "ok 1", "1>2 init 1 0 0 34", "ok 1 hi", "1 2 hi", "ok 1", "2>1 0 0 35", "ok 2 yes", "2 1 yes", "ok 1", "1>2 1 0 34"}
	checkSame(t, "the example", runScript(t, scriptOf(lines...)), scriptOf(want...))
}

func TestScriptLines(t *testing.T) {
	for n := range 44 {
		for line, out := range map[string]string{"": "", " ": "", "fly": "what\n", "mail": "none\n", "take 0": "no 2\n", "  copy  7 ": "no 2\n"} {
			want := strings.Repeat(out, n)
			if n > 40 {
				want = "too long\n"
			}
			checkSame(t, "so many lines", runScript(t, strings.Repeat(line+"\n", n)), want)
			// A last line without a newline is none, also where there is room for it.
			for _, rest := range []string{"x", " ", "mail", "take 0", "\r", "\x00"} {
				checkSame(t, "a last line without a newline", runScript(t, strings.Repeat(line+"\n", n)+rest), "too long\n")
			}
		}
	}
	checkSame(t, "no lines", runScript(t, ""), "")
	for _, s := range []string{"x", " ", "mail", "device 0", "device 0\nmail", "\nmail", "\n ", "mail\r"} {
		checkSame(t, "a last line without a newline", runScript(t, s), "too long\n")
	}
	for _, n := range []int{100, 2999, 3000, 3001, 1 << 20} {
		checkSame(t, "many lines", runScript(t, strings.Repeat("\n", n)), "too long\n")
	}
}

func TestScriptBytes(t *testing.T) {
	for _, n := range []int{1, 2, 2998, 2999, 3000, 3001, 3002, 4000, 100000} {
		for _, c := range []string{" ", "x", "\xff", "\x00"} {
			want := ""
			if c != " " && n > 1 {
				want = "what\n"
			}
			if n > 3000 {
				want = "too long\n"
			}
			checkSame(t, "a long line", runScript(t, strings.Repeat(c, n-1)+"\n"), want)
			checkSame(t, "no newline", runScript(t, strings.Repeat(c, n)), "too long\n")
			checkSame(t, "a newline too early", runScript(t, "\n"+strings.Repeat(c, n-1)+"x"), "too long\n")
		}
	}
	// The bytes count, not the runes.
	checkSame(t, "3000 bytes", runScript(t, strings.Repeat("é", 1499)+" \n"), "what\n")
	checkSame(t, "3001 bytes", runScript(t, strings.Repeat("é", 1500)+"\n"), "too long\n")
	for size, want := range map[int]string{3000: strings.Repeat("no 2\n", 40), 3001: "too long\n"} {
		s := strings.Repeat("take 0\n", 39)
		s += "take" + strings.Repeat(" ", size-len(s)-len("take0\n")) + "0\n"
		if len(s) != size {
			t.Fatalf("the script has %d bytes", len(s))
		}
		checkSame(t, "40 lines", runScript(t, s), want)
		checkSame(t, "41 lines", runScript(t, "\n"+s), "too long\n")
	}
}

// A line without words has no output, and is no command.
func TestLinesWithoutWords(t *testing.T) {
	want := runScript(t, scriptOf(append(talk(), "active 1 2", "mail")...))
	for _, blank := range []string{"", " ", "  ", strings.Repeat(" ", 60)} {
		lines := []string{blank}
		for _, s := range append(talk(), "active 1 2", "mail") {
			lines = append(lines, s, blank, blank)
		}
		checkSame(t, "between blank lines", runScript(t, scriptOf(lines...)), want)
	}
}

func TestSpacesInLines(t *testing.T) {
	t.Parallel()
	for _, line := range append(tableLines(), "fly", "take", "take x", "mail 0") {
		want := runScript(t, scriptOf(append(world(), line)...))
		for n := range 3 {
			ahead, between, behind := strings.Repeat(" ", n), strings.Repeat(" ", 1+20*n), strings.Repeat(" ", 2-n)
			wide := ahead + strings.ReplaceAll(line, " ", between) + behind
			checkSame(t, "with more spaces", runScript(t, scriptOf(append(world(), wide)...)), want)
		}
	}
	checkScript(t, []string{" device  0 ", "device   1", "   send 1  1    hi", "mail  ", "  take      0", " said 0 ", "active  1   2"}, "ok 1", "ok 2", "ok 1", "1>2 init 1 0 0 34", "ok 1 hi", "1 2 hi", realId(public(3000), public(2000)))
}

// tableLines has a line of each row of the table, which is accepted behind world().
func tableLines() []string {
	return []string{"device 0", "send 1 1 hi", "take 0", "drop 3", "copy 1", "bend 2 20", "show 1", "mail", "said 1", "active 1 4"}
}

// Bytes other than spaces separate no words.
func TestOtherBytes(t *testing.T) {
	t.Parallel()
	list := []string{}
	for _, b := range []string{"\t", "\r", "\v", "\f", "\x00", "\x1f", "\x7f", "\x85", "\xa0", "\xff", "\u00a0", "\u0085", "\u2003", "\u3000", "\ufeff", "é", ",", "_"} {
		list = append(list, b, " "+b+" ")
		for _, line := range tableLines() {
			list = append(list, b+line, " "+b+" "+line, line+" "+b)
			if line != "mail" {
				list = append(list, strings.Replace(line, " ", b, 1), strings.Replace(line, " ", b+" ", 1), strings.Replace(line, " ", " "+b, 1))
			}
			// These bytes may be in a Text.
			if line != "send 1 1 hi" || b != "," && b != "_" {
				list = append(list, line+b)
			}
		}
	}
	checkOutputs(t, world(), list, "what")
	checkOutput(t, talk(), "send 1 1 hi,", "ok 1")
	checkOutput(t, talk(), "send 1 1 ,_", "ok 1")
	checkOutputs(t, talk(), []string{"send 1 1 \t", "send 1 1 a\tb", "send 1 1 é", "send 1 1 \x7f"}, "what")
}

// Each line of the table with each word missing, doubled, and with one more.
func TestMissingAndSuperfluousWords(t *testing.T) {
	list := []string{"show 1 2", "said 0 1", "active 1 2 3", "active 1", "active", "show", "said", "mail mail", "mail 0", "device", "send", "send 1", "send 1 1", "send 1 1 a b", "take", "drop", "copy", "bend", "bend 1", "bend 1 1 1"}
	for _, line := range tableLines() {
		if out := runScript(t, scriptOf(append(world(), line)...)); strings.HasSuffix(out, "what\n") || strings.Count(out, "\n") != 9 {
			t.Errorf("%q has the output %q", line, out)
		}
		words := strings.Split(line, " ")
		for i := range words {
			if len(words) > 1 {
				list = append(list, strings.Join(then(words[:i], words[i+1:]...), " "))
			}
			for _, more := range []string{words[i], "0", "x", "mail", "-"} {
				list = append(list, strings.Join(then(then(words[:i], more), words[i:]...), " "))
			}
		}
		for _, more := range []string{"0", "1", "x", "mail", "0 0", "\t", "-1"} {
			list = append(list, line+" "+more)
		}
	}
	checkOutputs(t, world(), list, "what")
}

func TestUnknownWords(t *testing.T) {
	checkOutputs(t, talk(), []string{"fly", "fly 0", "Show 1", "SHOW 1", "shows 1", "sho 1", "Mail", "mails", "mai", "says 0", "Said 0", "actives 1 2", "Active 1 2", "Device 0", "devices 0", "sent 1 1 x", "taken 0", "ok", "ok 1", "no 2", "none", "what", "0", "1", "1 2 hi", "-", "show1", "said0", "active1 2", "too long", "*", "\"mail\"", "mail,"}, "what")
}

// In each place where a number is required, a word that is none.
func TestNoNumbers(t *testing.T) {
	words := []string{"x", "-", "+", "--1", "01", "00", "007", "-0", "-00", "-01", "+0", "+1", "1.0", "1e0", "0x1", "1_0", "1,", "١", "one", "\xff", "\x00", "1\x00", "mail",
		"12345678901234567", "-12345678901234567", "00000000000000001", "0000000000000001", "10000000000000000", "99999999999999999", "-99999999999999999", "9223372036854775807", "9223372036854775808", "-9223372036854775808", "-9223372036854775809", "18446744073709551616", "18446744073709551617", strings.Repeat("9", 1000), strings.Repeat("0", 1000)}
	checkOutputs(t, talk(), append(forms(readingForms(), words), forms(commandForms(), words)...), "what")
}

func readingForms() []string {
	return []string{"show N", "said N", "active N 2", "active 1 N", "active N N"}
}

func commandForms() []string {
	return []string{"device N", "send N 1 hi", "send 1 N hi", "take N", "drop N", "copy N", "bend N 0", "bend 0 N"}
}

// forms puts each word in the place of N.
func forms(list []string, words []string) []string {
	out := []string{}
	for _, form := range list {
		for _, word := range words {
			out = append(out, strings.ReplaceAll(form, "N", word))
		}
	}
	return out
}

// A number out of range is one for the lines that read, but there is no such command.
func TestNumbersOutOfRange(t *testing.T) {
	words := []string{"-1", "-2", "1000", "1001", "4294967296", "4294967297", "1234567890123456", "9999999999999999", "1000000000000000", "-1234567890123456", "-9999999999999999"}
	checkOutputs(t, talk(), forms(readingForms(), words), "none")
	checkOutputs(t, talk(), forms(commandForms(), words), "what")
	long := strings.Repeat("x", 60)
	checkOutputs(t, talk(), []string{"device 2", "send 0 1 hi", "send 5 1 hi", "send 1 2 hi", "send 1 1 " + long + "x"}, "what")
	checkOutput(t, talk(), "send 1 1 "+long, "ok 1")
	checkOutput(t, talk(), "take 999", "ok 1 so")
}

func TestAnswerOk(t *testing.T) {
	checkScript(t, []string{"device 0", "send 1 0 x", "send 1 1 x", "device 0", "device 1", "device 1"}, "ok 1", "ok 0", "ok 0", "ok 2", "ok 3", "ok 4")
	checkScript(t, append(world(), "send 1 0 a", "send 2 0 b", "send 3 1 c", "drop 0", "copy 0", "bend 0 0", "take 1"), "ok 1", "ok 3", "ok 3", "ok 0", "ok 0", "ok 0", "ok 4 yo")
	for _, data := range []string{"0", "-", "no", "1>2", "ok", ",", "\"a\"", strings.Repeat("~", 60)} {
		checkScript(t, []string{"device 0", "device 1", "send 1 1 " + data, "take 0", "said 0"}, "ok 1", "ok 1 "+data, "1 2 "+data)
	}
}

func TestAnswerNo(t *testing.T) {
	for _, line := range []string{"take 0", "drop 0", "copy 0", "bend 0 0", "send 1 0 x"} {
		checkOutput(t, nil, line, "no 2")
		checkScript(t, []string{"device 0", line, "device 0", "send 1 0 a", "take 0", line}, "ok 2", "ok 1", "ok 1 a", map[bool]string{true: "ok 1", false: "no 2"}[line == "send 1 0 x"])
	}
	checkOutput(t, talk(), "send 3 1 x", "no 2")
	checkScript(t, []string{"device 0", "device 0", "device 0", "device 0", "device 0", "device 1"}, "ok 4", "no 3", "no 3")
	bent := append(talk(), "bend 1 0", "take 1", "mail", "take 0", "take 0")
	checkScript(t, bent, "ok 0", "no 4 3", "2>1 0 0 34", "ok 2 yo", "no 2")
	checkScript(t, append(talk(), "copy 0", "take 2", "take 0", "said 1", "said 2"), "ok 0", "ok 2 yo", "no 4 3", "2 1 yo", "none")
}

// sixty fills the mail, in 24 lines.
func sixty() []string {
	lines := []string{"device 0", "device 0", "device 0", "device 0"}
	for range 20 {
		lines = append(lines, "send 1 0 x")
	}
	return lines
}

func TestFullMail(t *testing.T) {
	checkScript(t, append(sixty(), "copy 0", "send 1 0 x", "drop 0", "send 1 0 x", "copy 0", "copy 0"), "ok 3", "no 3", "no 3", "ok 0", "no 3", "ok 0", "no 3")
	out := runScript(t, scriptOf(append(sixty(), "mail")...))
	if n := strings.Count(out, ", "); n != 59 {
		t.Errorf("there are %d envelopes in %q", n+1, out)
	}
}

// The Id of a session shows the seed of the command that began it.
func TestScriptSeeds(t *testing.T) {
	id := func(sent int64, device int64) string {
		return realId(public(1000*sent+1000), public(1000*device+1000))
	}
	checkScript(t, []string{"device 0", "device 1", "send 1 1 x", "active 1 2"}, id(2, 1))
	// Commands that are rejected count, lines that are no commands do not.
	checkScript(t, []string{"take 0", "device 0", "drop 0", "send 1 1 x", "send 4 1 x", "device 1", "copy 7", "send 1 1 x", "active 1 2"}, id(7, 5))
	checkScript(t, []string{"fly", "device 0", "", "mail", "show 1", "device 1", "device 2", "take x", "said 0", " ", "active 1 2", "send 1 1", "send 1 1 x", "active 1 2"}, id(2, 1))
	for n := range int64(36) {
		lines := append([]string{"device 0", "device 1"}, repeated(nil, int(n), "take 0")...)
		checkScript(t, append(lines, "send 1 1 x", "active 1 2"), "ok 1", id(n+2, 1))
	}
}

// All forty lines may be commands; the last one counts as the others do.
func TestFortyCommands(t *testing.T) {
	lines := append([]string{"device 0", "device 1"}, repeated(nil, 36, "take 5")...)
	lines = append(lines, "send 1 1 hi", "take 0")
	if len(lines) != 40 {
		t.Fatalf("there are %d lines", len(lines))
	}
	want := "ok 1\nok 2\n" + strings.Repeat("no 2\n", 36) + "ok 1\nok 1 hi\n"
	checkSame(t, "40 commands", runScript(t, scriptOf(lines...)), want)
	// Behind these, no command is performed, and nothing of the output is left.
	for _, more := range []string{"take 0", "device 0", "mail", "", " ", "fly"} {
		checkSame(t, "41 lines", runScript(t, scriptOf(append(lines, more)...)), "too long\n")
	}
}

func TestShow(t *testing.T) {
	for _, n := range []string{"-1", "0", "1", "2", "5"} {
		checkOutput(t, nil, "show "+n, "none")
	}
	checkOutput(t, []string{"device 1"}, "show 1", "device 1 user 1 ones 1 2")
	checkOutput(t, []string{"device 1"}, "show 2", "none")
	checkOutputs(t, world(), []string{"show -1", "show 0", "show 5", "show 9", "show 10"}, "none")
	one, two, three := realId(public(6000), public(1000)), realId(public(6010), public(2000)), realId(public(6020), public(3000))
	checkOutput(t, world(), "show 1", "device 1 user 0 ones 1 2 2:1 "+realId(public(5000), public(2000))+"* 3:1 "+realId(public(5010), public(3000))+"* 4:1 "+realId(public(5020), public(4000))+"*")
	checkOutput(t, world(), "show 4", "device 4 user 1 ones 1 2 1:1 "+one+"* 2:1 "+two+"* 3:1 "+three+"*")
	checkOutput(t, append(world(), "take 0"), "show 3", "device 3 user 0 ones 1:1 "+realId(public(5010), public(3000))+" 4:1 "+three)
	checkOutput(t, append(world(), "take 1"), "show 4", "device 4 user 1 ones 2 1:2 "+realId(public(5020), public(4000))+" 2:1 "+two+"* 3:1 "+three+"*")
}

func TestSaid(t *testing.T) {
	for _, n := range []string{"-1", "0", "1"} {
		checkOutput(t, nil, "said "+n, "none")
		checkOutput(t, []string{"device 0", "device 1", "send 1 1 hi"}, "said "+n, "none")
	}
	for n, want := range map[string]string{"-2": "none", "-1": "none", "0": "1 2 hi", "1": "4 3 yo", "2": "none", "3": "none", "60": "none"} {
		checkOutput(t, world(), "said "+n, want)
	}
	checkScript(t, append(talk(), "take 1", "take 0", "said 0", "said 1", "said 2", "said 3"), "1 2 hi", "1 2 so", "2 1 yo", "none")
}

func TestActive(t *testing.T) {
	for _, s := range []string{"active 1 2", "active 2 1", "active 0 0", "active -1 1", "active 1 1"} {
		checkOutput(t, nil, s, "none")
		checkOutput(t, []string{"device 0", "device 1"}, s, "none")
	}
	begun := realId(public(3000), public(2000))
	for s, want := range map[string]string{
		"active 1 2": begun, "active 2 1": begun, "active 1 1": "none", "active 2 2": "none", "active 1 3": "none", "active 3 1": "none", "active 0 1": "none", "active 1 0": "none",
		"active -1 2": "none", "active 1 -2": "none", "active -1 -2": "none", "active 2 9": "none", "active 9 2": "none", "active 1 10": "none",
	} {
		checkOutput(t, talk(), s, want)
	}
	// Only the sender has a session before the envelope is taken.
	sent := []string{"device 0", "device 1", "send 1 1 hi"}
	checkOutput(t, sent, "active 1 2", begun)
	checkOutput(t, sent, "active 2 1", "none")
	for device := range 7 {
		lines := world()
		for peer := range 11 {
			lines = append(lines, "active "+strconv.Itoa(device)+" "+strconv.Itoa(peer))
		}
		runScript(t, scriptOf(lines...))
	}
}

func TestMail(t *testing.T) {
	checkOutput(t, nil, "mail", "none")
	checkOutput(t, []string{"device 0", "device 0"}, "mail", "none")
	checkOutput(t, []string{"device 0", "device 0", "send 1 0 x", "take 0"}, "mail", "none")
	checkOutput(t, talk(), "mail", "2>1 0 0 34, 1>2 init 1 0 1 34")
	checkOutput(t, world(), "mail", "1>3 init 1 0 0 34, 1>4 init 1 0 0 34, 4>1 init 1 0 0 34, 4>2 init 2 0 0 34")
	checkOutput(t, append(world(), "copy 3", "drop 0"), "mail", "1>4 init 1 0 0 34, 4>1 init 1 0 0 34, 4>2 init 2 0 0 34, 4>2 init 2 0 0 34")
	// Without one-time prekeys that are left, the One is 0.
	checkScript(t, []string{"device 0", "device 0", "device 0", "device 0", "send 1 0 a", "send 2 0 b", "send 3 0 c", "drop 0", "drop 0", "drop 0", "drop 0", "drop 0", "drop 0", "drop 0", "mail"}, "3>2 init 2 0 0 33, 3>4 init 0 0 0 33")
	checkScript(t, []string{"device 0", "device 0", "send 1 0 " + strings.Repeat("x", 60), "bend 0 0", "mail"}, "1>2 init 1 0 0 92")
}
