package tests

import (
	"fmt"
	"regexp"
	"strings"
	"testing"

	"loop.example/g00702/impl"
)

// This file follows chapter 14 by patterns, with the world of l10_model_test.go and the texts of l13_model_test.go.
// Every call of RunScript in these tests is compared with it.

var (
	spaces = regexp.MustCompile(" +")

	showPattern   = regexp.MustCompile(`^show (0|-?[1-9][0-9]{0,15})$`)
	saidPattern   = regexp.MustCompile(`^said (0|-?[1-9][0-9]{0,15})$`)
	activePattern = regexp.MustCompile(`^active (0|-?[1-9][0-9]{0,15}) (0|-?[1-9][0-9]{0,15})$`)
)

// A realScript is the world between two lines, and the number of the commands so far.
type realScript struct {
	w    impl.World
	cmds int
}

func realRunScript(t *testing.T, s string) string {
	t.Helper()
	if len(s) > 3000 || strings.Count(s, "\n") > 40 || s != "" && s[len(s)-1] != '\n' {
		return "too long\n"
	}
	out, x := "", &realScript{}
	for _, line := range strings.SplitAfter(s, "\n") {
		line = strings.Trim(strings.TrimSuffix(line, "\n"), " ")
		if line != "" {
			out += x.line(t, spaces.ReplaceAllString(line, " ")) + "\n"
		}
	}
	return out
}

func (x *realScript) line(t *testing.T, line string) string {
	t.Helper()
	if cmdPattern.MatchString(line) {
		c, _ := impl.ReadCmd(line)
		w, a := realNext(t, x.w, c, x.cmds)
		x.w, x.cmds = w, x.cmds+1
		return realAnswerText(a)
	}
	out := ""
	switch {
	case line == "mail":
		list := []string{}
		for _, e := range x.w.Mail {
			list = append(list, realLetterPart(e))
		}
		out = strings.Join(list, ", ")
	case showPattern.MatchString(line):
		if d := x.device(showPattern.FindStringSubmatch(line)[1]); d != nil {
			out = realDeviceText(*d)
		}
	case saidPattern.MatchString(line):
		for i, l := range x.w.Said {
			if line == fmt.Sprintf("said %d", i) {
				out = realLetterText(l)
			}
		}
	case activePattern.MatchString(line):
		out = x.active(activePattern.FindStringSubmatch(line))
	default:
		return "what"
	}
	if out == "" {
		return "none"
	}
	return out
}

// device returns nil for a text that is not the Id of a device.
func (x *realScript) device(text string) *impl.Device {
	for i := range x.w.Devices {
		if fmt.Sprint(x.w.Devices[i].Id) == text {
			return &x.w.Devices[i]
		}
	}
	return nil
}

func (x *realScript) active(words []string) string {
	if d := x.device(words[1]); d != nil {
		for _, p := range d.Peers {
			if fmt.Sprint(p.Id) == words[2] {
				return p.Held[0].Id
			}
		}
	}
	return ""
}

func realAnswerText(a impl.Answer) string {
	out := fmt.Sprintf("ok %d %s", a.N, a.Data)
	if a.Code != impl.PwOk {
		out = fmt.Sprintf("no %d %d", a.Code, a.N)
		if a.N == 0 {
			out = fmt.Sprintf("no %d", a.Code)
		}
	}
	return strings.TrimSuffix(out, " ")
}

// runScript is RunScript, with its result checked.
func runScript(t *testing.T, s string) string {
	t.Helper()
	want := realRunScript(t, s)
	for range 2 {
		if got := impl.RunScript(s); got != want {
			t.Errorf("RunScript(%q) = %q; want %q", s, got, want)
		}
	}
	return want
}

// scriptOf ends each line with a newline.
func scriptOf(lines ...string) string {
	out := ""
	for _, s := range lines {
		out += s + "\n"
	}
	return out
}

// checkScript runs the lines, and compares the last lines of the output.
func checkScript(t *testing.T, lines []string, want ...string) {
	t.Helper()
	got := strings.Split(strings.TrimSuffix(runScript(t, scriptOf(lines...)), "\n"), "\n")
	last := got[max(0, len(got)-len(want)):]
	if !sameList(last, want) {
		t.Errorf("the last output of %q is %q; want %q", lines, last, want)
	}
}

// checkOutput runs one line behind the others, and compares its output alone.
func checkOutput(t *testing.T, before []string, line string, want string) {
	t.Helper()
	checkScript(t, then(before, line), want)
}

// checkOutputs does so with many lines that change nothing and have the same output, as many in one script as there is room for.
func checkOutputs(t *testing.T, before []string, lines []string, want string) {
	t.Helper()
	some := []string{}
	for _, line := range lines {
		more := then(some, line)
		if len(before)+len(more) > 40 || len(scriptOf(then(before, more...)...)) > 3000 {
			checkScript(t, then(before, some...), repeated(nil, len(some), want)...)
			more = []string{line}
		}
		some = more
	}
	checkScript(t, then(before, some...), repeated(nil, len(some), want)...)
}
