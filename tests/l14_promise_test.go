package tests

import (
	"math/rand"
	"strconv"
	"strings"
	"testing"

	"loop.example/g00702/impl"
)

// readingLine only reads; some of its indexes are out of range.
func readingLine(source *rand.Rand) string {
	n := func(most int) string { return strconv.Itoa(source.Intn(most) - 1) }
	switch source.Intn(5) {
	case 0:
		return "show " + n(7)
	case 1:
		return "said " + n(6)
	case 2:
		return "mail"
	}
	return "active " + n(7) + " " + n(7)
}

// oddLine is mostly none of the table.
func oddLine(source *rand.Rand) string {
	words := []string{"device", "send", "take", "drop", "copy", "bend", "show", "mail", "said", "active", "0", "1", "2", "-1", "01", "x", "hi", "\t", "", " ", "1000", "9999999999999999", "99999999999999999", "\xff"}
	out := []string{}
	for range source.Intn(5) {
		out = append(out, words[source.Intn(len(words))])
	}
	return strings.Join(out, " ")
}

// randomLines are n lines, mostly commands, which begin with devices.
func randomLines(source *rand.Rand, n int) []string {
	lines := []string{"device 0", "device 1", "device " + strconv.Itoa(source.Intn(2))}
	for len(lines) < n {
		switch k := source.Intn(20); {
		case k < 13:
			lines = append(lines, impl.CmdText(randomCmd(source)))
		case k < 18:
			lines = append(lines, readingLine(source))
		default:
			lines = append(lines, oddLine(source))
		}
	}
	return lines[:n]
}

func TestRandomScripts(t *testing.T) {
	t.Parallel()
	for round := range int64(60) {
		source := rand.New(rand.NewSource(round))
		runScript(t, scriptOf(randomLines(source, 1+source.Intn(40))...))
	}
}

// Any bytes are a script, or too long.
func TestRandomTexts(t *testing.T) {
	t.Parallel()
	for round := range int64(400) {
		source := rand.New(rand.NewSource(round))
		s := []byte(scriptOf(randomLines(source, 1+source.Intn(12))...))
		for range source.Intn(6) {
			s[source.Intn(len(s))] = byte(source.Intn(256))
		}
		for range source.Intn(4) {
			s[source.Intn(len(s))] = " \n0-"[source.Intn(4)]
		}
		runScript(t, string(s))
		runScript(t, string(s)+"\n")
	}
}

// Promise 14, its first half: what comes behind a line does not change its output.
func TestScriptsOfPrefixes(t *testing.T) {
	t.Parallel()
	for round := range int64(6) {
		source := rand.New(rand.NewSource(round))
		lines := randomLines(source, 40)
		all := runScript(t, scriptOf(lines...))
		for n := range lines {
			if out := impl.RunScript(scriptOf(lines[:n]...)); !strings.HasPrefix(all, out) || strings.Count(out, "\n") > n {
				t.Errorf("the first %d lines of %q have the output %q", n, lines, out)
			}
		}
	}
}

// Promise 14, its second half: with more lines that only read, or have no meaning, all other lines have the output that they had.
func TestReadingChangesNothing(t *testing.T) {
	t.Parallel()
	for round := range int64(20) {
		source := rand.New(rand.NewSource(round))
		lines := []string{}
		for _, s := range randomLines(source, 20) {
			if strings.TrimSpace(s) != "" {
				lines = append(lines, s)
			}
		}
		want := strings.Split(runScript(t, scriptOf(lines...)), "\n")
		longer, at := []string{}, []int{}
		for _, s := range lines {
			for source.Intn(2) == 0 && len(longer) < 39-len(lines)+len(at) {
				longer = append(longer, []string{readingLine(source), "fly", "device 2"}[source.Intn(3)])
			}
			at = append(at, len(longer))
			longer = append(longer, s)
		}
		out := strings.Split(runScript(t, scriptOf(longer...)), "\n")
		for i, j := range at {
			checkSame(t, "a line among more lines", out[j], want[i])
		}
	}
}

// A script of commands has the answers of Play, and its letters are those of SaidTo.
func TestScriptIsPlay(t *testing.T) {
	t.Parallel()
	for round := range int64(20) {
		source := rand.New(rand.NewSource(round))
		list := commands(t, "device 0", "device 1", "device 1")
		for len(list) < 30 {
			if c := randomCmd(source); impl.CmdOk(c) {
				list = append(list, c)
			}
		}
		lines := texts(list)
		want := []string{}
		w, answers := impl.Play(list)
		for _, a := range answers {
			want = append(want, realAnswerText(a))
		}
		for i := range 10 {
			lines = append(lines, "said "+strconv.Itoa(i))
			if i < len(w.Said) {
				want = append(want, impl.LetterText(w.Said[i]))
			} else {
				want = append(want, "none")
			}
		}
		checkScript(t, lines, want...)
	}
}

// Calls do not hinder each other.
func TestScriptsKeepNothing(t *testing.T) {
	s := scriptOf(append(world(), "show 1", "mail", "said 0", "active 1 2")...)
	want := runScript(t, s)
	for range 3 {
		runScript(t, scriptOf("show 1", "mail", "said 0", "active 1 2"))
		runScript(t, "device 0\nmail")
		checkSame(t, "the same script again", runScript(t, s), want)
	}
}
