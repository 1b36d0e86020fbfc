package tests

import (
	"fmt"
	"regexp"
	"testing"

	"loop.example/g00702/impl"
)

// This file follows chapter 13 by formats and patterns.
// Every call of its functions in these tests is compared with it.

var letterPattern = regexp.MustCompile(`^[1-4] [1-4] [\x21-\x7e]{1,60}$`)

func realLetterText(l impl.Letter) string {
	if !within(l.From, 1, 4) || !within(l.To, 1, 4) || !realTextOk(l.Data) {
		return ""
	}
	return fmt.Sprintf("%d %d %s", l.From, l.To, l.Data)
}

func realDeviceText(d impl.Device) string {
	if !realDeviceOk(d) {
		return ""
	}
	out := fmt.Sprintf("device %d user %d ones", d.Id, d.User)
	for _, one := range d.Ones {
		out += fmt.Sprintf(" %d", one.Id)
	}
	for _, p := range d.Peers {
		out += fmt.Sprintf(" %d:%d %s", p.Id, len(p.Held), p.Held[0].Id)
		if p.Held[0].Has {
			out += "*"
		}
	}
	return out
}

func realLetterPart(e impl.Env) string {
	if !realEnvOk(e) {
		return ""
	}
	init := ""
	if e.Has {
		init = fmt.Sprintf(" init %d", e.Init.One)
	}
	return fmt.Sprintf("%d>%d%s %d %d %d", e.From, e.To, init, e.Msg.Head.Prev, e.Msg.Head.N, len(e.Msg.Sealed))
}

// letterText is LetterText, with its result checked, and the letter recovered from it.
func letterText(t *testing.T, l impl.Letter) string {
	t.Helper()
	want := realLetterText(l)
	for range 2 {
		if got := impl.LetterText(l); got != want {
			t.Errorf("LetterText(%#v) = %q; want %q", l, got, want)
		}
	}
	if want != "" {
		checkReadLetter(t, want, l, true)
	}
	return want
}

func checkReadLetter(t *testing.T, s string, want impl.Letter, wantOk bool) {
	t.Helper()
	if got, ok := impl.ReadLetter(s); got != want || ok != wantOk {
		t.Errorf("ReadLetter(%q) = %#v, %v; want %#v, %v", s, got, ok, want, wantOk)
	}
}

// checkLetterText checks ReadLetter with a text that may or may not be that of a letter.
func checkLetterText(t *testing.T, s string) {
	t.Helper()
	l, ok := impl.ReadLetter(s)
	if ok != letterPattern.MatchString(s) || ok && realLetterText(l) != s || !ok && l != (impl.Letter{}) {
		t.Errorf("ReadLetter(%q) = %#v, %v", s, l, ok)
	}
}

// deviceText is DeviceText, with its result and its argument checked.
func deviceText(t *testing.T, name string, d impl.Device) string {
	t.Helper()
	want := realDeviceText(d)
	g := guardedDevice(d)
	for _, x := range []impl.Device{g.d, d, g.d} {
		if got := impl.DeviceText(x); got != want {
			t.Errorf("%s: DeviceText(%#v) = %q; want %q", name, x, got, want)
		}
	}
	g.check(t, "DeviceText")
	return want
}

// letterPart is LetterPart, with its result checked.
func letterPart(t *testing.T, e impl.Env) string {
	t.Helper()
	want := realLetterPart(e)
	for range 2 {
		if got := impl.LetterPart(e); got != want {
			t.Errorf("LetterPart(%#v) = %q; want %q", e, got, want)
		}
	}
	return want
}
