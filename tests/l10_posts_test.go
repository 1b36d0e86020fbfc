package tests

import (
	"slices"
	"strconv"
	"strings"
	"testing"

	"loop.example/g00702/impl"
)

// repeated returns the texts with one of them n times at the end.
func repeated(texts []string, n int, last string) []string {
	out := slices.Clone(texts)
	for range n {
		out = append(out, last)
	}
	return out
}

func TestPlayExample(t *testing.T) {
	w, answers := script(t, "take 0", "send 1 0 x", "device 0", "device 1", "device 1", "send 1 1 hi", "send 2 0 yo", "take 5", "copy 0", "take 0", "take 2")
	checkAnswers(t, answers,
		impl.Answer{Code: impl.PwNone}, impl.Answer{Code: impl.PwNone}, impl.Answer{N: 1}, impl.Answer{N: 2}, impl.Answer{N: 3}, impl.Answer{N: 2}, impl.Answer{N: 2},
		impl.Answer{N: 1, Data: "hi"}, impl.Answer{}, impl.Answer{N: 1, Data: "hi"}, impl.Answer{Code: impl.PwDevice, N: impl.DvNone})
	checkSaid(t, w, impl.Letter{From: 1, To: 3, Data: "hi"}, impl.Letter{From: 1, To: 2, Data: "hi"})
	checkRoutes(t, w, [3]int64{2, 1, 1}, [3]int64{2, 3, 2})
}

func TestPlayNothing(t *testing.T) {
	for _, list := range [][]impl.Cmd{nil, {}} {
		if w, answers := play(t, list); !sameWorld(w, impl.World{}) || len(answers) != 0 {
			t.Errorf("Play of nothing = %#v, %v", w, answers)
		}
		for to := range int64(6) {
			saidTo(t, list, to)
		}
	}
}

func TestMaxCmds(t *testing.T) {
	list := commands(t, repeated([]string{"device 0", "device 1", "send 1 1 hi", "take 0"}, 56, "take 0")...)
	w, answers := play(t, list)
	if len(answers) != 60 || len(w.Devices) != 2 || len(saidTo(t, list, 2)) != 1 {
		t.Errorf("60 commands: %d answers and the world %#v", len(answers), w)
	}
	for _, n := range []int{61, 62, 100, 1000} {
		more := append([]impl.Cmd(nil), list...)
		for len(more) < n {
			more = append(more, list[0])
		}
		if w, answers := play(t, more); !sameWorld(w, impl.World{}) || len(answers) != 0 {
			t.Errorf("%d commands: %v and the world %#v", n, answers, w)
		}
		if letters := saidTo(t, more, 2); len(letters) != 0 {
			t.Errorf("%d commands: %v", n, letters)
		}
	}
	// Commands that are not valid count too.
	if _, answers := play(t, make([]impl.Cmd, 60)); len(answers) != 60 {
		t.Errorf("60 commands that are not valid: %v", answers)
	}
	if _, answers := play(t, make([]impl.Cmd, 61)); len(answers) != 0 {
		t.Errorf("61 commands that are not valid: %v", answers)
	}
}

// The keys of a device depend on the number of the commands before it, whatever these are.
func TestSeeds(t *testing.T) {
	w, _ := play(t, append(make([]impl.Cmd, 3), commands(t, "device 1", "take 0", "device 0")...))
	for i, seed := range []int64{4000, 6000} {
		d := w.Devices[i]
		if d.Ident != realPair(t, seed) || d.Signed != realPair(t, seed+1) || d.Ones[0].Pair != realPair(t, seed+2) || d.Ones[1].Pair != realPair(t, seed+3) {
			t.Errorf("the device %d is %#v", i+1, d)
		}
	}
	// The last command has the last seed.
	list := commands(t, repeated(nil, 59, "take 0")...)
	w, _ = play(t, append(list, impl.Cmd{Kind: impl.CmDevice}))
	if w.Devices[0].Ident != realPair(t, 60000) {
		t.Errorf("the device is %#v", w.Devices[0])
	}
	// Each recipient has its own keys of the sender, and a taken envelope brings a fresh key.
	w, _ = script(t, "device 0", "device 1", "device 0", "device 1", "send 3 1 hi", "take 2")
	for i, e := range w.Mail {
		if e.Init.Eph != public(5000+10*int64(i)) || e.Msg.Head.Pub != public(5001+10*int64(i)) {
			t.Errorf("the envelope %d is %#v", i, e)
		}
	}
	if s := w.Devices[3].Peers[0].Held[0].S; s.Own != impl.KeyFrom(6000) {
		t.Errorf("the session is %#v", s)
	}
}

func TestMaxDevices(t *testing.T) {
	w, answers := script(t, "device 0", "device 1", "device 1", "device 0", "device 0", "device 1", "send 4 1 x", "device 0")
	full := impl.Answer{Code: impl.PwFull}
	checkAnswers(t, answers, impl.Answer{N: 1}, impl.Answer{N: 2}, impl.Answer{N: 3}, impl.Answer{N: 4}, full, full, impl.Answer{N: 3}, full)
	if len(w.Devices) != 4 {
		t.Errorf("there are %d devices", len(w.Devices))
	}
	for i, user := range []int64{0, 1, 1, 0} {
		if d := w.Devices[i]; d.Id != int64(i+1) || d.User != user {
			t.Errorf("the device %d is %#v", i, d)
		}
	}
	checkGiven(t, w, 1, 1, 1, 0)
}

// Commands that are not valid change nothing, and have no other answer than their code.
func TestInvalidCommands(t *testing.T) {
	list := commands(t, "device 0", "device 1", "send 1 1 hi", "send 2 0 yo", "copy 0")
	want, _ := play(t, list)
	for _, c := range []impl.Cmd{
		{}, {Kind: 7}, {Kind: -1}, {Kind: 8, A: 1, B: 1, Text: "x"}, {Kind: 1 << 32, A: 1}, {Kind: 1<<32 + 1},
		{Kind: impl.CmDevice, A: 2}, {Kind: impl.CmDevice, A: -1}, {Kind: impl.CmDevice, B: 1}, {Kind: impl.CmDevice, Text: "x"},
		{Kind: impl.CmSend, Text: "x"}, {Kind: impl.CmSend, A: 5, Text: "x"}, {Kind: impl.CmSend, A: -1, Text: "x"}, {Kind: impl.CmSend, A: 1, B: 2, Text: "x"}, {Kind: impl.CmSend, A: 1, B: -1, Text: "x"},
		{Kind: impl.CmSend, A: 1, B: 1}, {Kind: impl.CmSend, A: 1, B: 1, Text: "a b"}, {Kind: impl.CmSend, A: 1, B: 1, Text: "\x7f"}, {Kind: impl.CmSend, A: 1, B: 1, Text: strings.Repeat("x", 61)},
		{Kind: impl.CmTake, A: -1}, {Kind: impl.CmTake, A: 1000}, {Kind: impl.CmTake, B: 1}, {Kind: impl.CmTake, Text: "x"},
		{Kind: impl.CmDrop, A: -1}, {Kind: impl.CmDrop, A: 1000}, {Kind: impl.CmDrop, B: 1}, {Kind: impl.CmDrop, Text: "x"},
		{Kind: impl.CmCopy, A: -1}, {Kind: impl.CmCopy, A: 1000}, {Kind: impl.CmCopy, B: 1}, {Kind: impl.CmCopy, Text: "x"},
		{Kind: impl.CmBend, A: -1}, {Kind: impl.CmBend, A: 1000}, {Kind: impl.CmBend, B: 1000}, {Kind: impl.CmBend, B: -1}, {Kind: impl.CmBend, Text: "x"},
	} {
		got, answers := play(t, append(append([]impl.Cmd(nil), list...), c))
		checkAnswers(t, answers, impl.Answer{Code: impl.PwForm})
		if !sameWorld(got, want) {
			t.Errorf("%#v has changed the world", c)
		}
		// The form is checked before anything else.
		_, answers = play(t, []impl.Cmd{c})
		checkAnswers(t, answers, impl.Answer{Code: impl.PwForm})
	}
	_, answers := play(t, append(commands(t, "device 0", "device 0", "device 0", "device 0"), impl.Cmd{Kind: impl.CmDevice, A: 2}))
	checkAnswers(t, answers, impl.Answer{Code: impl.PwForm})
}

func TestEmptyMail(t *testing.T) {
	for _, before := range [][]string{nil, {"device 0"}, {"device 0", "device 1"}, {"device 0", "device 1", "send 1 1 hi", "take 0"}, {"device 0", "device 1", "send 1 1 hi", "drop 0"}} {
		want, _ := script(t, before...)
		for _, c := range []string{"take 0", "take 1", "take 999", "drop 0", "drop 999", "copy 0", "copy 999", "bend 0 0", "bend 999 999"} {
			got, answers := script(t, append(slices.Clone(before), c)...)
			checkAnswers(t, answers, impl.Answer{Code: impl.PwNone})
			if !sameWorld(got, want) {
				t.Errorf("%q has changed the world", c)
			}
		}
	}
}

func TestSendOfNoDevice(t *testing.T) {
	none := impl.Answer{Code: impl.PwNone}
	_, answers := script(t, "send 1 0 x", "send 4 1 x", "device 0", "send 2 0 x", "send 1 0 x", "device 1", "send 3 0 x", "device 1", "send 4 1 x", "device 0", "send 4 1 x")
	checkAnswers(t, answers, none, none, impl.Answer{N: 1}, none, impl.Answer{}, impl.Answer{N: 2}, none, impl.Answer{N: 3}, none, impl.Answer{N: 4}, impl.Answer{N: 3})
}

// A letter goes to the devices of the user, and to the other ones of the sender's own user.
func TestRecipients(t *testing.T) {
	for _, c := range []struct {
		users string
		send  string
		to    []int64
	}{
		{"0", "send 1 0 x", nil},
		{"0", "send 1 1 x", nil},
		{"1", "send 1 0 x", nil},
		{"1", "send 1 1 x", nil},
		{"00", "send 1 0 x", []int64{2}},
		{"00", "send 2 1 x", []int64{1}},
		{"01", "send 1 0 x", nil},
		{"01", "send 2 1 x", nil},
		{"01", "send 1 1 x", []int64{2}},
		{"01", "send 2 0 x", []int64{1}},
		{"0110", "send 1 0 x", []int64{4}},
		{"0110", "send 1 1 x", []int64{2, 3, 4}},
		{"0110", "send 2 1 x", []int64{3}},
		{"0110", "send 2 0 x", []int64{1, 3, 4}},
		{"0110", "send 3 0 x", []int64{1, 2, 4}},
		{"0110", "send 4 0 x", []int64{1}},
		{"0001", "send 2 0 x", []int64{1, 3}},
		{"0001", "send 4 1 x", nil},
		{"0001", "send 4 0 x", []int64{1, 2, 3}},
		{"1111", "send 3 0 x", []int64{1, 2, 4}},
		{"1111", "send 3 1 x", []int64{1, 2, 4}},
	} {
		texts := []string{}
		for _, user := range c.users {
			texts = append(texts, "device "+string(user))
		}
		w, answers := script(t, append(texts, c.send)...)
		checkAnswers(t, answers, impl.Answer{N: int64(len(c.to))})
		got := []int64{}
		for _, e := range w.Mail {
			got = append(got, e.To)
			if e.From != int64(c.send[5]-'0') || !e.Has || e.Init.One != 1 {
				t.Errorf("%s, %s: the envelope is %#v", c.users, c.send, e)
			}
		}
		if !sameList(got, c.to) {
			t.Errorf("%s, %s: the recipients are %v; want %v", c.users, c.send, got, c.to)
		}
	}
}

// A third device that writes to one that has given away both one-time prekeys gets none.
func TestOnesAreUsedUp(t *testing.T) {
	four := []string{"device 0", "device 1", "device 1", "device 1"}
	w, _ := script(t, append(slices.Clone(four), "send 2 0 a", "send 3 0 b", "send 4 0 c")...)
	checkRoutes(t, w,
		[3]int64{2, 1, 1}, [3]int64{2, 3, 1}, [3]int64{2, 4, 1},
		[3]int64{3, 1, 2}, [3]int64{3, 2, 1}, [3]int64{3, 4, 2},
		[3]int64{4, 1, 0}, [3]int64{4, 2, 2}, [3]int64{4, 3, 2})
	checkGiven(t, w, 2, 2, 2, 2)
	// Read in the opposite order, all the same: each prekey is that of its own session.
	w, answers := script(t, append(slices.Clone(four), "send 2 0 a", "send 3 0 b", "send 4 0 c", "take 8", "take 7", "take 6", "take 5", "take 4", "take 3", "take 2", "take 1", "take 0")...)
	for _, a := range answers {
		if a.Code != impl.PwOk {
			t.Errorf("the answers are %v", answers)
		}
	}
	for i, n := range []int{0, 0, 0, 0} {
		if len(w.Devices[i].Ones) != n {
			t.Errorf("the device %d has %d one-time prekeys", i+1, len(w.Devices[i].Ones))
		}
	}
}

// A prekey is given away once, also if its envelope is lost, and none where the recipient is known.
func TestGiven(t *testing.T) {
	w, _ := script(t, "device 0", "device 1", "send 1 1 a", "send 1 1 b", "send 1 1 c")
	checkGiven(t, w, 0, 1)
	checkRoutes(t, w, [3]int64{1, 2, 1}, [3]int64{1, 2, 1}, [3]int64{1, 2, 1})
	w, _ = script(t, "device 0", "device 1", "send 1 1 a", "drop 0", "device 0", "send 3 1 b", "send 1 1 c")
	checkGiven(t, w, 1, 2, 1)
	checkRoutes(t, w, [3]int64{3, 1, 1}, [3]int64{3, 2, 2}, [3]int64{1, 2, 1}, [3]int64{1, 3, 1})
	// Who has read a letter knows its sender, and answers without another prekey.
	w, answers := script(t, "device 0", "device 1", "send 1 1 a", "take 0", "send 2 0 b", "take 0")
	checkGiven(t, w, 0, 1)
	checkAnswers(t, answers, impl.Answer{N: 1}, impl.Answer{N: 1, Data: "a"}, impl.Answer{N: 1}, impl.Answer{N: 2, Data: "b"})
	// A rejected letter leaves its sender unknown.
	w, answers = script(t, "device 0", "device 1", "send 1 1 a", "bend 0 0", "take 0", "send 2 0 b")
	checkGiven(t, w, 1, 1)
	checkRoutes(t, w, [3]int64{2, 1, 1})
	checkAnswers(t, answers, impl.Answer{}, impl.Answer{Code: impl.PwDevice, N: impl.DvNone}, impl.Answer{N: 1})
	// A device that knows one of the recipients begins a session with the other one.
	w, _ = script(t, "device 0", "device 1", "send 2 0 a", "take 0", "device 1", "send 1 1 b")
	checkGiven(t, w, 1, 0, 1)
	checkRoutes(t, w, [3]int64{1, 2, -1}, [3]int64{1, 3, 1})
	if e := w.Mail[1]; e.Init.Eph != public(6010) {
		t.Errorf("the second recipient has the envelope %#v", e)
	}
}

func TestSixtyEnvelopesByCopies(t *testing.T) {
	texts := repeated([]string{"device 0", "device 1", "device 0", "device 1"}, 10, "send 1 1 x")
	w, answers := script(t, repeated(texts, 30, "copy 29")...)
	checkAnswers(t, answers, impl.Answer{}, impl.Answer{})
	if len(w.Mail) != 60 || w.Mail[59] != w.Mail[29] {
		t.Errorf("there are %d envelopes", len(w.Mail))
	}
	full, _ := script(t, append(repeated(texts, 30, "copy 29"), "copy 0", "copy 999", "send 1 1 x", "send 4 0 x")...)
	if !sameWorld(full, w) {
		t.Error("the full world has changed")
	}
	_, answers = script(t, append(repeated(texts, 30, "copy 29"), "copy 59", "send 1 1 x", "send 4 1 x", "drop 0", "copy 58", "copy 0")...)
	none := impl.Answer{Code: impl.PwFull}
	checkAnswers(t, answers, none, none, none, impl.Answer{}, impl.Answer{}, none)
}

// With 58 envelopes, a letter for two fits, and one for three does not: none of them is sent.
func TestSixtyEnvelopesBySends(t *testing.T) {
	texts := repeated([]string{"device 0", "device 1", "device 1", "device 1"}, 19, "send 1 1 x")
	texts = append(texts, "copy 0")
	before, _ := script(t, texts...)
	if len(before.Mail) != 58 {
		t.Fatalf("there are %d envelopes", len(before.Mail))
	}
	after, answers := script(t, append(slices.Clone(texts), "send 1 1 y", "send 2 0 y")...)
	checkAnswers(t, answers, impl.Answer{Code: impl.PwFull}, impl.Answer{Code: impl.PwFull})
	if !sameWorld(after, before) {
		t.Error("a letter for which there is no room has changed the world")
	}
	w, answers := script(t, append(slices.Clone(texts), "send 2 1 y", "send 3 1 z", "send 1 0 w", "copy 0", "drop 3", "copy 0", "copy 0")...)
	full := impl.Answer{Code: impl.PwFull}
	checkAnswers(t, answers, impl.Answer{N: 2}, full, impl.Answer{}, full, impl.Answer{}, impl.Answer{}, full)
	if len(w.Mail) != 60 {
		t.Errorf("there are %d envelopes", len(w.Mail))
	}
	checkGiven(t, w, 0, 1, 2, 2)
	// The three envelopes fill the room exactly.
	w, answers = script(t, append(slices.Clone(texts), "drop 57", "send 3 0 y", "copy 0", "drop 0", "send 1 1 y", "take 0")...)
	checkAnswers(t, answers, impl.Answer{}, impl.Answer{N: 3}, full, impl.Answer{}, full, impl.Answer{N: 1, Data: "x"})
	if len(w.Mail) != 58 {
		t.Errorf("there are %d envelopes", len(w.Mail))
	}
}

// A device that is not there is noticed before the room is.
func TestSendToFullMail(t *testing.T) {
	texts := repeated([]string{"device 0", "device 1", "device 1"}, 30, "send 1 1 x")
	w, answers := script(t, append(slices.Clone(texts), "send 4 0 y", "send 1 1 y", "send 1 0 y")...)
	checkAnswers(t, answers, impl.Answer{N: 2}, impl.Answer{Code: impl.PwNone}, impl.Answer{Code: impl.PwFull}, impl.Answer{})
	if len(w.Mail) != 60 {
		t.Errorf("there are %d envelopes", len(w.Mail))
	}
}

// numbered has envelopes from 1 to 2 with the texts m0, m1, .. .
func numbered(n int) []string {
	out := []string{"device 0", "device 1"}
	for i := range n {
		out = append(out, "send 1 1 m"+strconv.Itoa(i))
	}
	return out
}

func TestIndexes(t *testing.T) {
	for _, n := range []int{1, 2, 3, 7} {
		before, _ := script(t, numbered(n)...)
		for _, a := range []int{0, 1, 2, 3, 6, 7, 8, 13, 14, 20, 998, 999} {
			at := strconv.Itoa(a)
			rest := slices.Delete(slices.Clone(before.Mail), a%n, a%n+1)
			w, answers := script(t, append(numbered(n), "take "+at)...)
			data := "m" + strconv.Itoa(a%n)
			checkAnswers(t, answers, impl.Answer{N: 1, Data: data})
			checkSaid(t, w, impl.Letter{From: 1, To: 2, Data: data})
			if !sameList(w.Mail, rest) {
				t.Errorf("take %d of %d leaves %v", a, n, w.Mail)
			}
			w, answers = script(t, append(numbered(n), "drop "+at)...)
			checkAnswers(t, answers, impl.Answer{})
			checkSaid(t, w)
			if !sameList(w.Mail, rest) {
				t.Errorf("drop %d of %d leaves %v", a, n, w.Mail)
			}
			w, answers = script(t, append(numbered(n), "copy "+at)...)
			checkAnswers(t, answers, impl.Answer{})
			if !sameList(w.Mail, append(slices.Clone(before.Mail), before.Mail[a%n])) {
				t.Errorf("copy %d of %d makes %v", a, n, w.Mail)
			}
		}
	}
}

// Each byte of Sealed, with indexes beyond its length.
func TestBend(t *testing.T) {
	before, _ := script(t, numbered(3)...)
	size := len(before.Mail[0].Msg.Sealed)
	if size != 34 {
		t.Fatalf("Sealed has %d bytes", size)
	}
	for _, b := range []int{0, 1, 31, 32, 33, 34, 35, 67, 68, 500, 998, 999} {
		for _, a := range []int{0, 1, 2, 3, 5, 999} {
			w, answers := script(t, append(numbered(3), "bend "+strconv.Itoa(a)+" "+strconv.Itoa(b))...)
			checkAnswers(t, answers, impl.Answer{})
			want := slices.Clone(before.Mail)
			want[a%3].Msg.Sealed = flipped(want[a%3].Msg.Sealed, b%size, 0)
			if !sameList(w.Mail, want) {
				t.Errorf("bend %d %d makes %v", a, b, w.Mail)
			}
		}
	}
	// Every byte of an envelope has its part.
	for b := range size {
		_, answers := script(t, append(numbered(1), "bend 0 "+strconv.Itoa(b), "take 0")...)
		checkAnswers(t, answers, impl.Answer{Code: impl.PwDevice, N: impl.DvNone})
	}
}

func TestBendAndBack(t *testing.T) {
	bad := impl.Answer{Code: impl.PwDevice, N: impl.DvNone}
	w, answers := script(t, append(numbered(1), "bend 0 5", "copy 0", "bend 1 39", "take 1", "take 0")...)
	checkAnswers(t, answers, impl.Answer{}, impl.Answer{}, impl.Answer{}, impl.Answer{N: 1, Data: "m0"}, bad)
	checkSaid(t, w, impl.Letter{From: 1, To: 2, Data: "m0"})
	// Changed twice in different bytes, it stays changed; changed back byte by byte, it is read.
	_, answers = script(t, append(numbered(1), "bend 0 5", "bend 0 6", "copy 0", "take 0", "bend 0 6", "bend 0 5", "take 0")...)
	checkAnswers(t, answers, bad, impl.Answer{}, impl.Answer{}, impl.Answer{N: 1, Data: "m0"})
	// A copy is changed apart from what it was copied from.
	_, answers = script(t, append(numbered(1), "copy 0", "bend 0 0", "take 1", "take 0")...)
	checkAnswers(t, answers, impl.Answer{N: 1, Data: "m0"}, bad)
	_, answers = script(t, append(numbered(1), "copy 0", "bend 1 0", "take 0", "take 0")...)
	checkAnswers(t, answers, impl.Answer{N: 1, Data: "m0"}, bad)
}

// A rejected envelope is removed and changes nothing else, so that a good copy of it is read.
func TestRejectedIsRemoved(t *testing.T) {
	before, _ := script(t, append(numbered(2), "copy 0")...)
	w, answers := script(t, append(numbered(2), "copy 0", "bend 0 0", "take 0")...)
	checkAnswers(t, answers, impl.Answer{Code: impl.PwDevice, N: impl.DvNone})
	want := copiedWorld(before)
	want.Mail = want.Mail[1:]
	if !sameWorld(w, want) {
		t.Errorf("the world is %#v; want %#v", w, want)
	}
	w, answers = script(t, append(numbered(2), "copy 0", "bend 0 0", "take 0", "take 1", "take 0", "take 0")...)
	checkAnswers(t, answers, impl.Answer{N: 1, Data: "m0"}, impl.Answer{N: 1, Data: "m1"}, impl.Answer{Code: impl.PwNone})
	if len(w.Mail) != 0 {
		t.Errorf("%d envelopes are left", len(w.Mail))
	}
}

func TestTakenTwice(t *testing.T) {
	bad := impl.Answer{Code: impl.PwDevice, N: impl.DvNone}
	w, answers := script(t, append(numbered(1), "copy 0", "copy 1", "take 0", "take 1", "take 0", "take 0")...)
	checkAnswers(t, answers, impl.Answer{N: 1, Data: "m0"}, bad, bad, impl.Answer{Code: impl.PwNone})
	checkSaid(t, w, impl.Letter{From: 1, To: 2, Data: "m0"})
	// The same text, written twice, is delivered twice.
	w, _ = script(t, "device 0", "device 1", "send 1 1 x", "send 1 1 x", "copy 0", "copy 1", "take 3", "take 2", "take 1", "take 0")
	checkSaid(t, w, impl.Letter{From: 1, To: 2, Data: "x"}, impl.Letter{From: 1, To: 2, Data: "x"})
	// A copy of a first envelope without a one-time prekey is not read again either.
	w, answers = script(t, "device 0", "device 0", "device 0", "device 1", "send 1 1 a", "send 2 1 b", "send 3 1 c", "copy 8", "take 8", "take 8", "send 4 0 d", "take 10", "take 8")
	checkAnswers(t, answers, impl.Answer{N: 3, Data: "c"}, bad, impl.Answer{N: 3}, impl.Answer{N: 4, Data: "d"}, impl.Answer{N: 4, Data: "d"})
	if len(w.Said) != 3 {
		t.Errorf("the letters are %v", w.Said)
	}
	// An answer, and a message of an older chain, behind a copy.
	_, answers = script(t, append(numbered(2), "copy 0", "copy 1", "take 0", "send 2 0 re", "copy 3", "take 3", "send 1 1 so", "take 4", "take 0", "take 0", "take 0", "take 0")...)
	checkAnswers(t, answers, impl.Answer{N: 2, Data: "re"}, impl.Answer{N: 1}, impl.Answer{N: 1, Data: "so"}, impl.Answer{N: 1, Data: "m1"}, bad, bad, bad)
}

// A message that is lost hinders no other one, not even the first of a session.
func TestLostMessages(t *testing.T) {
	for lost := range 4 {
		list := append(numbered(4), "drop "+strconv.Itoa(lost), "take 0", "take 0", "take 0", "send 2 0 re", "take 0")
		w, answers := script(t, list...)
		checkAnswers(t, answers, impl.Answer{N: 1}, impl.Answer{N: 2, Data: "re"})
		if len(w.Said) != 4 {
			t.Errorf("the letters are %v", w.Said)
		}
	}
}

// Up to eight messages may be behind, more may not.
func TestMoreThanEightBehind(t *testing.T) {
	bad := impl.Answer{Code: impl.PwDevice, N: impl.DvNone}
	for n := range 12 {
		_, answers := script(t, append(numbered(12), "take "+strconv.Itoa(n))...)
		if n <= 8 {
			checkAnswers(t, answers, impl.Answer{N: 1, Data: "m" + strconv.Itoa(n)})
		} else {
			checkAnswers(t, answers, bad)
		}
	}
	// Once a message is read, the reach goes further.
	_, answers := script(t, append(numbered(12), "take 0", "take 9", "take 8")...)
	checkAnswers(t, answers, impl.Answer{N: 1, Data: "m0"}, bad, impl.Answer{N: 1, Data: "m9"})
	// All that were passed over are read later, in any order.
	w, _ := script(t, append(numbered(9), "take 8", "take 3", "take 6", "take 0", "take 4", "take 1", "take 2", "take 0", "take 0")...)
	got := ""
	for _, l := range w.Said {
		got += l.Data
	}
	checkSame(t, "the letters", got, "m8m3m7m0m6m2m5m1m4")
}

func TestSaidTo(t *testing.T) {
	list := commands(t, "device 0", "device 1", "device 0", "send 1 1 a", "send 2 0 b", "send 3 1 c", "take 5", "take 4", "take 3", "take 2", "take 1", "take 0", "send 1 1 d", "take 1", "take 0")
	w, _ := play(t, list)
	checkSaid(t, w,
		impl.Letter{From: 3, To: 2, Data: "c"}, impl.Letter{From: 3, To: 1, Data: "c"}, impl.Letter{From: 2, To: 3, Data: "b"}, impl.Letter{From: 2, To: 1, Data: "b"},
		impl.Letter{From: 1, To: 3, Data: "a"}, impl.Letter{From: 1, To: 2, Data: "a"}, impl.Letter{From: 1, To: 3, Data: "d"}, impl.Letter{From: 1, To: 2, Data: "d"})
	for to, want := range map[int64]string{1: "cb", 2: "cad", 3: "bad", 4: "", 0: "", 5: "", -1: ""} {
		got := ""
		for _, l := range saidTo(t, list, to) {
			got += l.Data
		}
		checkSame(t, "the letters to "+strconv.FormatInt(to, 10), got, want)
	}
	for _, to := range farNumbers() {
		saidTo(t, list, to)
	}
}

// Calls do not hinder each other, and what is done to a result stays there.
func TestPlayKeepsNothing(t *testing.T) {
	list := commands(t, "device 0", "device 1", "device 1", "send 1 1 a", "send 2 0 b", "take 0", "take 1", "copy 0")
	w, answers := impl.Play(list)
	want, wantAnswers := copiedWorld(w), slices.Clone(answers)
	letters := impl.SaidTo(list, 2)
	wantLetters := slices.Clone(letters)
	for i := range w.Devices {
		d := &w.Devices[i]
		d.Id = 77
		clear(d.Ones)
		for j := range d.Peers {
			clear(d.Peers[j].Held)
		}
		clear(d.Peers)
	}
	clear(w.Given)
	clear(w.Mail)
	clear(w.Said)
	clear(answers)
	clear(letters)
	again, againAnswers := impl.Play(list)
	if !sameWorld(again, want) || !sameList(againAnswers, wantAnswers) || !sameList(impl.SaidTo(list, 2), wantLetters) {
		t.Error("equal arguments yield other results")
	}
}
