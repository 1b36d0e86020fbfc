package tests

import (
	"reflect"
	"testing"

	"loop.example/g00702/impl"
)

// This file follows the table of chapter 10 row by row, with the devices of l09_model_test.go.
// Every call of Play in these tests is compared with it.

func realNewDevice(t *testing.T, id int64, user int64, seed int64) impl.Device {
	t.Helper()
	d := impl.Device{Id: id, User: user, Ident: realPair(t, seed), Signed: realPair(t, seed+1)}
	d.Ones = []impl.One{{Id: 1, Pair: realPair(t, seed+2)}, {Id: 2, Pair: realPair(t, seed+3)}}
	return d
}

func realBundleOf(d impl.Device, id int64) impl.Bundle {
	b := impl.Bundle{Ident: d.Ident.Pub, Signed: d.Signed.Pub}
	for _, one := range d.Ones {
		if one.Id == id {
			b.One, b.OneId = one.Pair.Pub, id
		}
	}
	return b
}

// copiedWorld shares nothing with the world; its empty lists are nil.
func copiedWorld(w impl.World) impl.World {
	out := impl.World{
		Given: append([]int64(nil), w.Given...),
		Mail:  append([]impl.Env(nil), w.Mail...),
		Said:  append([]impl.Letter(nil), w.Said...),
	}
	for _, d := range w.Devices {
		out.Devices = append(out.Devices, cloned(d))
	}
	return out
}

func realPlay(t *testing.T, list []impl.Cmd) (impl.World, []impl.Answer) {
	t.Helper()
	if len(list) > 60 {
		return impl.World{}, nil
	}
	w, answers := impl.World{}, []impl.Answer{}
	for i, c := range list {
		next, answer := realNext(t, w, c, i)
		w = next
		answers = append(answers, answer)
	}
	return w, answers
}

// realNext performs the command with the index i. It leaves the world that is passed as it is.
func realNext(t *testing.T, w impl.World, c impl.Cmd, i int) (impl.World, impl.Answer) {
	t.Helper()
	next, answer := realStep(t, copiedWorld(w), c, 1000*int64(i)+1000)
	if answer.Code == impl.PwOk || c.Kind == impl.CmTake {
		return next, answer
	}
	return w, answer
}

func realStep(t *testing.T, w impl.World, c impl.Cmd, seed int64) (impl.World, impl.Answer) {
	t.Helper()
	if !realCmdOk(c) {
		return w, impl.Answer{Code: impl.PwForm}
	}
	switch c.Kind {
	case impl.CmDevice:
		if len(w.Devices) == 4 {
			return w, impl.Answer{Code: impl.PwFull}
		}
		id := int64(len(w.Devices) + 1)
		w.Devices = append(w.Devices, realNewDevice(t, id, c.A, seed))
		w.Given = append(w.Given, 0)
		return w, impl.Answer{N: id}
	case impl.CmSend:
		return realMailing(t, w, c, seed)
	}
	if len(w.Mail) == 0 {
		return w, impl.Answer{Code: impl.PwNone}
	}
	i := c.A % int64(len(w.Mail))
	e := w.Mail[i]
	switch c.Kind {
	case impl.CmCopy:
		if len(w.Mail) == 60 {
			return w, impl.Answer{Code: impl.PwFull}
		}
		w.Mail = append(w.Mail, e)
		return w, impl.Answer{}
	case impl.CmBend:
		w.Mail[i].Msg.Sealed = flipped(e.Msg.Sealed, int(c.B)%len(e.Msg.Sealed), 0)
		return w, impl.Answer{}
	}
	w.Mail = append(w.Mail[:i], w.Mail[i+1:]...)
	if c.Kind == impl.CmDrop {
		return w, impl.Answer{}
	}
	d, data, code := realDeviceReceive(t, w.Devices[e.To-1], e, seed)
	if code != impl.DvOk {
		return w, impl.Answer{Code: impl.PwDevice, N: code}
	}
	w.Devices[e.To-1] = d
	w.Said = append(w.Said, impl.Letter{From: e.From, To: e.To, Data: data})
	return w, impl.Answer{N: e.From, Data: data}
}

func realMailing(t *testing.T, w impl.World, c impl.Cmd, seed int64) (impl.World, impl.Answer) {
	t.Helper()
	if int(c.A) > len(w.Devices) {
		return w, impl.Answer{Code: impl.PwNone}
	}
	n := int64(0)
	for i, d := range w.Devices {
		from := w.Devices[c.A-1]
		if d.Id == c.A || d.User != c.B && d.User != from.User {
			continue
		}
		b := realBundleOf(d, w.Given[i]+1)
		if findPeer(from.Peers, d.Id) == nil && b.One != "" {
			w.Given[i]++
		}
		next, e, code := realDeviceSend(t, from, d.Id, b, c.Text, seed+10*n)
		if code != impl.DvOk {
			return w, impl.Answer{Code: impl.PwDevice}
		}
		w.Devices[c.A-1] = next
		w.Mail = append(w.Mail, e)
		n++
	}
	if len(w.Mail) > 60 {
		return w, impl.Answer{Code: impl.PwFull}
	}
	return w, impl.Answer{N: n}
}

// spareCmd is behind the lists that are passed.
var spareCmd = impl.Cmd{Kind: impl.CmDevice, A: 1}

// A listGuard keeps what a list of commands was, with spare capacity behind it.
type listGuard struct {
	list []impl.Cmd
	was  []impl.Cmd
}

func guardedList(list []impl.Cmd) listGuard {
	out := roomy(list, spareCmd)
	return listGuard{list: out, was: append([]impl.Cmd(nil), out[:cap(out)]...)}
}

func (g listGuard) check(t *testing.T, name string) {
	t.Helper()
	if !reflect.DeepEqual(append([]impl.Cmd(nil), g.list[:cap(g.list)]...), g.was) {
		t.Errorf("%s: the argument has changed", name)
	}
}

// worldMemories are those of all lists of a world.
func worldMemories(w impl.World) []memory {
	out := []memory{memoryOf("Devices", w.Devices), memoryOf("Given", w.Given), memoryOf("Mail", w.Mail), memoryOf("Said", w.Said)}
	for _, d := range w.Devices[:cap(w.Devices)] {
		out = append(out, memories("the device's", d)...)
	}
	return out
}

func sameWorld(a impl.World, b impl.World) bool {
	return reflect.DeepEqual(copiedWorld(a), copiedWorld(b))
}

func sameList[T comparable](a []T, b []T) bool {
	if len(a) != len(b) {
		return false
	}
	for i := range a {
		if a[i] != b[i] {
			return false
		}
	}
	return true
}

// play is Play, with its result and its argument checked.
func play(t *testing.T, list []impl.Cmd) (impl.World, []impl.Answer) {
	t.Helper()
	want, wantAnswers := realPlay(t, list)
	g := guardedList(list)
	got, answers := impl.Play(g.list)
	g.check(t, "Play")
	if !sameWorld(got, want) {
		t.Errorf("Play: the world is %#v; want %#v", got, want)
	}
	if !sameList(answers, wantAnswers) {
		t.Errorf("Play: the answers are %v; want %v", answers, wantAnswers)
	}
	all := append(worldMemories(got), memoryOf("the answers", answers), memoryOf("the argument", g.list))
	checkApart(t, "Play", all)
	checkWorld(t, want)
	return want, wantAnswers
}

// checkWorld checks what the chapter says of every world.
func checkWorld(t *testing.T, w impl.World) {
	t.Helper()
	if len(w.Devices) > impl.MaxDevices || len(w.Given) != len(w.Devices) || len(w.Mail) > impl.MaxMail {
		t.Errorf("the world has %d devices, %d numbers and %d envelopes", len(w.Devices), len(w.Given), len(w.Mail))
	}
	for i, d := range w.Devices {
		if !impl.DeviceOk(d) || d.Id != int64(i+1) || w.Given[i] < 0 || w.Given[i] > 2 {
			t.Errorf("the device %d with %d given is %#v", i, w.Given[i], d)
		}
	}
	for _, e := range w.Mail {
		if impl.EnvBytes(e) == "" {
			t.Errorf("an envelope is %#v", e)
		}
	}
}

// saidTo is SaidTo, with its result and its argument checked.
func saidTo(t *testing.T, list []impl.Cmd, to int64) []impl.Letter {
	t.Helper()
	w, _ := realPlay(t, list)
	want := []impl.Letter{}
	for _, l := range w.Said {
		if l.To == to {
			want = append(want, l)
		}
	}
	g := guardedList(list)
	got := impl.SaidTo(g.list, to)
	g.check(t, "SaidTo")
	if !sameList(got, want) {
		t.Errorf("SaidTo(%d) = %v; want %v", to, got, want)
	}
	checkApart(t, "SaidTo", []memory{memoryOf("the letters", got), memoryOf("the argument", g.list)})
	return want
}

// script plays the commands with these texts.
func script(t *testing.T, texts ...string) (impl.World, []impl.Answer) {
	t.Helper()
	return play(t, commands(t, texts...))
}

// checkAnswers compares the last answers.
func checkAnswers(t *testing.T, got []impl.Answer, want ...impl.Answer) {
	t.Helper()
	if len(got) < len(want) || !sameList(got[len(got)-len(want):], want) {
		t.Errorf("the answers are %v; want %v at the end", got, want)
	}
}

func checkSaid(t *testing.T, w impl.World, want ...impl.Letter) {
	t.Helper()
	if !sameList(w.Said, want) {
		t.Errorf("the letters are %v; want %v", w.Said, want)
	}
}

func checkGiven(t *testing.T, w impl.World, want ...int64) {
	t.Helper()
	if !sameList(w.Given, want) {
		t.Errorf("given are %v; want %v", w.Given, want)
	}
}

// checkRoutes compares From, To and the One of the envelopes in transit, with -1 for one without Init.
func checkRoutes(t *testing.T, w impl.World, want ...[3]int64) {
	t.Helper()
	got := [][3]int64{}
	for _, e := range w.Mail {
		one := e.Init.One
		if !e.Has {
			one = -1
		}
		got = append(got, [3]int64{e.From, e.To, one})
	}
	if !sameList(got, want) {
		t.Errorf("the envelopes are %v; want %v", got, want)
	}
}
