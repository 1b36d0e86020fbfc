package tests

import (
	"math/rand"
	"strconv"
	"testing"

	"loop.example/g00702/impl"
)

// recipients returns the devices that a letter is for, where the devices have these users.
func recipients(users []int64, c impl.Cmd) []int64 {
	out := []int64{}
	for i, user := range users {
		if id := int64(i + 1); id != c.A && (user == c.B || user == users[c.A-1]) {
			out = append(out, id)
		}
	}
	return out
}

// sentBy counts the letters that the commands sent, by sender, recipient and text.
func sentBy(list []impl.Cmd, answers []impl.Answer) map[impl.Letter]int {
	out := map[impl.Letter]int{}
	users := []int64{}
	for i, c := range list {
		if answers[i].Code != impl.PwOk {
			continue
		}
		switch c.Kind {
		case impl.CmDevice:
			users = append(users, c.A)
		case impl.CmSend:
			for _, to := range recipients(users, c) {
				out[impl.Letter{From: c.A, To: to, Data: c.Text}]++
			}
		}
	}
	return out
}

// checkDelivered checks the first half of the promise, and, if all were to arrive, the second one.
func checkDelivered(t *testing.T, list []impl.Cmd, all bool) {
	t.Helper()
	w, answers := play(t, list)
	left := sentBy(list, answers)
	for _, l := range w.Said {
		left[l]--
		if left[l] < 0 {
			t.Errorf("%v is delivered more often than it was sent", l)
		}
	}
	for l, n := range left {
		if all && n > 0 {
			t.Errorf("%v was sent, but not delivered, by %v", l, texts(list))
		}
	}
}

func texts(list []impl.Cmd) []string {
	out := []string{}
	for _, c := range list {
		out = append(out, impl.CmdText(c))
	}
	return out
}

// randomCmd returns any command, mostly one that moves letters, with texts that often are equal.
func randomCmd(source *rand.Rand) impl.Cmd {
	a, b := int64(source.Intn(1000)), int64(source.Intn(1000))
	switch n := source.Intn(40); {
	case n < 1:
		return impl.Cmd{Kind: impl.CmDevice, A: a % 2}
	case n < 14:
		return impl.Cmd{Kind: impl.CmSend, A: 1 + a%4, B: b % 2, Text: string(rune('a' + source.Intn(3)))}
	case n < 28:
		return impl.Cmd{Kind: impl.CmTake, A: a}
	case n < 31:
		return impl.Cmd{Kind: impl.CmDrop, A: a}
	case n < 36:
		return impl.Cmd{Kind: impl.CmCopy, A: a}
	case n < 39:
		return impl.Cmd{Kind: impl.CmBend, A: a, B: b}
	}
	return impl.Cmd{Kind: int64(source.Intn(9)), A: a - 1, B: b % 3, Text: "x"[:source.Intn(2)]}
}

func TestWhateverHappens(t *testing.T) {
	t.Parallel()
	for round := range int64(40) {
		source := rand.New(rand.NewSource(round))
		list := []impl.Cmd{}
		for range 1 + source.Intn(4) {
			list = append(list, impl.Cmd{Kind: impl.CmDevice, A: int64(source.Intn(2))})
		}
		for len(list) < 60 {
			list = append(list, randomCmd(source))
		}
		checkDelivered(t, list, false)
	}
}

// Every envelope is copied, and the originals and the copies are taken in any order.
func TestEverythingIsCopied(t *testing.T) {
	t.Parallel()
	for round := range int64(12) {
		source := rand.New(rand.NewSource(round))
		list := commands(t, "device 0", "device 1", "device 1")
		for mail := int64(0); len(list) < 60; {
			if mail == 0 || mail < 8 && source.Intn(3) == 0 {
				list = append(list, impl.Cmd{Kind: impl.CmSend, A: 1, B: 1, Text: "x"})
				list = append(list, impl.Cmd{Kind: impl.CmCopy, A: mail}, impl.Cmd{Kind: impl.CmCopy, A: mail + 1})
				mail += 4
			} else {
				list = append(list, impl.Cmd{Kind: impl.CmTake, A: int64(source.Intn(1000))})
				mail--
			}
		}
		checkDelivered(t, list[:60], false)
	}
}

// A sequence writes and takes until it has written so many letters, and has taken them all.
type sequence struct {
	list  []impl.Cmd
	mail  int64
	wrote int
}

func (s sequence) with(c impl.Cmd, mail int64, wrote int) sequence {
	list := append(append([]impl.Cmd(nil), s.list...), c)
	return sequence{list: list, mail: s.mail + mail, wrote: s.wrote + wrote}
}

// every calls done with all sequences of two devices that begin with s and write max letters.
func (s sequence) every(max int, done func([]impl.Cmd)) {
	if s.wrote == max && s.mail == 0 {
		done(s.list)
	}
	if s.wrote < max {
		for from := range int64(2) {
			c := impl.Cmd{Kind: impl.CmSend, A: from + 1, B: 1 - from, Text: "m" + strconv.Itoa(s.wrote)}
			s.with(c, 1, 1).every(max, done)
		}
	}
	for i := range s.mail {
		s.with(impl.Cmd{Kind: impl.CmTake, A: i}, -1, 0).every(max, done)
	}
}

// Two devices write three letters, in all ways, and take them in all orders in between.
func TestEveryOrderOfThree(t *testing.T) {
	t.Parallel()
	count := 0
	sequence{list: commands(t, "device 0", "device 1")}.every(3, func(list []impl.Cmd) {
		count++
		checkDelivered(t, list, true)
	})
	if count != 120 {
		t.Errorf("there are %d sequences", count)
	}
}

// Up to four devices write eight letters, each of them to up to three others, and take in between.
func TestEverythingIsDelivered(t *testing.T) {
	t.Parallel()
	for round := range int64(40) {
		source := rand.New(rand.NewSource(round))
		users := []int64{}
		list := []impl.Cmd{}
		for range 2 + source.Intn(3) {
			users = append(users, int64(source.Intn(2)))
			list = append(list, impl.Cmd{Kind: impl.CmDevice, A: users[len(users)-1]})
		}
		mail, wrote := 0, 0
		for mail > 0 || wrote < 8 {
			if wrote < 8 && (mail == 0 || source.Intn(3) == 0) {
				c := impl.Cmd{Kind: impl.CmSend, A: int64(1 + source.Intn(len(users))), B: int64(source.Intn(2)), Text: "m" + strconv.Itoa(wrote%5)}
				list = append(list, c)
				mail += len(recipients(users, c))
				wrote++
			} else {
				list = append(list, impl.Cmd{Kind: impl.CmTake, A: int64(source.Intn(1000))})
				mail--
			}
		}
		checkDelivered(t, list, true)
	}
}

// Eight letters are written before the first one is taken.
func TestEightInAnyOrder(t *testing.T) {
	t.Parallel()
	for round := range int64(16) {
		source := rand.New(rand.NewSource(round))
		list := commands(t, "device 0", "device 1", "device 0")
		wrote := 0
		for i := range 8 {
			from := int64(1)
			if round%2 == 1 {
				from += int64(source.Intn(3))
			}
			list = append(list, impl.Cmd{Kind: impl.CmSend, A: from, B: from % 2, Text: "m" + strconv.Itoa(i)})
			wrote += 2
		}
		for range wrote {
			list = append(list, impl.Cmd{Kind: impl.CmTake, A: int64(source.Intn(1000))})
		}
		checkDelivered(t, list, true)
	}
}

// What was answered does not depend on the commands that follow.
func TestPlayOfPrefixes(t *testing.T) {
	t.Parallel()
	source := rand.New(rand.NewSource(5))
	list := commands(t, "device 0", "device 1", "device 1")
	for len(list) < 40 {
		list = append(list, randomCmd(source))
	}
	w, answers := play(t, list)
	for n := range list {
		first, firstAnswers := play(t, list[:n])
		if !sameList(firstAnswers, answers[:n]) || !sameList(first.Said, w.Said[:len(first.Said)]) {
			t.Errorf("the first %d commands have the answers %v and the letters %v", n, firstAnswers, first.Said)
		}
	}
	for to := range int64(6) {
		saidTo(t, list, to)
	}
}
