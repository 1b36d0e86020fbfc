package tests

import (
	"fmt"
	"math/rand"
	"testing"

	"loop.example/g00702/impl"
)

// A journal is a disk together with what promise 12 says of it: the commands at the last sync, and those added since.
type journal struct {
	d     impl.Disk
	sure  []string
	since []string
}

// journalOf performs actions on a new journal, which are not rejected.
func journalOf(t *testing.T, acts ...impl.Act) journal {
	t.Helper()
	j := journal{d: checkAct(t, "a new journal", impl.Disk{}, newAct(), impl.StOk)}
	for _, a := range acts {
		next, code := j.after(t, a)
		if code != impl.StOk && code != impl.StPower {
			t.Fatalf("%+v returns %d", a, code)
		}
		j = next
	}
	return j
}

func (j journal) all() []string {
	return append(append([]string{}, j.sure...), j.since...)
}

// after performs an action, and checks that the journal then contains what it must.
func (j journal) after(t *testing.T, a impl.Act) (journal, int64) {
	t.Helper()
	d, code := storeDo(t, j.d, a)
	if a.Kind == impl.AcCrash && code != impl.StForm {
		return j.lost(t, d), code
	}
	next := journal{d: d, sure: j.sure, since: j.since}
	done := code == impl.StOk || code == impl.StPower && a.Power > 0
	if a.Kind == impl.AcAdd && done {
		next.since = append(append([]string{}, j.since...), impl.CmdText(a.C))
		if a.Sync && code == impl.StOk {
			next.sure, next.since = next.all(), nil
		}
	}
	checkView(t, "a journal", d, next.all()...)
	return next, code
}

// lost is the journal on a disk after a loss of power. What it contains cannot be lost any more.
func (j journal) lost(t *testing.T, d impl.Disk) journal {
	t.Helper()
	list, code := storeView(t, d)
	all := j.all()
	if code != impl.StOk || len(list) < len(j.sure) || len(list) > len(all) || !sameList(texts(list), all[:len(list)]) {
		t.Errorf("after a loss of power: %q, %d; want %q and a prefix of %q", texts(list), code, j.sure, j.since)
	}
	return journal{d: d, sure: texts(list)}
}

// everyLoss calls do with the disk after each loss of power: with each choice of kept operations, the last one torn in several ways.
func everyLoss(t *testing.T, d impl.Disk, do func(impl.Disk)) {
	t.Helper()
	everyKeep(len(d.Ops), func(keep []int64) {
		sizes := []int64{0}
		if len(keep) > 0 {
			n := int64(len(d.Ops[keep[len(keep)-1]].Data))
			sizes = []int64{0, 1, 7, 8, 9, n / 2, n - 1, n, n + 1}
		}
		for _, torn := range sizes {
			if torn < 0 {
				continue
			}
			e, ok := crashDisk(t, d, keep, torn)
			if !ok {
				t.Errorf("%s does not survive a loss of power", diskText(d))
			}
			do(e)
		}
	})
}

// An explorer visits all that can become of a journal by so many losses of power, also while it is recovered.
type explorer struct {
	t    *testing.T
	seen map[string]bool
}

// isNew notes a journal before or after a loss of power, and reports whether it was not there before.
func (x explorer) isNew(when string, j journal, losses int) bool {
	key := fmt.Sprintf("%s %d %#v", when, losses, j)
	before := x.seen[key]
	x.seen[key] = true
	return !before && !x.t.Failed()
}

func (x explorer) visit(j journal, losses int) {
	x.t.Helper()
	if losses > 0 && x.isNew("before", j, losses) {
		everyLoss(x.t, j.d, func(d impl.Disk) {
			x.recover(j.lost(x.t, d), losses-1)
		})
	}
}

// recover cuts AcOpen off behind each of its steps. At last, the journal goes on.
func (x explorer) recover(j journal, losses int) {
	x.t.Helper()
	if !x.isNew("after", j, losses) {
		return
	}
	for power := int64(0); ; power++ {
		next, code := j.after(x.t, powered(openAct(), power))
		x.visit(next, losses)
		if code == impl.StOk {
			checkGoesOn(x.t, next)
			return
		}
		if code != impl.StPower || power > 5 {
			x.t.Fatalf("AcOpen with power %d returns %d", power, code)
		}
	}
}

// checkGoesOn checks that a journal that was recovered takes a command.
func checkGoesOn(t *testing.T, j journal) {
	t.Helper()
	next, code := j.after(t, syncedAct(999))
	if code != impl.StOk || len(next.sure) != len(j.sure)+1 {
		t.Errorf("a recovered journal returns %d", code)
	}
}

// then is the list with more behind it, in new memory.
func then[T any](list []T, more ...T) []T {
	return append(append([]T{}, list...), more...)
}

// someJournals are synced, unsynced, torn, torn with a recovery that was cut off, and without a command.
func someJournals(t *testing.T) map[string]journal {
	t.Helper()
	unsynced := []impl.Act{addAct(0), syncedAct(1), addAct(2), addAct(3), addAct(4)}
	torn := then(unsynced, powered(crashAct(10, 0, 1), 0))
	return map[string]journal{
		"empty":            journalOf(t),
		"synced":           journalOf(t, unsynced[:2]...),
		"unsynced":         journalOf(t, unsynced...),
		"never synced":     journalOf(t, addAct(0), addAct(1), addAct(2)),
		"torn":             journalOf(t, torn...),
		"with a gap":       journalOf(t, then(unsynced, powered(crashAct(99, 0, 2), 0))...),
		"writing log.new":  journalOf(t, then(torn, powered(openAct(), 1))...),
		"log.new is torn":  journalOf(t, then(torn, powered(openAct(), 1), powered(crashAct(5, 0), 0))...),
		"log.new is there": journalOf(t, then(torn, powered(openAct(), 2))...),
		"renamed":          journalOf(t, then(torn, powered(openAct(), 3))...),
	}
}

// Promise 12: a loss of power between any two steps of each action, with every choice of kept operations, and again while the journal is recovered.
func TestEveryLossOfPower(t *testing.T) {
	t.Parallel()
	for name, j := range someJournals(t) {
		t.Run(name, func(t *testing.T) {
			x := explorer{t: t, seen: map[string]bool{}}
			x.visit(j, 2)
			for _, a := range []impl.Act{newAct(), addAct(7), syncedAct(8), openAct(), crashAct(10, 0), crashAct(10, 0, 1), {Kind: 9}} {
				for power := int64(-1); power < 6; power++ {
					next, _ := j.after(t, powered(a, power))
					x.visit(next, 2)
				}
			}
		})
	}
}

// Before the first Sync there may be no journal. If there is one, it is empty.
func TestLossOfPowerDuringAcNew(t *testing.T) {
	for _, d := range []impl.Disk{{}, diskOf(file("log.new", logOf("take 1"))), done(t, stored("x"), removeOp("log"))} {
		for power := range int64(3) {
			e, _ := storeDo(t, d, powered(newAct(), power))
			everyLoss(t, e, func(f impl.Disk) {
				list, code := storeView(t, f)
				if len(list) != 0 || power == 2 && code != impl.StOk {
					t.Errorf("after AcNew with power %d: %v, %d", power, list, code)
				}
			})
		}
	}
}

func randomAct(source *rand.Rand, d impl.Disk) impl.Act {
	power := int64(-1)
	if source.Intn(3) == 0 {
		power = int64(source.Intn(6))
	}
	switch n := source.Intn(20); {
	case n < 11:
		c := randomCmd(source)
		return impl.Act{Kind: impl.AcAdd, C: c, Sync: source.Intn(4) == 0, Power: power}
	case n < 15:
		return powered(openAct(), power)
	case n < 16:
		return powered(newAct(), power)
	case n < 17:
		return impl.Act{Kind: int64(source.Intn(7)) - 1, Power: power, Torn: -1}
	}
	keep := []int64{}
	for i := range d.Ops {
		if source.Intn(4) > 0 {
			keep = append(keep, int64(i))
		}
	}
	return powered(crashAct(int64(source.Intn(30)), keep...), power)
}

// Any actions with any losses of power; what is recovered at the end is the result of the commands that are left.
func TestRandomLosses(t *testing.T) {
	t.Parallel()
	adds := 0
	for round := range int64(60) {
		source := rand.New(rand.NewSource(round))
		j := journalOf(t)
		acts, codes := []impl.Act{newAct()}, []int64{impl.StOk}
		for range 60 {
			a := randomAct(source, j.d)
			next, code := j.after(t, a)
			acts, codes = append(acts, a), append(codes, code)
			j = next
		}
		adds += len(j.all())
		d, got := storePlay(t, impl.Disk{}, acts)
		if !sameDisk(d, j.d) || !sameList(got, codes) {
			t.Errorf("round %d: StorePlay makes %s with %v; want %s with %v", round, diskText(d), got, diskText(j.d), codes)
		}
	}
	if adds < 100 {
		t.Errorf("only %d commands are left", adds)
	}
}

// The letters and answers after every loss of power are those of the commands that are left.
func TestRecoveredAfterLosses(t *testing.T) {
	t.Parallel()
	acts := []impl.Act{}
	for i, c := range commands(t, "device 0", "device 1", "send 1 1 hi", "take 0", "send 2 0 yo", "take 0") {
		acts = append(acts, impl.Act{Kind: impl.AcAdd, C: c, Sync: i == 2, Power: -1})
	}
	j := journalOf(t, acts...)
	results := map[int]bool{}
	everyLoss(t, j.d, func(d impl.Disk) {
		left := j.lost(t, d)
		if results[len(left.sure)] {
			return
		}
		results[len(left.sure)] = true
		letters, answers, code := recovered(t, d)
		w, want := play(t, commands(t, left.sure...))
		if code != impl.StOk || !sameList(letters, w.Said) || !sameList(answers, want) {
			t.Errorf("of %q: %v, %v, %d", left.sure, letters, answers, code)
		}
	})
	if len(results) != 4 {
		t.Errorf("there are %v commands", results)
	}
}

// Equal arguments yield equal results, whatever the capacity behind them.
func TestEqualStores(t *testing.T) {
	for name, j := range someJournals(t) {
		for _, a := range []impl.Act{newAct(), addAct(7), syncedAct(8), openAct(), crashAct(10, 0), powered(openAct(), 2)} {
			first, firstCode := impl.StoreDo(copiedDisk(j.d), a)
			second, secondCode := impl.StoreDo(guardedDisk(j.d).d, guardedActs(a).list[0])
			if !sameDisk(first, second) || firstCode != secondCode {
				t.Errorf("%s: %s, %d and %s, %d", name, diskText(first), firstCode, diskText(second), secondCode)
			}
		}
	}
}
