package tests

import (
	"encoding/binary"
	"fmt"
	"hash/crc32"
	"slices"
	"strings"
	"testing"

	"loop.example/g00702/impl"
)

// This file follows chapter 12 with the disks of l11_model_test.go and the check sums of the standard library.
// Every call of a function of that chapter in these tests is compared with it.

func realFrameOf(data string) string {
	if len(data) > 100000 {
		return ""
	}
	return string(binary.BigEndian.AppendUint32(nil, uint32(len(data)))) + realCheckSum(data) + data
}

func realCheckSum(data string) string {
	return string(binary.LittleEndian.AppendUint32(nil, crc32.ChecksumIEEE([]byte(data))))
}

func realTakeFrames(s string) ([]string, int64) {
	list, rest := []string{}, s
	for len(rest) >= 8 {
		size := int(binary.BigEndian.Uint32([]byte(rest)))
		if size > len(rest)-8 || realFrameOf(rest[8:8+size]) != rest[:8+size] {
			break
		}
		list = append(list, rest[8:8+size])
		rest = rest[8+size:]
	}
	return list, int64(len(s) - len(rest))
}

// realLog returns the commands that count, and the number of their bytes.
func realLog(s string) ([]impl.Cmd, int) {
	cmds, size := []impl.Cmd{}, 0
	frames, _ := realTakeFrames(s)
	for i, data := range frames {
		text, ok := strings.CutPrefix(data, fmt.Sprintf("%d ", i))
		if !ok || !cmdPattern.MatchString(text) || i == 60 {
			break
		}
		c, _ := impl.ReadCmd(text)
		cmds = append(cmds, c)
		size += 8 + len(data)
	}
	return cmds, size
}

func realStoreView(d impl.Disk) ([]impl.Cmd, int64) {
	if !realDiskOk(d) {
		return nil, impl.StDisk
	}
	s, found := realFilesOf(d.Live)["log"]
	if !found {
		return nil, impl.StNone
	}
	cmds, _ := realLog(s)
	return cmds, impl.StOk
}

// A realStepOf that is nil is a Sync.
type realStepOf = *impl.DOp

func realSteps(d impl.Disk, power int64, steps []realStepOf) (impl.Disk, int64) {
	e := d
	for i, op := range steps {
		if power >= 0 && int64(i) >= power {
			return e, impl.StPower
		}
		if op == nil {
			e = realSync(e)
			continue
		}
		next, code := realDo(e, *op)
		if code != impl.DkOk {
			return d, impl.StFull
		}
		e = next
	}
	return e, impl.StOk
}

func realStoreDo(d impl.Disk, a impl.Act) (impl.Disk, int64) {
	if !realDiskOk(d) {
		return impl.Disk{}, impl.StDisk
	}
	if a.Kind < 1 || a.Kind > 4 {
		return d, impl.StForm
	}
	if a.Kind == 4 {
		crashed, ok := realCrash(d, a.Keep, a.Torn)
		if !ok {
			return d, impl.StForm
		}
		return realStoreDo(crashed, impl.Act{Kind: 3, Power: a.Power})
	}
	s, found := realFilesOf(d.Live)["log"]
	if found && a.Kind == 1 {
		return d, impl.StForm
	}
	if !found && a.Kind != 1 {
		return d, impl.StNone
	}
	switch a.Kind {
	case 2:
		return realAdd(d, s, a)
	case 3:
		return realOpen(d, s, a.Power)
	}
	return realSteps(d, a.Power, []realStepOf{{Kind: 1, Name: "log"}, nil})
}

func realAdd(d impl.Disk, s string, a impl.Act) (impl.Disk, int64) {
	cmds, size := realLog(s)
	if !realCmdOk(a.C) {
		return d, impl.StForm
	}
	if size != len(s) {
		return d, impl.StTorn
	}
	if len(cmds) == 60 {
		return d, impl.StFull
	}
	frame := realFrameOf(fmt.Sprintf("%d %s", len(cmds), realCmdText(a.C)))
	steps := []realStepOf{{Kind: 1, Name: "log", Data: frame}}
	if a.Sync {
		steps = append(steps, nil)
	}
	return realSteps(d, a.Power, steps)
}

func realOpen(d impl.Disk, s string, power int64) (impl.Disk, int64) {
	_, size := realLog(s)
	if size == len(s) {
		return d, impl.StOk
	}
	steps := []realStepOf{}
	if _, left := realFilesOf(d.Live)["log.new"]; left {
		steps = append(steps, &impl.DOp{Kind: 3, Name: "log.new"})
	}
	steps = append(steps, &impl.DOp{Kind: 1, Name: "log.new", Data: s[:size]}, nil, &impl.DOp{Kind: 2, Name: "log.new", To: "log"}, nil)
	return realSteps(d, power, steps)
}

func realStorePlay(d impl.Disk, list []impl.Act) (impl.Disk, []int64) {
	if !realDiskOk(d) {
		return impl.Disk{}, nil
	}
	codes := []int64{}
	for _, a := range list {
		next, code := realStoreDo(d, a)
		d = next
		codes = append(codes, code)
	}
	return d, codes
}

func sameAct(a impl.Act, b impl.Act) bool {
	keeps := sameList(a.Keep, b.Keep)
	return keeps && a.Kind == b.Kind && a.C == b.C && a.Sync == b.Sync && a.Power == b.Power && a.Torn == b.Torn
}

// An actGuard keeps what a list of actions was, with spare capacity behind it and behind each Keep.
type actGuard struct {
	list []impl.Act
	was  []impl.Act
}

func wholeActs(list []impl.Act) []impl.Act {
	out := append([]impl.Act(nil), list[:cap(list)]...)
	for i, a := range out {
		out[i].Keep = append([]int64(nil), a.Keep[:cap(a.Keep)]...)
	}
	return out
}

func guardedActs(list ...impl.Act) actGuard {
	list = roomy(list, impl.Act{Kind: -7, Keep: []int64{-7}})
	for i, a := range list {
		list[i].Keep = roomy(a.Keep, -7)
	}
	return actGuard{list: list, was: wholeActs(list)}
}

func (g actGuard) check(t *testing.T, name string) {
	t.Helper()
	if !slices.EqualFunc(wholeActs(g.list), g.was, sameAct) {
		t.Errorf("%s: the actions have changed", name)
	}
}

// checkFrameOf checks FrameOf with any data, and that TakeFrames takes the frame back.
func checkFrameOf(t *testing.T, data string) {
	t.Helper()
	frame := impl.FrameOf(data)
	if want := realFrameOf(data); frame != want {
		t.Errorf("FrameOf of %d bytes has %d bytes; want %d", len(data), len(frame), len(want))
	}
	if frame != "" {
		if list, size := takeFrames(t, frame); !sameList(list, []string{data}) || size != int64(len(frame)) {
			t.Errorf("TakeFrames of the frame of %d bytes = %d elements, %d", len(data), len(list), size)
		}
	}
}

// takeFrames is TakeFrames, with its result checked, and so are the functions below, with their arguments.
func takeFrames(t *testing.T, s string) ([]string, int64) {
	t.Helper()
	want, wantSize := realTakeFrames(s)
	if got, size := impl.TakeFrames(s); !sameList(got, want) || size != wantSize {
		t.Errorf("TakeFrames of %d bytes = %d elements, %d; want %d, %d", len(s), len(got), size, len(want), wantSize)
	}
	return want, wantSize
}

func storeView(t *testing.T, d impl.Disk) ([]impl.Cmd, int64) {
	t.Helper()
	want, wantCode := realStoreView(d)
	g := guardedDisk(d)
	if got, code := impl.StoreView(g.d); !sameList(got, want) || code != wantCode {
		t.Errorf("StoreView of %s = %v, %d; want %v, %d", diskText(d), got, code, want, wantCode)
	}
	g.check(t, "StoreView")
	return want, wantCode
}

func storeDo(t *testing.T, d impl.Disk, a impl.Act) (impl.Disk, int64) {
	t.Helper()
	want, wantCode := realStoreDo(d, a)
	g, acts := guardedDisk(d), guardedActs(a)
	got, code := impl.StoreDo(g.d, acts.list[0])
	if code != wantCode {
		t.Errorf("StoreDo of %s and %+v = %d; want %d", diskText(d), a, code, wantCode)
	}
	g.checkResult(t, "StoreDo", got, want)
	acts.check(t, "StoreDo")
	return copiedDisk(want), wantCode
}

func storePlay(t *testing.T, d impl.Disk, list []impl.Act) (impl.Disk, []int64) {
	t.Helper()
	want, wantCodes := realStorePlay(d, list)
	g, acts := guardedDisk(d), guardedActs(list...)
	got, codes := impl.StorePlay(g.d, acts.list)
	if !sameList(codes, wantCodes) {
		t.Errorf("StorePlay of %s and %+v = %v; want %v", diskText(d), list, codes, wantCodes)
	}
	g.checkResult(t, "StorePlay", got, want)
	acts.check(t, "StorePlay")
	all := []memory{memoryOf("the codes", codes)}
	for _, a := range acts.list {
		all = append(all, memoryOf("a Keep", a.Keep))
	}
	checkApart(t, "StorePlay", all)
	return copiedDisk(want), wantCodes
}

func recovered(t *testing.T, d impl.Disk) ([]impl.Letter, []impl.Answer, int64) {
	t.Helper()
	cmds, wantCode := realStoreView(d)
	w, wantAnswers := realPlay(t, cmds)
	g := guardedDisk(d)
	letters, answers, code := impl.Recovered(g.d)
	if !sameList(letters, w.Said) || !sameList(answers, wantAnswers) || code != wantCode {
		t.Errorf("Recovered of %s = %v, %v, %d; want %v, %v, %d", diskText(d), letters, answers, code, w.Said, wantAnswers, wantCode)
	}
	g.check(t, "Recovered")
	checkApart(t, "Recovered", []memory{memoryOf("the letters", letters), memoryOf("the answers", answers)})
	return w.Said, wantAnswers, wantCode
}
