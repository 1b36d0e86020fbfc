package tests

import (
	"fmt"
	"sort"
	"strings"
	"testing"

	"loop.example/g00702/impl"
)

// This file follows chapter 11 with files in a map.
// Every call of a function of that chapter in these tests is compared with it.

type realFiles map[string]string

func realFilesOk(list []impl.File) bool {
	size := 0
	for i, f := range list {
		size += len(f.Data)
		if len(f.Name) < 1 || len(f.Name) > 100 || i > 0 && list[i-1].Name >= f.Name {
			return false
		}
	}
	return len(list) <= 60 && size <= 200000
}

func realFilesOf(list []impl.File) realFiles {
	out := realFiles{}
	for _, f := range list {
		out[f.Name] = f.Data
	}
	return out
}

func (r realFiles) list() []impl.File {
	out := []impl.File{}
	for name, data := range r {
		out = append(out, impl.File{Name: name, Data: data})
	}
	sort.Slice(out, func(i int, j int) bool { return out[i].Name < out[j].Name })
	return out
}

// perform returns false, and does nothing, if there is no such file.
func (r realFiles) perform(op impl.DOp) bool {
	data, found := r[op.Name]
	if op.Kind == 1 {
		r[op.Name] = data + op.Data
		return true
	}
	if !found {
		return false
	}
	delete(r, op.Name)
	if op.Kind == 2 {
		r[op.To] = data
	}
	return true
}

func realOpOk(op impl.DOp) bool {
	named := len(op.Name) >= 1 && len(op.Name) <= 100
	switch op.Kind {
	case 1:
		return named && op.To == ""
	case 2:
		return named && len(op.To) >= 1 && len(op.To) <= 100 && op.Data == ""
	case 3:
		return named && op.To == "" && op.Data == ""
	}
	return false
}

func realDiskOk(d impl.Disk) bool {
	if !realFilesOk(d.Live) || !realFilesOk(d.Safe) || len(d.Ops) > 200 {
		return false
	}
	r := realFilesOf(d.Safe)
	for _, op := range d.Ops {
		if !realOpOk(op) || !r.perform(op) || !realFilesOk(r.list()) {
			return false
		}
	}
	return sameList(r.list(), d.Live)
}

func realDo(d impl.Disk, op impl.DOp) (impl.Disk, int64) {
	if !realDiskOk(d) {
		return impl.Disk{}, impl.DkDisk
	}
	if !realOpOk(op) {
		return d, impl.DkForm
	}
	r := realFilesOf(d.Live)
	if !r.perform(op) {
		return d, impl.DkNone
	}
	if len(d.Ops) == 200 || !realFilesOk(r.list()) {
		return d, impl.DkFull
	}
	return impl.Disk{Live: r.list(), Safe: d.Safe, Ops: append(d.Ops[:len(d.Ops):len(d.Ops)], op)}, impl.DkOk
}

func realSync(d impl.Disk) impl.Disk {
	if !realDiskOk(d) {
		return impl.Disk{}
	}
	return impl.Disk{Live: d.Live, Safe: d.Live}
}

func realCrash(d impl.Disk, keep []int64, torn int64) (impl.Disk, bool) {
	if !realDiskOk(d) || torn < 0 {
		return impl.Disk{}, false
	}
	for i, k := range keep {
		if k < 0 || k >= int64(len(d.Ops)) || i > 0 && keep[i-1] >= k {
			return impl.Disk{}, false
		}
	}
	r := realFilesOf(d.Safe)
	for i, k := range keep {
		op := d.Ops[k]
		if i == len(keep)-1 && op.Kind == 1 && int64(len(op.Data)) > torn {
			op.Data = op.Data[:torn]
		}
		r.perform(op)
	}
	if !realFilesOk(r.list()) {
		return impl.Disk{}, false
	}
	return impl.Disk{Live: r.list(), Safe: r.list()}, true
}

func realReadFile(d impl.Disk, name string) (string, bool) {
	if !realDiskOk(d) {
		return "", false
	}
	data, found := realFilesOf(d.Live)[name]
	return data, found
}

func realReplace(d impl.Disk, name string, data string) (impl.Disk, int64) {
	e, code := d, int64(impl.DkOk)
	if _, found := realReadFile(d, name+".new"); found {
		e, code = realDo(e, impl.DOp{Kind: 3, Name: name + ".new"})
	}
	if code == impl.DkOk {
		e, code = realDo(e, impl.DOp{Kind: 1, Name: name + ".new", Data: data})
	}
	if code == impl.DkOk {
		e, code = realDo(e, impl.DOp{Kind: 2, Name: name + ".new", To: name})
	}
	if code == impl.DkOk || code == impl.DkDisk {
		return e, code
	}
	return d, code
}

func sameDisk(a impl.Disk, b impl.Disk) bool {
	return sameList(a.Live, b.Live) && sameList(a.Safe, b.Safe) && sameList(a.Ops, b.Ops)
}

// diskText describes a disk, the long data by their length.
func diskText(d impl.Disk) string {
	short := func(s string) string {
		if len(s) > 40 {
			return fmt.Sprintf("%q.. (%d)", s[:20], len(s))
		}
		return fmt.Sprintf("%q", s)
	}
	out := []string{}
	for _, part := range [][]impl.File{d.Live, d.Safe} {
		out = append(out, "files")
		for _, f := range part {
			out = append(out, short(f.Name)+": "+short(f.Data))
		}
	}
	for _, op := range d.Ops {
		out = append(out, fmt.Sprintf("op %d %s %s %s", op.Kind, short(op.Name), short(op.To), short(op.Data)))
	}
	return strings.Join(out, "; ")
}

func copiedDisk(d impl.Disk) impl.Disk {
	return impl.Disk{Live: append([]impl.File(nil), d.Live...), Safe: append([]impl.File(nil), d.Safe...), Ops: append([]impl.DOp(nil), d.Ops...)}
}

func diskMemories(name string, d impl.Disk) []memory {
	return []memory{memoryOf(name+" Live", d.Live), memoryOf(name+" Safe", d.Safe), memoryOf(name+" Ops", d.Ops)}
}

// A diskGuard keeps what an argument was, with spare capacity behind each of its lists.
type diskGuard struct {
	d   impl.Disk
	was impl.Disk
}

func wholeDisk(d impl.Disk) impl.Disk {
	return copiedDisk(impl.Disk{Live: d.Live[:cap(d.Live)], Safe: d.Safe[:cap(d.Safe)], Ops: d.Ops[:cap(d.Ops)]})
}

func guardedDisk(d impl.Disk) diskGuard {
	spare := impl.File{Name: "spare", Data: "capacity"}
	d = impl.Disk{Live: roomy(d.Live, spare), Safe: roomy(d.Safe, spare), Ops: roomy(d.Ops, impl.DOp{Kind: -7, Name: "spare"})}
	return diskGuard{d: d, was: wholeDisk(d)}
}

func (g diskGuard) check(t *testing.T, name string) {
	t.Helper()
	if !sameDisk(wholeDisk(g.d), g.was) {
		t.Errorf("%s: the argument has changed", name)
	}
}

// checkResult also looks for memory that two lists of the argument and the result share.
func (g diskGuard) checkResult(t *testing.T, name string, got impl.Disk, want impl.Disk) {
	t.Helper()
	g.check(t, name)
	if !sameDisk(got, want) {
		t.Errorf("%s: the disk is %s; want %s", name, diskText(got), diskText(want))
	}
	checkApart(t, name, append(diskMemories("the argument's", g.d), diskMemories("the result's", got)...))
	if !realDiskOk(want) {
		t.Errorf("%s: the result is not valid: %s", name, diskText(want))
	}
}

// diskOk is DiskOk, with its result and its argument checked, and so are the functions below.
func diskOk(t *testing.T, d impl.Disk) bool {
	t.Helper()
	want := realDiskOk(d)
	g := guardedDisk(d)
	if got := impl.DiskOk(g.d); got != want {
		t.Errorf("DiskOk of %s = %v", diskText(d), got)
	}
	g.check(t, "DiskOk")
	return want
}

func doOp(t *testing.T, d impl.Disk, op impl.DOp) (impl.Disk, int64) {
	t.Helper()
	want, wantCode := realDo(d, op)
	g := guardedDisk(d)
	got, code := impl.Do(g.d, op)
	if code != wantCode {
		t.Errorf("Do of %s and %s = %d; want %d", diskText(d), diskText(impl.Disk{Ops: []impl.DOp{op}}), code, wantCode)
	}
	g.checkResult(t, "Do", got, want)
	return copiedDisk(want), wantCode
}

func syncDisk(t *testing.T, d impl.Disk) impl.Disk {
	t.Helper()
	want := realSync(d)
	g := guardedDisk(d)
	g.checkResult(t, "Sync", impl.Sync(g.d), want)
	return copiedDisk(want)
}

func crashDisk(t *testing.T, d impl.Disk, keep []int64, torn int64) (impl.Disk, bool) {
	t.Helper()
	want, wantOk := realCrash(d, keep, torn)
	g, k := guardedDisk(d), roomy(keep, -7)
	was := append([]int64(nil), k[:cap(k)]...)
	got, ok := impl.Crash(g.d, k, torn)
	if ok != wantOk {
		t.Errorf("Crash of %s with %v and %d = %v", diskText(d), keep, torn, ok)
	}
	g.checkResult(t, "Crash", got, want)
	if !sameList(k[:cap(k)], was) {
		t.Error("Crash: the list keep has changed")
	}
	return copiedDisk(want), wantOk
}

func readFile(t *testing.T, d impl.Disk, name string) (string, bool) {
	t.Helper()
	want, wantOk := realReadFile(d, name)
	g := guardedDisk(d)
	if got, ok := impl.ReadFile(g.d, name); got != want || ok != wantOk {
		t.Errorf("ReadFile of %s and %q = %q, %v", diskText(d), name, got, ok)
	}
	g.check(t, "ReadFile")
	return want, wantOk
}

func replaceFile(t *testing.T, d impl.Disk, name string, data string) (impl.Disk, int64) {
	t.Helper()
	want, wantCode := realReplace(d, name, data)
	g := guardedDisk(d)
	got, code := impl.Replace(g.d, name, data)
	if code != wantCode {
		t.Errorf("Replace of %s and %q = %d; want %d", diskText(d), name, code, wantCode)
	}
	g.checkResult(t, "Replace", got, want)
	return copiedDisk(want), wantCode
}
