package tests

import (
	"math"
	"math/rand"
	"slices"
	"strconv"
	"strings"
	"testing"

	"loop.example/g00702/impl"
)

func file(name string, data string) impl.File {
	return impl.File{Name: name, Data: data}
}

func appendOp(name string, data string) impl.DOp {
	return impl.DOp{Kind: impl.DkAppend, Name: name, Data: data}
}

func renameOp(name string, to string) impl.DOp {
	return impl.DOp{Kind: impl.DkRename, Name: name, To: to}
}

func removeOp(name string) impl.DOp {
	return impl.DOp{Kind: impl.DkRemove, Name: name}
}

// diskOf has these files and no operations.
func diskOf(files ...impl.File) impl.Disk {
	return copiedDisk(impl.Disk{Live: files, Safe: files})
}

// done performs operations, none of which is rejected.
func done(t *testing.T, d impl.Disk, ops ...impl.DOp) impl.Disk {
	t.Helper()
	for _, op := range ops {
		next, code := doOp(t, d, op)
		if code != impl.DkOk {
			t.Fatalf("%v returns %d", op, code)
		}
		d = next
	}
	return d
}

// manyFiles are in order; each of them has one byte.
func manyFiles(n int) []impl.File {
	out := []impl.File{}
	for i := range n {
		out = append(out, file("f"+strconv.Itoa(100+i), "x"))
	}
	return out
}

// manyOps has performed n operations, each of which appends a byte to the file a.
func manyOps(n int) impl.Disk {
	d := impl.Disk{Live: []impl.File{file("a", strings.Repeat("x", n))}, Safe: []impl.File{file("a", "")}}
	for range n {
		d.Ops = append(d.Ops, appendOp("a", "x"))
	}
	return d
}

func checkFile(t *testing.T, d impl.Disk, name string, want string) {
	t.Helper()
	if got, ok := readFile(t, d, name); !ok || got != want {
		t.Errorf("the file %q is %q, %v; want %q", name, got, ok, want)
	}
}

func checkNames(t *testing.T, d impl.Disk, want ...string) {
	t.Helper()
	got := []string{}
	for _, f := range d.Live {
		got = append(got, f.Name)
	}
	if !sameList(got, want) {
		t.Errorf("the files are %q; want %q", got, want)
	}
}

func checkDo(t *testing.T, name string, d impl.Disk, op impl.DOp, want int64) {
	t.Helper()
	if _, code := doOp(t, d, op); code != want {
		t.Errorf("%s: Do = %d; want %d", name, code, want)
	}
}

func checkReplace(t *testing.T, name string, d impl.Disk, file string, data string, want int64) impl.Disk {
	t.Helper()
	e, code := replaceFile(t, d, file, data)
	if code != want {
		t.Errorf("%s: Replace = %d; want %d", name, code, want)
	}
	if code != impl.DkOk && code != impl.DkDisk && !sameDisk(e, d) {
		t.Errorf("%s: a rejected Replace has changed the disk", name)
	}
	return e
}

func TestDiskConstants(t *testing.T) {
	got := []int{
		impl.MaxFiles, impl.MaxBytes, impl.MaxOps, impl.DkAppend, impl.DkRename, impl.DkRemove,
		impl.DkOk, impl.DkDisk, impl.DkForm, impl.DkNone, impl.DkFull,
	}
	for i, want := range []int{60, 200000, 200, 1, 2, 3, 0, 1, 2, 3, 4} {
		if got[i] != want {
			t.Errorf("constant %d is %d; want %d", i, got[i], want)
		}
	}
}

func TestDiskExamples(t *testing.T) {
	d := done(t, syncDisk(t, done(t, impl.Disk{}, appendOp("log", "ab"))), appendOp("log", "cd"), appendOp("b", "x"))
	checkNames(t, d, "b", "log")
	checkFile(t, d, "log", "abcd")
	after, ok := crashDisk(t, d, []int64{0}, 1)
	if !ok || len(after.Ops) != 0 || !sameList(after.Safe, []impl.File{file("log", "abc")}) {
		t.Errorf("after Crash: %s", diskText(after))
	}
	checkNames(t, after, "log")
	checkFile(t, after, "log", "abc")
	e := checkReplace(t, "the example", syncDisk(t, d), "log", "new", impl.DkOk)
	checkFile(t, e, "log", "new")
	checkNames(t, e, "b", "log")
	if !sameList(e.Ops, []impl.DOp{appendOp("log.new", "new"), renameOp("log.new", "log")}) {
		t.Errorf("Replace has performed %v", e.Ops)
	}
}

type namedDisk struct {
	name string
	d    impl.Disk
}

func long(n int) string {
	return strings.Repeat("n", n)
}

// badLists are no valid lists of files.
func badLists() map[string][]impl.File {
	return map[string][]impl.File{
		"no name":        {file("", "x")},
		"no second name": {file("a", "x"), file("", "x")},
		"101 bytes":      {file(long(101), "x")},
		"last 101 bytes": {file("a", ""), file(long(101), "")},
		"out of order":   {file("b", "x"), file("a", "x")},
		"late disorder":  {file("a", "x"), file("c", "x"), file("b", "x")},
		"one name twice": {file("a", "x"), file("a", "x")},
		"61 files":       manyFiles(61),
		"200001 bytes":   {file("a", zeros(200001))},
		"200001 in two":  {file("a", zeros(200000)), file("b", "x")},
		"1 and 200000":   {file("a", "x"), file("b", zeros(200000))},
		"200001 in many": append(manyFiles(59), file("z", zeros(200001-59))),
		"bytes as runes": {file("\xff", ""), file("\u00e9", "")},
	}
}

// badForms are operations on a disk with the files a and b, of which each would make no difference if its fields were ignored.
func badForms() []impl.DOp {
	out := []impl.DOp{
		{}, {Kind: 0, Name: "a"}, {Kind: 4, Name: "a"}, {Kind: 4, Name: "a", To: "a"}, {Kind: -1, Name: "a"}, {Kind: 5, Name: "a"},
		{Kind: impl.DkAppend}, {Kind: impl.DkAppend, Data: "x"}, {Kind: impl.DkAppend, Name: long(101)},
		{Kind: impl.DkAppend, Name: "a", To: "b"}, {Kind: impl.DkAppend, Name: "a", To: "a", Data: "x"}, {Kind: impl.DkAppend, Name: "a", To: long(101)},
		{Kind: impl.DkRename}, {Kind: impl.DkRename, Name: "a"}, {Kind: impl.DkRename, To: "a"}, {Kind: impl.DkRename, Name: "a", To: long(101)},
		{Kind: impl.DkRename, Name: long(101), To: "a"}, {Kind: impl.DkRename, Name: "a", To: "a", Data: "x"}, {Kind: impl.DkRename, Name: "a", To: "c", Data: "x"},
		{Kind: impl.DkRemove}, {Kind: impl.DkRemove, Name: long(101)}, {Kind: impl.DkRemove, Name: "b", To: "b"}, {Kind: impl.DkRemove, Name: "b", Data: "x"},
	}
	for _, n := range farNumbers() {
		out = append(out, impl.DOp{Kind: n, Name: "a"}, impl.DOp{Kind: n + impl.DkAppend, Name: "a", To: "b"})
	}
	return out
}

// badDisks has one disk for each way of not being valid.
func badDisks() []namedDisk {
	out := []namedDisk{}
	add := func(name string, live []impl.File, safe []impl.File, ops ...impl.DOp) {
		out = append(out, namedDisk{name: name, d: copiedDisk(impl.Disk{Live: live, Safe: safe, Ops: ops})})
	}
	for name, list := range badLists() {
		add(name, list, list)
		add(name+" in Live", list, nil)
		add(name+" in Safe", nil, list)
		if len(list) > 0 {
			ops := []impl.DOp{}
			for _, f := range list {
				ops = append(ops, appendOp(f.Name, f.Data))
			}
			add(name+" by operations", list, nil, ops...)
		}
	}
	two := []impl.File{file("a", "1"), file("b", "2")}
	for _, op := range badForms() {
		r := realFilesOf(two)
		r.perform(op)
		add("a bad form", two, two, op)
		add("the effect of a bad form", r.list(), two, op)
		add("a bad form behind another", r.list(), two, appendOp("a", ""), op)
	}
	add("no such file to rename", two, two, renameOp("c", "a"))
	add("no such file to remove", two, two, removeOp("c"))
	add("no such file any more", two[:1], two, removeOp("b"), removeOp("b"))
	add("a difference", two, two[:1])
	add("another difference", two[1:], two)
	add("other data", []impl.File{file("a", "x")}, []impl.File{file("a", "y")})
	add("an operation that is not in Live", two, two, appendOp("a", "x"))
	add("another order", []impl.File{file("a", "12")}, nil, appendOp("a", "2"), appendOp("a", "1"))
	add("half of it", []impl.File{file("a", "1")}, nil, appendOp("a", "1"), appendOp("b", ""))
	add("the operations backwards", nil, []impl.File{file("a", "1")}, appendOp("a", "1"))
	add("61 files in between", manyFiles(60), manyFiles(60), appendOp("z", ""), removeOp("z"))
	big := []impl.File{file("a", zeros(200000))}
	add("200001 bytes in between", big, big, appendOp("b", "x"), removeOp("b"))
	add("201 operations", manyOps(201).Live, manyOps(201).Safe, manyOps(201).Ops...)
	return out
}

// goodDisks has the limits, and the states between two operations.
func goodDisks() []namedDisk {
	out := []namedDisk{{"the zero value", impl.Disk{}}, {"200 operations", manyOps(200)}, {"199 operations", manyOps(199)}}
	add := func(name string, live []impl.File, safe []impl.File, ops ...impl.DOp) {
		out = append(out, namedDisk{name: name, d: copiedDisk(impl.Disk{Live: live, Safe: safe, Ops: ops})})
	}
	add("1 and 100 bytes", []impl.File{file("a", ""), file(long(100), "x")}, nil, appendOp("a", ""), appendOp(long(100), "x"))
	add("60 files", manyFiles(60), manyFiles(60))
	add("60 files by an operation", manyFiles(60), manyFiles(60)[1:], appendOp("f100", "x"))
	add("200000 bytes", []impl.File{file("a", zeros(200000))}, nil, appendOp("a", zeros(100000)), appendOp("a", zeros(100000)))
	add("200000 bytes in many", append(manyFiles(59), file("z", zeros(200000-59))), append(manyFiles(59), file("z", zeros(200000-59))))
	add("names of any bytes", []impl.File{file("\x00", "\x00"), file("a", "a\n"), file("a\x00", ""), file("\u00e9", ""), file("\xff", "\xff")}, nil,
		appendOp("\xff", "\xff"), appendOp("\u00e9", ""), appendOp("a\x00", ""), appendOp("a", "a\n"), appendOp("\x00", "\x00"))
	add("every kind", []impl.File{file("c", "12")}, []impl.File{file("b", "x")}, appendOp("a", "1"), renameOp("a", "c"), appendOp("c", "2"), removeOp("b"))
	add("there and back", nil, nil, appendOp("a", "1"), removeOp("a"))
	return out
}

func TestDiskOk(t *testing.T) {
	for _, c := range goodDisks() {
		if !diskOk(t, c.d) || !impl.DiskOk(c.d) {
			t.Errorf("%s is rejected", c.name)
		}
	}
	for _, c := range badDisks() {
		if diskOk(t, c.d) || impl.DiskOk(c.d) {
			t.Errorf("%s is accepted", c.name)
		}
	}
}

// A disk that is not valid is noticed before anything else.
func TestInvalidDisks(t *testing.T) {
	for _, c := range badDisks() {
		checkDo(t, c.name, c.d, appendOp("a", "x"), impl.DkDisk)
		checkDo(t, c.name, c.d, impl.DOp{}, impl.DkDisk)
		checkDo(t, c.name, c.d, removeOp("none"), impl.DkDisk)
		checkReplace(t, c.name, c.d, "a", "x", impl.DkDisk)
		checkReplace(t, c.name, c.d, "", "x", impl.DkDisk)
		if d := syncDisk(t, c.d); !sameDisk(d, impl.Disk{}) {
			t.Errorf("%s: Sync makes %s", c.name, diskText(d))
		}
		if d, ok := crashDisk(t, c.d, nil, 0); ok || !sameDisk(d, impl.Disk{}) {
			t.Errorf("%s: Crash makes %s", c.name, diskText(d))
		}
		for _, name := range []string{"a", "b", "", long(101)} {
			if data, ok := readFile(t, c.d, name); ok || data != "" {
				t.Errorf("%s: the file %q is %q", c.name, name, data)
			}
		}
	}
}

// What a disk that is not valid would make with its bad operations is also rejected by Crash.
func TestCrashOfInvalidDisks(t *testing.T) {
	for _, c := range badDisks() {
		if len(c.d.Ops) > 0 {
			if _, ok := crashDisk(t, c.d, []int64{0}, 9); ok {
				t.Errorf("%s: Crash accepts it", c.name)
			}
		}
	}
}

func TestDoForms(t *testing.T) {
	two := diskOf(file("a", "1"), file("b", "2"))
	for _, op := range badForms() {
		checkDo(t, "a bad form", two, op, impl.DkForm)
		checkDo(t, "a bad form without files", impl.Disk{}, op, impl.DkForm)
		checkDo(t, "a bad form behind 200 operations", manyOps(200), op, impl.DkForm)
	}
	for _, name := range []string{"a", long(100), "\x00", "\xff\xfe", " ", "a/b", "log.new"} {
		d := done(t, two, appendOp(name, "x"), renameOp(name, "q"), renameOp("q", name), removeOp(name))
		if len(d.Ops) != 4 {
			t.Errorf("%q: %s", name, diskText(d))
		}
	}
}

func TestDoAppend(t *testing.T) {
	d := done(t, impl.Disk{}, appendOp("b", ""))
	checkNames(t, d, "b")
	checkFile(t, d, "b", "")
	if len(d.Safe) != 0 || len(d.Ops) != 1 {
		t.Errorf("after an append of nothing: %s", diskText(d))
	}
	d = done(t, d, appendOp("b", "12"), appendOp("a", "x"), appendOp("b", ""), appendOp("b", "3\x00"), appendOp("c", "\n"))
	checkNames(t, d, "a", "b", "c")
	checkFile(t, d, "a", "x")
	checkFile(t, d, "b", "123\x00")
	checkFile(t, d, "c", "\n")
	for _, name := range []string{"", "d", "B", "b\x00", "bb", long(101)} {
		if data, ok := readFile(t, d, name); ok || data != "" {
			t.Errorf("there is a file %q: %q", name, data)
		}
	}
}

func TestDoRename(t *testing.T) {
	d := diskOf(file("a", "1"), file("b", "2"), file("c", "3"))
	e := done(t, d, renameOp("b", "z"))
	checkNames(t, e, "a", "c", "z")
	checkFile(t, e, "z", "2")
	e = done(t, e, renameOp("z", "0"))
	checkNames(t, e, "0", "a", "c")
	checkFile(t, e, "0", "2")
	// Onto a file that is there, before and behind it.
	e = done(t, d, renameOp("a", "c"))
	checkNames(t, e, "b", "c")
	checkFile(t, e, "c", "1")
	e = done(t, d, renameOp("c", "a"))
	checkNames(t, e, "a", "b")
	checkFile(t, e, "a", "3")
	// Onto itself: nothing changes, but it is an operation.
	e = done(t, d, renameOp("b", "b"))
	if !sameList(e.Live, d.Live) || len(e.Ops) != 1 {
		t.Errorf("after a rename onto itself: %s", diskText(e))
	}
	checkDo(t, "no such file", d, renameOp("d", "e"), impl.DkNone)
	checkDo(t, "no such file, onto itself", d, renameOp("d", "d"), impl.DkNone)
	checkDo(t, "no such file, onto another", d, renameOp("d", "a"), impl.DkNone)
	checkDo(t, "no file at all", impl.Disk{}, renameOp("a", "a"), impl.DkNone)
}

func TestDoRemove(t *testing.T) {
	d := diskOf(file("a", "1"), file("b", "2"))
	e := done(t, d, removeOp("a"))
	checkNames(t, e, "b")
	checkDo(t, "removed before", e, removeOp("a"), impl.DkNone)
	checkDo(t, "removed before", e, renameOp("a", "c"), impl.DkNone)
	e = done(t, e, removeOp("b"), appendOp("a", "3"))
	checkFile(t, e, "a", "3")
	checkNames(t, e, "a")
	if !sameList(e.Safe, d.Safe) || len(e.Ops) != 3 {
		t.Errorf("the disk is %s", diskText(e))
	}
	checkDo(t, "never there", d, removeOp("c"), impl.DkNone)
}

func TestDoFull(t *testing.T) {
	full := manyOps(200)
	checkDo(t, "the operation 201", full, appendOp("a", "x"), impl.DkFull)
	checkDo(t, "the operation 201", full, renameOp("a", "b"), impl.DkFull)
	checkDo(t, "the operation 201", full, removeOp("a"), impl.DkFull)
	checkDo(t, "no file before the limit", full, removeOp("b"), impl.DkNone)
	checkDo(t, "no file before the limit", full, renameOp("b", "c"), impl.DkNone)
	checkDo(t, "the operation 200", manyOps(199), appendOp("a", "x"), impl.DkOk)
	checkDo(t, "after Sync", syncDisk(t, full), appendOp("a", "x"), impl.DkOk)

	files := diskOf(manyFiles(60)...)
	checkDo(t, "the file 61", files, appendOp("a", ""), impl.DkFull)
	checkDo(t, "the file 61", files, appendOp("z", "x"), impl.DkFull)
	checkDo(t, "a file that is there", files, appendOp("f100", "x"), impl.DkOk)
	checkDo(t, "another name", files, renameOp("f100", "z"), impl.DkOk)
	checkDo(t, "the file 60", diskOf(manyFiles(59)...), appendOp("z", "x"), impl.DkOk)
	checkDo(t, "room for one", done(t, files, removeOp("f130")), appendOp("z", "x"), impl.DkOk)
	checkDo(t, "room for one", done(t, files, renameOp("f130", "f131")), appendOp("z", "x"), impl.DkOk)

	bytes := diskOf(file("a", zeros(199999)), file("b", ""))
	checkDo(t, "200000 bytes", bytes, appendOp("b", "x"), impl.DkOk)
	checkDo(t, "200000 bytes", bytes, appendOp("c", "x"), impl.DkOk)
	checkDo(t, "200001 bytes", bytes, appendOp("b", "xx"), impl.DkFull)
	checkDo(t, "200001 bytes", bytes, appendOp("a", "xx"), impl.DkFull)
	checkDo(t, "200001 bytes", bytes, appendOp("c", "xx"), impl.DkFull)
	checkDo(t, "200001 bytes at once", impl.Disk{}, appendOp("a", zeros(200001)), impl.DkFull)
	checkDo(t, "200000 bytes at once", impl.Disk{}, appendOp("a", zeros(200000)), impl.DkOk)
	checkDo(t, "nothing more", done(t, bytes, appendOp("b", "x")), appendOp("c", ""), impl.DkOk)
	checkDo(t, "room again", done(t, bytes, renameOp("b", "a")), appendOp("c", zeros(200000)), impl.DkOk)
}

func TestSync(t *testing.T) {
	for _, c := range goodDisks() {
		d := syncDisk(t, c.d)
		if !sameDisk(d, impl.Disk{Live: c.d.Live, Safe: c.d.Live}) || !sameDisk(syncDisk(t, d), d) {
			t.Errorf("%s: after Sync: %s", c.name, diskText(d))
		}
	}
}

// The first half of promise 11 and the second one, for disks with every number of operations.
func TestPromiseOfDisks(t *testing.T) {
	check := func(name string, d impl.Disk) {
		all := []int64{}
		most := 0
		for i, op := range d.Ops {
			all = append(all, int64(i))
			most = max(most, len(op.Data))
		}
		for _, torn := range []int64{int64(most), int64(most) + 1, math.MaxInt64} {
			if e, ok := crashDisk(t, d, all, torn); !ok || !sameDisk(e, diskOf(d.Live...)) {
				t.Errorf("%s: with all operations: %s", name, diskText(e))
			}
		}
		for _, torn := range []int64{0, 1, math.MaxInt64} {
			if e, ok := crashDisk(t, d, nil, torn); !ok || !sameDisk(e, diskOf(d.Safe...)) {
				t.Errorf("%s: without operations: %s", name, diskText(e))
			}
		}
	}
	for _, c := range goodDisks() {
		check(c.name, c.d)
	}
	for round := range int64(30) {
		source := rand.New(rand.NewSource(round))
		d := impl.Disk{}
		for range 30 {
			d = randomWork(t, source, d)
			check("random work", d)
		}
	}
}

// randomWork performs any operation, some of which are rejected, and sometimes Sync.
func randomWork(t *testing.T, source *rand.Rand, d impl.Disk) impl.Disk {
	t.Helper()
	name := func() string { return "abcd"[source.Intn(4):][:1] }
	switch n := source.Intn(16); {
	case n < 8:
		d, _ = doOp(t, d, appendOp(name(), text(source.Intn(6), source.Intn(100))))
	case n < 11:
		d, _ = doOp(t, d, renameOp(name(), name()))
	case n < 13:
		d, _ = doOp(t, d, removeOp(name()))
	case n < 14:
		d, _ = replaceFile(t, d, name(), text(source.Intn(6), source.Intn(100)))
	case n < 15:
		d, _ = doOp(t, d, impl.DOp{Kind: int64(source.Intn(5)), Name: name(), To: name(), Data: "x"[:source.Intn(2)]})
	default:
		d = syncDisk(t, d)
	}
	return d
}

// everyKeep calls do with each strictly increasing list of indexes below n.
func everyKeep(n int, do func(keep []int64)) {
	for set := range 1 << n {
		keep := []int64{}
		for i := range n {
			if set>>i&1 == 1 {
				keep = append(keep, int64(i))
			}
		}
		do(keep)
	}
}

// Every choice of kept operations, torn at every byte.
func TestEveryCrash(t *testing.T) {
	for _, ops := range [][]impl.DOp{
		{appendOp("a", "34"), appendOp("b", "xyz"), renameOp("b", "a"), appendOp("a", "5"), removeOp("a"), appendOp("a", "")},
		{renameOp("a", "c"), renameOp("c", "d"), appendOp("c", "xy"), renameOp("d", "c"), appendOp("a", "12"), renameOp("a", "a")},
		{removeOp("a"), appendOp("a", "new"), removeOp("b"), renameOp("a", "b"), appendOp("a", "z"), removeOp("b"), renameOp("a", "b")},
		{appendOp("z", ""), appendOp("z", "1"), renameOp("z", "y"), appendOp("z", "22"), removeOp("y"), appendOp("y", "333")},
	} {
		d := done(t, diskOf(file("a", "12"), file("b", "")), ops...)
		everyKeep(len(ops), func(keep []int64) {
			for torn := range int64(5) {
				if e, ok := crashDisk(t, d, keep, torn); !ok || len(e.Ops) != 0 {
					t.Errorf("%v, %d: %s", keep, torn, diskText(e))
				}
			}
		})
	}
}

func TestTornAppend(t *testing.T) {
	d := done(t, diskOf(file("a", "12")), appendOp("a", "345"), appendOp("b", "xyz"), renameOp("b", "c"), removeOp("a"))
	for _, c := range []struct {
		keep []int64
		torn int64
		want []impl.File
	}{
		{[]int64{0}, 0, []impl.File{file("a", "12")}},
		{[]int64{0}, 2, []impl.File{file("a", "1234")}},
		{[]int64{0}, 3, []impl.File{file("a", "12345")}},
		{[]int64{0}, 4, []impl.File{file("a", "12345")}},
		{[]int64{0}, math.MaxInt64, []impl.File{file("a", "12345")}},
		// Only the last one is torn.
		{[]int64{0, 1}, 1, []impl.File{file("a", "12345"), file("b", "x")}},
		// The file is made before its data are torn off.
		{[]int64{1}, 0, []impl.File{file("a", "12"), file("b", "")}},
		// A last operation that is no append leaves the others whole.
		{[]int64{0, 1, 2}, 0, []impl.File{file("a", "12345"), file("c", "xyz")}},
		{[]int64{0, 1, 3}, 1, []impl.File{file("b", "xyz")}},
		// Operations without their file do nothing; they are the last ones all the same.
		{[]int64{0, 2}, 1, []impl.File{file("a", "12345")}},
		{[]int64{2}, 0, []impl.File{file("a", "12")}},
		{[]int64{2, 3}, 0, nil},
		{nil, 0, []impl.File{file("a", "12")}},
	} {
		if e, ok := crashDisk(t, d, c.keep, c.torn); !ok || !sameDisk(e, diskOf(c.want...)) {
			t.Errorf("%v, %d: %s", c.keep, c.torn, diskText(e))
		}
	}
}

func TestCrashRejects(t *testing.T) {
	d := done(t, diskOf(file("a", "12")), appendOp("a", "3"), appendOp("b", "x"), appendOp("a", "4"))
	for _, keep := range [][]int64{
		{1, 0}, {0, 2, 1}, {2, 1, 0}, {0, 0}, {1, 1}, {0, 1, 1}, {0, 0, 1}, {-1}, {-1, 0}, {0, -1}, {3}, {0, 3}, {0, 1, 2, 3}, {4},
		{math.MinInt64}, {math.MaxInt64}, {0, math.MaxInt64}, {1 << 32}, {0, 1<<32 + 1},
	} {
		if e, ok := crashDisk(t, d, keep, 9); ok || !sameDisk(e, impl.Disk{}) {
			t.Errorf("Crash with %v: %s", keep, diskText(e))
		}
	}
	for _, torn := range []int64{-1, -2, math.MinInt64} {
		for _, keep := range [][]int64{nil, {0}, {0, 1, 2}} {
			if e, ok := crashDisk(t, d, keep, torn); ok || !sameDisk(e, impl.Disk{}) {
				t.Errorf("Crash with %v and %d: %s", keep, torn, diskText(e))
			}
		}
	}
	if _, ok := crashDisk(t, impl.Disk{}, []int64{0}, 0); ok {
		t.Error("an operation is kept that was not performed")
	}
	if _, ok := crashDisk(t, syncDisk(t, d), []int64{0}, 0); ok {
		t.Error("an operation is kept that was synced")
	}
	if e, ok := crashDisk(t, impl.Disk{}, nil, 0); !ok || !sameDisk(e, impl.Disk{}) {
		t.Error("Crash rejects the zero value")
	}
}

// Without a removal that made room, the files may be too many; in between they may be.
func TestCrashTooLarge(t *testing.T) {
	check := func(name string, d impl.Disk, keep []int64, torn int64, want bool) {
		t.Helper()
		if e, ok := crashDisk(t, d, keep, torn); ok != want || !ok && !sameDisk(e, impl.Disk{}) {
			t.Errorf("%s: Crash = %v", name, ok)
		}
	}
	files := done(t, diskOf(manyFiles(60)...), removeOp("f100"), appendOp("z", "x"), renameOp("z", "f101"), appendOp("y", ""))
	check("61 files", files, []int64{1}, 9, false)
	check("61 files, torn", files, []int64{1}, 0, false)
	check("61 files in between", files, []int64{1, 2}, 9, true)
	check("61 files again", files, []int64{1, 2, 3}, 9, false)
	check("60 files", files, []int64{0, 1}, 9, true)
	check("no rename", files, []int64{0, 1, 3}, 9, false)
	bytes := done(t, diskOf(file("a", zeros(199999))), removeOp("a"), appendOp("b", "xy"), renameOp("b", "a"))
	check("200001 bytes", bytes, []int64{1}, 2, false)
	check("200000 bytes", bytes, []int64{1}, 1, true)
	check("200001 bytes in between", bytes, []int64{1, 2}, 0, true)
	check("all of it", bytes, []int64{0, 1, 2}, 0, true)
	// Many times the room in between.
	big := impl.Disk{}
	keep := []int64{}
	for i := range int64(5) {
		big = done(t, big, appendOp("a", zeros(200000)), removeOp("a"))
		keep = append(keep, 2*i)
	}
	check("1000000 bytes", big, keep, math.MaxInt64, false)
	check("1000000 bytes in between", big, append(keep, 9), 0, true)
	check("the last one torn off", big, []int64{0, 2}, 0, true)
}

func TestReplace(t *testing.T) {
	d := diskOf(file("a", "1"), file("log", "old"))
	e := checkReplace(t, "a file", d, "log", "new", impl.DkOk)
	checkNames(t, e, "a", "log")
	checkFile(t, e, "log", "new")
	e = checkReplace(t, "no file yet", d, "b", "", impl.DkOk)
	checkNames(t, e, "a", "b", "log")
	checkFile(t, e, "b", "")
	// What was left over is removed first.
	left := diskOf(file("log", "old"), file("log.new", "left"))
	e = checkReplace(t, "a left over file", left, "log", "new", impl.DkOk)
	checkNames(t, e, "log")
	checkFile(t, e, "log", "new")
	if !sameList(e.Ops, []impl.DOp{removeOp("log.new"), appendOp("log.new", "new"), renameOp("log.new", "log")}) {
		t.Errorf("Replace has performed %v", e.Ops)
	}
	// A file whose name ends like that of a temporary one.
	e = checkReplace(t, "log.new itself", left, "log.new", "x", impl.DkOk)
	checkNames(t, e, "log", "log.new")
	checkFile(t, e, "log.new", "x")
	e = checkReplace(t, "behind other operations", done(t, d, appendOp("log.new", "x"), appendOp("c", "y")), "log", "z", impl.DkOk)
	checkNames(t, e, "a", "c", "log")
	if len(e.Ops) != 5 {
		t.Errorf("the operations are %v", e.Ops)
	}
}

func TestReplaceNames(t *testing.T) {
	d := diskOf(file(".new", "2"), file("a", "1"))
	for _, n := range []int{1, 2, 95, 96} {
		e := checkReplace(t, "a short name", d, long(n), "x", impl.DkOk)
		checkFile(t, e, long(n), "x")
	}
	for _, n := range []int{97, 98, 100, 101, 200} {
		checkReplace(t, "a long name", d, long(n), "x", impl.DkForm)
		checkReplace(t, "a long name of a file", diskOf(file(long(min(n, 100)), "x")), long(n), "x", impl.DkForm)
	}
	// The temporary file of the empty name can be written, but not renamed.
	checkReplace(t, "no name", d, "", "x", impl.DkForm)
	checkReplace(t, "no name", impl.Disk{}, "", "", impl.DkForm)
	checkReplace(t, "no name, and no room", manyOps(200), "", "", impl.DkFull)
	// The form is that of the first operation that is rejected.
	checkReplace(t, "a long name, and no room", manyOps(200), long(97), "", impl.DkForm)
}

// withLeft has performed n operations, and has a temporary file.
func withLeft(n int) impl.Disk {
	d := manyOps(n)
	d.Live = append(d.Live, file("a.new", "left"))
	d.Safe = append(d.Safe, file("a.new", "left"))
	return d
}

func TestReplaceRejected(t *testing.T) {
	for n, want := range map[int]int64{196: impl.DkOk, 197: impl.DkOk, 198: impl.DkOk, 199: impl.DkFull, 200: impl.DkFull} {
		checkReplace(t, "two operations", manyOps(n), "a", "x", want)
	}
	for n, want := range map[int]int64{196: impl.DkOk, 197: impl.DkOk, 198: impl.DkFull, 199: impl.DkFull, 200: impl.DkFull} {
		checkReplace(t, "three operations", withLeft(n), "a", "x", want)
	}
	files := manyFiles(59)
	checkReplace(t, "60 files in between", diskOf(files...), "f100", "x", impl.DkOk)
	checkReplace(t, "60 files", diskOf(files...), "a", "x", impl.DkOk)
	checkReplace(t, "61 files in between", diskOf(manyFiles(60)...), "f100", "x", impl.DkFull)
	left := append([]impl.File{file("f", "")}, slices.Insert(manyFiles(58), 1, file("f100.new", ""))...)
	checkReplace(t, "60 files with another temporary one", diskOf(left...), "f", "x", impl.DkFull)
	checkReplace(t, "60 files with the temporary one", diskOf(left...), "f100", "x", impl.DkOk)
	sorted := append([]impl.File{file("f", ""), file("f.new", "")}, manyFiles(58)...)
	checkReplace(t, "60 files with the temporary one", diskOf(sorted...), "f", "x", impl.DkOk)
	d := diskOf(file("a", zeros(100000)))
	checkReplace(t, "200000 bytes in between", d, "a", zeros(100000), impl.DkOk)
	checkReplace(t, "200001 bytes in between", d, "a", zeros(100001), impl.DkFull)
	d = diskOf(file("a", zeros(100000)), file("a.new", zeros(100000)))
	checkReplace(t, "200000 bytes once more", d, "a", zeros(100000), impl.DkOk)
	checkReplace(t, "200001 bytes once more", d, "a", zeros(100001), impl.DkFull)
}

// The old or the new contents, whichever operations are kept.
func TestReplaceIsWhole(t *testing.T) {
	d, _ := replaceFile(t, diskOf(file("log", "old")), "log", "new")
	everyKeep(len(d.Ops), func(keep []int64) {
		for torn := range int64(5) {
			e, _ := crashDisk(t, d, keep, torn)
			want := "old"
			if len(keep) == 2 {
				want = "new"
			}
			checkFile(t, e, "log", want)
		}
	})
}

// Calls do not hinder each other, and what is done to a result stays there.
func TestDiskKeepsNothing(t *testing.T) {
	d := done(t, diskOf(file("a", "1"), file("b", "2")), appendOp("a", "x"), removeOp("b"))
	results := func() []impl.Disk {
		ok, _ := impl.Do(d, appendOp("c", "y"))
		form, _ := impl.Do(d, impl.DOp{})
		none, _ := impl.Do(d, removeOp("c"))
		crashed, _ := impl.Crash(d, []int64{0}, 1)
		replaced, _ := impl.Replace(d, "a", "z")
		rejected, _ := impl.Replace(d, "", "z")
		return []impl.Disk{ok, form, none, impl.Sync(d), crashed, replaced, rejected}
	}
	want := []impl.Disk{}
	for _, e := range results() {
		want = append(want, copiedDisk(e))
		clear(e.Live)
		clear(e.Safe)
		clear(e.Ops)
	}
	for i, e := range results() {
		if !sameDisk(e, want[i]) {
			t.Errorf("the result %d is another one: %s; want %s", i, diskText(e), diskText(want[i]))
		}
	}
}
