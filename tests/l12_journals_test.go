package tests

import (
	"math"
	"strconv"
	"strings"
	"testing"

	"loop.example/g00702/impl"
)

// logOf is a log with these commands.
func logOf(texts ...string) string {
	out := ""
	for i, s := range texts {
		out += realFrameOf(strconv.Itoa(i) + " " + s)
	}
	return out
}

// manyTakes are the texts of n commands.
func manyTakes(n int) []string {
	out := []string{}
	for i := range n {
		out = append(out, "take "+strconv.Itoa(i))
	}
	return out
}

// stored has this log, and no operations.
func stored(log string) impl.Disk {
	return diskOf(file("log", log))
}

func newAct() impl.Act {
	return impl.Act{Kind: impl.AcNew, Power: -1}
}

func addAct(n int64) impl.Act {
	return impl.Act{Kind: impl.AcAdd, C: impl.Cmd{Kind: impl.CmTake, A: n}, Power: -1}
}

func syncedAct(n int64) impl.Act {
	a := addAct(n)
	a.Sync = true
	return a
}

func openAct() impl.Act {
	return impl.Act{Kind: impl.AcOpen, Power: -1}
}

func crashAct(torn int64, keep ...int64) impl.Act {
	return impl.Act{Kind: impl.AcCrash, Keep: keep, Torn: torn, Power: -1}
}

func powered(a impl.Act, power int64) impl.Act {
	a.Power = power
	return a
}

func checkAct(t *testing.T, name string, d impl.Disk, a impl.Act, want int64) impl.Disk {
	t.Helper()
	e, code := storeDo(t, d, a)
	if code != want {
		t.Errorf("%s: StoreDo = %d; want %d", name, code, want)
	}
	return e
}

// checkRefused checks that the disk is returned as it was.
func checkRefused(t *testing.T, name string, d impl.Disk, a impl.Act, want int64) {
	t.Helper()
	if e := checkAct(t, name, d, a, want); !sameDisk(e, d) {
		t.Errorf("%s: a rejected action has changed the disk: %s", name, diskText(e))
	}
}

func checkView(t *testing.T, name string, d impl.Disk, want ...string) {
	t.Helper()
	list, code := storeView(t, d)
	if code != impl.StOk || !sameList(texts(list), want) {
		t.Errorf("%s: StoreView = %q, %d; want %q", name, texts(list), code, want)
	}
}

func checkOps(t *testing.T, name string, d impl.Disk, want ...impl.DOp) {
	t.Helper()
	if !sameList(d.Ops, want) {
		t.Errorf("%s: the disk is %s; want the operations %v", name, diskText(d), want)
	}
}

// threeTakes is the disk of the examples: nothing but the empty log is synced.
func threeTakes(t *testing.T) impl.Disk {
	t.Helper()
	d, codes := storePlay(t, impl.Disk{}, []impl.Act{newAct(), addAct(0), addAct(1), addAct(2)})
	if !sameList(codes, []int64{impl.StOk, impl.StOk, impl.StOk, impl.StOk}) {
		t.Fatalf("the codes are %v", codes)
	}
	return d
}

func TestStoreConstants(t *testing.T) {
	got := []int{
		impl.StOk, impl.StDisk, impl.StNone, impl.StForm, impl.StFull, impl.StPower, impl.StTorn,
		impl.AcNew, impl.AcAdd, impl.AcOpen, impl.AcCrash,
	}
	for i, want := range []int{0, 1, 2, 3, 4, 5, 6, 1, 2, 3, 4} {
		if got[i] != want {
			t.Errorf("constant %d is %d; want %d", i, got[i], want)
		}
	}
}

func TestStoreExamples(t *testing.T) {
	d := threeTakes(t)
	checkView(t, "the example", d, "take 0", "take 1", "take 2")
	checkView(t, "two are kept", checkAct(t, "two are kept", d, crashAct(99, 0, 1), impl.StOk), "take 0", "take 1")
	checkView(t, "the first one is lost", checkAct(t, "the first one is lost", d, crashAct(99, 1), impl.StOk))
	checkView(t, "the last one is torn", checkAct(t, "the last one is torn", d, crashAct(9, 0, 1, 2), impl.StOk), "take 0", "take 1")
	checkRefused(t, "a second log", d, newAct(), impl.StForm)
	checkRefused(t, "no log", impl.Disk{}, openAct(), impl.StNone)
	if _, codes := storePlay(t, d, []impl.Act{openAct(), {Kind: 9}}); !sameList(codes, []int64{impl.StOk, impl.StForm}) {
		t.Errorf("the codes are %v", codes)
	}
	if _, _, code := recovered(t, impl.Disk{}); code != impl.StNone {
		t.Errorf("Recovered of the zero Disk = %d", code)
	}
}

// A log whose first frames count; the rest does not.
type countedLog struct {
	name   string
	counts string
	rest   string
	want   []string
}

// badFrames do not count as the frame behind those of two commands.
func badFrames() map[string]string {
	out := map[string]string{}
	for _, data := range []string{
		"1 take 3", "3 take 3", "0 take 3", "02 take 3", "2", "2 ", " 2 take 3", "2  take 3", "2take 3", "2\ttake 3", "2\x00take 3", "take 3", "", " ", " take 3",
		"+2 take 3", "-2 take 3", "2.0 take 3", "0x2 take 3", "258 take 3", "18446744073709551618 take 3", "\u0662 take 3", "\x02 take 3",
		"2 take 1000", "2 take 03", "2 take", "2 take ", "2 take 3 ", "2 take  3", "2 take 3 4", "2 take 3\n", "2 take -1", "2 Take 3", "2 2 take 3",
		"2 device 2", "2 send 0 0 x", "2 send 5 0 x", "2 send 1 2 x", "2 send 1 0", "2 send 1 0 ", "2 send 1 0 a b", "2 send 1 0 " + strings.Repeat("x", 61), "2 bend 0", "2 none 0", "2 take 18446744073709551616",
	} {
		out[data] = realFrameOf(data)
	}
	good := realFrameOf("2 take 3")
	for cut := 1; cut < len(good); cut++ {
		out["cut to "+strconv.Itoa(cut)] = good[:cut]
	}
	for i := range good {
		out["bent at "+strconv.Itoa(i)] = flipped(good, i, i%8)
	}
	out["a byte"] = "x"
	out["a byte before it"] = "x" + good
	out["a frame of too many bytes"] = longFrame(100001)
	return out
}

func countedLogs() []countedLog {
	two := []string{"device 1", "send 1 0 hi"}
	out := []countedLog{
		{name: "nothing"},
		{name: "one", counts: logOf("take 7"), want: []string{"take 7"}},
		{name: "two", counts: logOf(two...), want: two},
		{name: "every kind", counts: logOf("device 0", "send 4 1 ~!", "take 999", "drop 0", "copy 10", "bend 0 999"), want: []string{"device 0", "send 4 1 ~!", "take 999", "drop 0", "copy 10", "bend 0 999"}},
		{name: "two digits", counts: logOf(manyTakes(12)...), want: manyTakes(12)},
		{name: "59 frames", counts: logOf(manyTakes(59)...), want: manyTakes(59)},
		{name: "60 frames", counts: logOf(manyTakes(60)...), want: manyTakes(60)},
		{name: "60 frames and a byte", counts: logOf(manyTakes(60)...), rest: "\x00", want: manyTakes(60)},
		{name: "61 frames", counts: logOf(manyTakes(60)...), rest: realFrameOf("60 take 60"), want: manyTakes(60)},
		{name: "62 frames", counts: logOf(manyTakes(60)...), rest: realFrameOf("60 take 60") + realFrameOf("61 take 61"), want: manyTakes(60)},
		{name: "60 twice", counts: logOf(manyTakes(60)...), rest: logOf(manyTakes(60)...), want: manyTakes(60)},
		{name: "no first frame", rest: realFrameOf("1 take 1")},
		{name: "a first frame with a leading zero", rest: realFrameOf("00 take 1") + realFrameOf("1 take 1")},
		{name: "a first frame without a number", rest: realFrameOf("take 1") + realFrameOf("1 take 1")},
		{name: "a negative zero", rest: realFrameOf("-0 take 1")},
	}
	for _, data := range []string{"0", "0 ", "0 device 2", "0 take 01", "0 send 1 0", "0 take 1 "} {
		out = append(out, countedLog{name: "no first command: " + data, rest: realFrameOf(data) + realFrameOf("1 take 1")})
	}
	for name, rest := range badFrames() {
		out = append(out, countedLog{name: name, counts: logOf(two...), rest: rest, want: two})
		// What is behind it would count if it were not there, or if it did.
		for _, more := range []string{"2 take 4", "3 take 4"} {
			out = append(out, countedLog{name: name + " and more", counts: logOf(two...), rest: rest + realFrameOf(more), want: two})
		}
	}
	return out
}

func TestStoreView(t *testing.T) {
	for _, c := range countedLogs() {
		d := stored(c.counts + c.rest)
		checkView(t, c.name, d, c.want...)
		switch {
		case c.rest != "":
			checkRefused(t, c.name, d, addAct(1), impl.StTorn)
		case len(c.want) == impl.MaxCmds:
			checkRefused(t, c.name, d, addAct(1), impl.StFull)
		default:
			e := checkAct(t, c.name, d, addAct(1), impl.StOk)
			checkView(t, c.name, e, append(append([]string{}, c.want...), "take 1")...)
		}
		e := checkAct(t, c.name, d, openAct(), impl.StOk)
		checkFile(t, e, "log", c.counts)
		if c.rest == "" && !sameDisk(e, d) {
			t.Errorf("%s: AcOpen has changed a disk with a complete log", c.name)
		}
		f := checkAct(t, c.name, d, crashAct(0), impl.StOk)
		if !sameDisk(f, e) {
			t.Errorf("%s: AcCrash makes %s", c.name, diskText(f))
		}
	}
}

// Only the files that are read count.
func TestViewOfLive(t *testing.T) {
	d := done(t, stored(logOf("take 1")), appendOp("log", realFrameOf("1 take 2")), appendOp("log.new", logOf("take 3")))
	checkView(t, "an operation", d, "take 1", "take 2")
	checkView(t, "a rename", done(t, d, renameOp("log.new", "log")), "take 3")
	for _, name := range []string{"log.new", "Log", "log\x00", "lo", "logs", " log"} {
		if list, code := storeView(t, diskOf(file(name, logOf("take 1")))); code != impl.StNone || len(list) != 0 {
			t.Errorf("the log is read from %q: %v, %d", name, list, code)
		}
	}
	if _, code := storeView(t, done(t, d, removeOp("log"))); code != impl.StNone {
		t.Errorf("StoreView of a removed log = %d", code)
	}
}

func TestStoreOfInvalidDisks(t *testing.T) {
	list := badDisks()
	for _, c := range badDisks() {
		// The same with a log, which makes no difference.
		d := copiedDisk(c.d)
		d.Safe = append([]impl.File{file("log", "")}, d.Safe...)
		d.Live = append([]impl.File{file("log", "")}, d.Live...)
		list = append(list, namedDisk{name: c.name + " with a log", d: d})
	}
	for _, c := range list {
		if realDiskOk(c.d) {
			continue
		}
		for _, a := range []impl.Act{newAct(), addAct(1), openAct(), crashAct(0), {Kind: 9}, {}, powered(newAct(), 0), {Kind: impl.AcAdd}, crashAct(-1, 7)} {
			if e := checkAct(t, c.name, c.d, a, impl.StDisk); !sameDisk(e, impl.Disk{}) {
				t.Errorf("%s: StoreDo returns %s", c.name, diskText(e))
			}
		}
		if cmds, code := storeView(t, c.d); code != impl.StDisk || len(cmds) != 0 {
			t.Errorf("%s: StoreView = %v, %d", c.name, cmds, code)
		}
		for _, acts := range [][]impl.Act{nil, {newAct()}, {crashAct(0), newAct()}} {
			if e, codes := storePlay(t, c.d, acts); len(codes) != 0 || !sameDisk(e, impl.Disk{}) {
				t.Errorf("%s: StorePlay = %s, %v", c.name, diskText(e), codes)
			}
		}
		if letters, answers, code := recovered(t, c.d); code != impl.StDisk || len(letters) != 0 || len(answers) != 0 {
			t.Errorf("%s: Recovered = %v, %v, %d", c.name, letters, answers, code)
		}
	}
}

func TestActKinds(t *testing.T) {
	for _, kind := range append([]int64{0, 5, 6, 9, -1, -4, 256 + impl.AcNew}, farNumbers()...) {
		for _, d := range []impl.Disk{{}, stored(""), stored("x"), threeTakes(t), manyOps(200)} {
			for _, power := range []int64{-1, 0, 9} {
				checkRefused(t, "another kind", d, impl.Act{Kind: kind, Power: power, C: addAct(1).C}, impl.StForm)
			}
		}
	}
}

func TestWithoutLog(t *testing.T) {
	unsynced := checkAct(t, "no Sync", impl.Disk{}, powered(newAct(), 1), impl.StPower)
	for _, d := range []impl.Disk{{}, diskOf(file("log.new", logOf("take 1"))), manyOps(200), done(t, stored("x"), removeOp("log"))} {
		for _, power := range []int64{-1, 0, 9} {
			checkRefused(t, "AcAdd", d, powered(addAct(1), power), impl.StNone)
			checkRefused(t, "AcAdd with Sync", d, powered(syncedAct(1), power), impl.StNone)
			checkRefused(t, "AcAdd of no command", d, impl.Act{Kind: impl.AcAdd, Power: power}, impl.StNone)
			checkRefused(t, "AcOpen", d, powered(openAct(), power), impl.StNone)
			// The log is missed after Crash, which comes first.
			checkRefused(t, "AcCrash that fails", d, powered(crashAct(-1), power), impl.StForm)
			checkRefused(t, "AcCrash that fails", d, powered(crashAct(0, 999), power), impl.StForm)
		}
	}
	if e := checkAct(t, "AcCrash without the log", unsynced, crashAct(9), impl.StNone); !sameDisk(e, impl.Disk{}) {
		t.Errorf("after AcCrash: %s", diskText(e))
	}
	if e := checkAct(t, "AcCrash with the log", unsynced, crashAct(9, 0), impl.StOk); !sameDisk(e, stored("")) {
		t.Errorf("after AcCrash: %s", diskText(e))
	}
	// The disk is that after Crash, although there is no log.
	d := done(t, stored(logOf("take 1")), appendOp("a", "xyz"), removeOp("log"))
	if e := checkAct(t, "AcCrash that loses the log", d, crashAct(2, 0, 1), impl.StNone); !sameDisk(e, diskOf(file("a", "xyz"))) {
		t.Errorf("after AcCrash: %s", diskText(e))
	}
	e := checkAct(t, "AcCrash that brings the log back", d, crashAct(2, 0), impl.StOk)
	checkView(t, "a log that is back", e, "take 1")
	checkFile(t, e, "a", "xy")
}

func TestAcNew(t *testing.T) {
	d := checkAct(t, "AcNew", impl.Disk{}, newAct(), impl.StOk)
	if !sameDisk(d, stored("")) {
		t.Errorf("after AcNew: %s", diskText(d))
	}
	checkView(t, "AcNew", d)
	for _, power := range []int64{2, 3, math.MaxInt64, -1, -2, math.MinInt64} {
		checkAct(t, "enough power", impl.Disk{}, powered(newAct(), power), impl.StOk)
	}
	checkRefused(t, "no power", impl.Disk{}, powered(newAct(), 0), impl.StPower)
	checkOps(t, "one step", checkAct(t, "one step", impl.Disk{}, powered(newAct(), 1), impl.StPower), appendOp("log", ""))
	// Sync is for all files.
	d = checkAct(t, "AcNew on another disk", done(t, diskOf(file("a", "1")), appendOp("a", "2"), appendOp("log.new", "x")), newAct(), impl.StOk)
	if !sameDisk(d, diskOf(file("a", "12"), file("log", ""), file("log.new", "x"))) {
		t.Errorf("after AcNew: %s", diskText(d))
	}
	for _, log := range []string{"", logOf("take 1"), "x"} {
		for _, power := range []int64{-1, 0, 1, 2} {
			checkRefused(t, "a second log", stored(log), powered(newAct(), power), impl.StForm)
		}
	}
	checkAct(t, "a log in Safe alone", done(t, stored("x"), renameOp("log", "a")), newAct(), impl.StOk)
}

func TestAcNewFull(t *testing.T) {
	for _, d := range []impl.Disk{diskOf(manyFiles(60)...), manyOps(200)} {
		for _, power := range []int64{-1, 1, 2} {
			checkRefused(t, "no room", d, powered(newAct(), power), impl.StFull)
		}
		// Without power, nothing is tried.
		checkRefused(t, "no room and no power", d, powered(newAct(), 0), impl.StPower)
	}
	for _, d := range []impl.Disk{diskOf(manyFiles(59)...), manyOps(199), diskOf(file("a", zeros(200000)))} {
		checkAct(t, "room for one", d, newAct(), impl.StOk)
	}
}

func TestAcAdd(t *testing.T) {
	d := checkAct(t, "AcAdd", stored(""), addAct(5), impl.StOk)
	checkOps(t, "AcAdd", d, appendOp("log", realFrameOf("0 take 5")))
	d = checkAct(t, "AcAdd", d, impl.Act{Kind: impl.AcAdd, C: impl.Cmd{Kind: impl.CmSend, A: 4, B: 1, Text: "~!"}, Power: -1}, impl.StOk)
	checkOps(t, "AcAdd again", d, appendOp("log", realFrameOf("0 take 5")), appendOp("log", realFrameOf("1 send 4 1 ~!")))
	checkView(t, "two commands", d, "take 5", "send 4 1 ~!")
	e := checkAct(t, "AcAdd with Sync", d, syncedAct(6), impl.StOk)
	if !sameDisk(e, stored(logOf("take 5", "send 4 1 ~!", "take 6"))) {
		t.Errorf("after AcAdd with Sync: %s", diskText(e))
	}
	for _, power := range []int64{1, 2, math.MaxInt64, -1, math.MinInt64} {
		checkAct(t, "enough power", d, powered(addAct(6), power), impl.StOk)
	}
	for _, power := range []int64{2, 3, math.MaxInt64, -1, math.MinInt64} {
		checkAct(t, "enough power", d, powered(syncedAct(6), power), impl.StOk)
	}
	checkRefused(t, "no power", d, powered(addAct(6), 0), impl.StPower)
	checkRefused(t, "no power", d, powered(syncedAct(6), 0), impl.StPower)
	e = checkAct(t, "no power for Sync", d, powered(syncedAct(6), 1), impl.StPower)
	checkOps(t, "no power for Sync", e, appendOp("log", realFrameOf("0 take 5")), appendOp("log", realFrameOf("1 send 4 1 ~!")), appendOp("log", realFrameOf("2 take 6")))
}

func badCmds() []impl.Cmd {
	return []impl.Cmd{
		{}, {Kind: 7, A: 1}, {Kind: -1}, {Kind: impl.CmDevice, A: 2}, {Kind: impl.CmDevice, B: 1}, {Kind: impl.CmTake, A: -1}, {Kind: impl.CmTake, A: 1000},
		{Kind: impl.CmTake, B: 1}, {Kind: impl.CmTake, Text: "x"}, {Kind: impl.CmSend, A: 1}, {Kind: impl.CmSend, A: 1, Text: "a b"}, {Kind: impl.CmBend, B: 1000},
	}
}

func TestAcAddCodes(t *testing.T) {
	full, torn := stored(logOf(manyTakes(60)...)), stored(logOf(manyTakes(61)...))
	for _, power := range []int64{-1, 0, 1, 2} {
		for _, c := range badCmds() {
			for _, d := range []impl.Disk{stored(""), full, torn, stored("x"), threeTakes(t)} {
				checkRefused(t, "no command", d, impl.Act{Kind: impl.AcAdd, C: c, Sync: true, Power: power}, impl.StForm)
			}
		}
		for _, a := range []impl.Act{powered(addAct(1), power), powered(syncedAct(1), power)} {
			checkRefused(t, "a torn log", stored("x"), a, impl.StTorn)
			checkRefused(t, "a log of 61 commands", torn, a, impl.StTorn)
			checkRefused(t, "a log of 60 commands", full, a, impl.StFull)
		}
	}
	e := checkAct(t, "a log of 59 commands", stored(logOf(manyTakes(59)...)), addAct(59), impl.StOk)
	checkView(t, "the last command", e, manyTakes(60)...)
	checkFile(t, e, "log", logOf(manyTakes(60)...))
	checkRefused(t, "a log that has become full", e, addAct(1), impl.StFull)
}

func TestAcAddFull(t *testing.T) {
	withLog := func(n int) impl.Disk {
		d := manyOps(n)
		d.Live = append(d.Live, file("log", ""))
		d.Safe = append(d.Safe, file("log", ""))
		return d
	}
	room := len(realFrameOf("0 take 1"))
	for _, d := range []impl.Disk{withLog(200), diskOf(file("a", zeros(200001-room)), file("log", ""))} {
		for _, power := range []int64{-1, 1, 2} {
			checkRefused(t, "no room", d, powered(addAct(1), power), impl.StFull)
			checkRefused(t, "no room", d, powered(syncedAct(1), power), impl.StFull)
		}
		checkRefused(t, "no room and no power", d, powered(addAct(1), 0), impl.StPower)
	}
	for _, d := range []impl.Disk{withLog(199), diskOf(file("a", zeros(200000-room)), file("log", ""))} {
		checkAct(t, "room for one", d, addAct(1), impl.StOk)
		checkAct(t, "room for one", d, syncedAct(1), impl.StOk)
	}
	checkAct(t, "60 files", diskOf(append(manyFiles(59), file("log", ""))...), addAct(1), impl.StOk)
}

// After each number of steps, the disk is as those steps make it, and the same commands count.
func TestAcOpenSteps(t *testing.T) {
	counts := logOf("take 1", "take 2")
	torn := counts + realFrameOf("2 take 3")[:9]
	safe := diskOf(file("log", torn), file("log.new", counts))
	last := []impl.Disk{safe, done(t, safe, renameOp("log.new", "log")), stored(counts)}
	d := stored(torn)
	checkSteps(t, openAct(), append([]impl.Disk{d, done(t, d, appendOp("log.new", counts))}, last...)...)
	d = diskOf(file("log", torn), file("log.new", "left over"))
	removed := done(t, d, removeOp("log.new"))
	checkSteps(t, openAct(), append([]impl.Disk{d, removed, done(t, removed, appendOp("log.new", counts))}, last...)...)
}

// checkSteps checks the disks after 0, 1, .. steps of an action, which leaves the commands "take 1" and "take 2".
func checkSteps(t *testing.T, a impl.Act, disks ...impl.Disk) {
	t.Helper()
	last := len(disks) - 1
	for power := range last {
		e := checkAct(t, "a part of the action", disks[0], powered(a, int64(power)), impl.StPower)
		if !sameDisk(e, disks[power]) {
			t.Errorf("after %d steps: %s; want %s", power, diskText(e), diskText(disks[power]))
		}
		checkView(t, "a part of the action", e, "take 1", "take 2")
	}
	for _, power := range []int64{int64(last), int64(last) + 1, math.MaxInt64, -1, -2, math.MinInt64} {
		if e := checkAct(t, "the action", disks[0], powered(a, power), impl.StOk); !sameDisk(e, disks[last]) {
			t.Errorf("after the action: %s", diskText(e))
		}
	}
}

func TestAcOpenOfCompleteLog(t *testing.T) {
	left := diskOf(file("log", logOf("take 1")), file("log.new", "x"))
	for _, d := range []impl.Disk{stored(""), stored(logOf("take 1")), stored(logOf(manyTakes(60)...)), left, threeTakes(t), done(t, left, appendOp("a", "x"))} {
		for _, power := range []int64{-1, 0, 1, 5} {
			checkRefused(t, "a complete log", d, powered(openAct(), power), impl.StOk)
		}
	}
}

// Operations that were not synced are synced with the new file.
func TestAcOpenSyncs(t *testing.T) {
	d := done(t, stored(logOf("take 1")), appendOp("a", "x"), appendOp("log", "torn"), appendOp("log.new", "y"))
	e := checkAct(t, "AcOpen", d, openAct(), impl.StOk)
	if !sameDisk(e, diskOf(file("a", "x"), file("log", logOf("take 1")))) {
		t.Errorf("after AcOpen: %s", diskText(e))
	}
	e = checkAct(t, "nothing counts", stored("torn"), openAct(), impl.StOk)
	if !sameDisk(e, stored("")) {
		t.Errorf("after AcOpen: %s", diskText(e))
	}
}

// tornOps has performed n operations; its log is torn, and there may be a file log.new.
func tornOps(n int, left bool) impl.Disk {
	d := manyOps(n)
	more := []impl.File{file("log", logOf("take 1")+"x")}
	if left {
		more = append(more, file("log.new", "left over"))
	}
	d.Live, d.Safe = append(d.Live, more...), append(d.Safe, more...)
	return d
}

func TestAcOpenFull(t *testing.T) {
	counts := logOf("take 1")
	torn := file("log", counts+"x")
	size := len(torn.Data) + len(counts)
	full := map[string]impl.Disk{
		"61 files":       diskOf(append(manyFiles(59), torn)...),
		"200001 bytes":   diskOf(file("a", zeros(200001-size)), torn),
		"201 operations": tornOps(200, false),
	}
	for name, d := range full {
		for _, power := range []int64{-1, 1, 2, 4} {
			checkRefused(t, name, d, powered(openAct(), power), impl.StFull)
		}
		checkRefused(t, name, d, powered(openAct(), 0), impl.StPower)
	}
	// The first step finds room, and is undone when the second one does not.
	left := map[string]impl.Disk{
		"200001 bytes":   diskOf(file("a", zeros(200001-size)), torn, file("log.new", "")),
		"201 operations": tornOps(199, true),
	}
	for name, d := range left {
		for _, power := range []int64{-1, 2, 3, 5} {
			checkRefused(t, name, d, powered(openAct(), power), impl.StFull)
		}
		e := checkAct(t, name, d, powered(openAct(), 1), impl.StPower)
		checkOps(t, name, e, append(d.Ops, removeOp("log.new"))...)
	}
	for _, power := range []int64{-1, 1, 2, 5} {
		checkRefused(t, "201 operations at once", tornOps(200, true), powered(openAct(), power), impl.StFull)
	}
	for name, d := range map[string]impl.Disk{
		"60 files":       diskOf(append(manyFiles(58), torn)...),
		"60 files again": diskOf(append(manyFiles(58), torn, file("log.new", "left over"))...),
		"200000 bytes":   diskOf(file("a", zeros(200000-size)), torn),
		"200 operations": tornOps(199, false),
		"200 with three": tornOps(198, true),
	} {
		e := checkAct(t, name, d, openAct(), impl.StOk)
		checkFile(t, e, "log", counts)
	}
}

func TestAcCrash(t *testing.T) {
	d := threeTakes(t)
	for _, a := range []impl.Act{crashAct(-1), crashAct(-1, 0), crashAct(9, 1, 0), crashAct(9, 0, 0), crashAct(9, -1), crashAct(9, 3), crashAct(math.MinInt64, 0)} {
		for _, power := range []int64{-1, 0, 4} {
			checkRefused(t, "Crash returns false", d, powered(a, power), impl.StForm)
		}
	}
	// A complete log needs no step.
	for _, power := range []int64{0, 1, -1} {
		e := checkAct(t, "a complete log", d, powered(crashAct(99, 0, 1), power), impl.StOk)
		if !sameDisk(e, stored(logOf("take 0", "take 1"))) {
			t.Errorf("after AcCrash: %s", diskText(e))
		}
	}
	// The same steps as those of AcOpen, behind Crash.
	torn := stored(logOf("take 0") + realFrameOf("1 take 1")[:9])
	for power := int64(-1); power < 7; power++ {
		want, code := storeDo(t, torn, powered(openAct(), power))
		if e := checkAct(t, "a torn log", d, powered(crashAct(9, 0, 1), power), code); !sameDisk(e, want) {
			t.Errorf("after AcCrash with power %d: %s; want %s", power, diskText(e), diskText(want))
		}
		if wantCode := int64(impl.StPower); within(power, 0, 3) != (code == wantCode) {
			t.Errorf("power %d: %d", power, code)
		}
	}
	for size := range int64(20) {
		e := checkAct(t, "torn", d, crashAct(size, 0, 1, 2), impl.StOk)
		want := manyTakes(2)
		if int(size) >= len(realFrameOf("2 take 2")) {
			want = manyTakes(3)
		}
		checkView(t, "torn", e, want...)
		checkFile(t, e, "log", logOf(want...))
	}
}

// The disk after Crash has no room for the new file, or is not valid.
func TestAcCrashFull(t *testing.T) {
	d := done(t, diskOf(append(manyFiles(58), file("log", ""))...), appendOp("z", "x"), appendOp("log", "torn"))
	for _, power := range []int64{-1, 1, 4} {
		e := checkAct(t, "60 files", d, powered(crashAct(2, 0, 1), power), impl.StFull)
		if want := append(manyFiles(58), file("log", "to"), file("z", "x")); !sameDisk(e, diskOf(want...)) {
			t.Errorf("after AcCrash: %s", diskText(e))
		}
	}
	e := checkAct(t, "60 files, no power", d, powered(crashAct(2, 0, 1), 0), impl.StPower)
	checkOps(t, "60 files, no power", e)
	checkAct(t, "59 files", d, crashAct(2, 1), impl.StOk)
	d = done(t, diskOf(append(manyFiles(59), file("log", ""))...), removeOp("f100"), appendOp("z", "x"))
	checkRefused(t, "61 files after Crash", d, crashAct(2, 1), impl.StForm)
	checkAct(t, "60 files after Crash", d, crashAct(2, 0, 1), impl.StOk)
}

func TestStorePlay(t *testing.T) {
	for _, acts := range [][]impl.Act{nil, {}} {
		d := threeTakes(t)
		if e, codes := storePlay(t, d, acts); len(codes) != 0 || !sameDisk(e, d) {
			t.Errorf("StorePlay without actions: %s, %v", diskText(e), codes)
		}
	}
	acts := []impl.Act{
		openAct(), addAct(1), newAct(), newAct(), addAct(1), syncedAct(2), powered(syncedAct(3), 1), {Kind: 5}, crashAct(3, 0), addAct(4),
		powered(addAct(5), 0), crashAct(9, 3), powered(crashAct(9, 0), 2), addAct(6), openAct(), addAct(7), {Kind: impl.AcAdd, Power: -1},
	}
	want := []int64{
		impl.StNone, impl.StNone, impl.StOk, impl.StForm, impl.StOk, impl.StOk, impl.StPower, impl.StForm, impl.StOk, impl.StOk,
		impl.StPower, impl.StForm, impl.StPower, impl.StTorn, impl.StOk, impl.StOk, impl.StForm,
	}
	d, codes := storePlay(t, impl.Disk{}, acts)
	if !sameList(codes, want) {
		t.Errorf("the codes are %v; want %v", codes, want)
	}
	checkView(t, "StorePlay", d, "take 1", "take 2", "take 7")
	// One action after the other.
	e := impl.Disk{}
	for i, a := range acts {
		next, code := storeDo(t, e, a)
		if code != want[i] {
			t.Errorf("the action %d returns %d", i, code)
		}
		e = next
	}
	if !sameDisk(d, e) {
		t.Errorf("StorePlay makes %s; want %s", diskText(d), diskText(e))
	}
}

// The limits are met one after the other: that of the commands, and that of the operations.
func TestLongStorePlay(t *testing.T) {
	acts := []impl.Act{newAct()}
	for n := range int64(70) {
		acts = append(acts, addAct(n))
	}
	d, codes := storePlay(t, impl.Disk{}, acts)
	for i, code := range codes {
		if want := int64(impl.StFull); (i > 60) != (code == want) {
			t.Errorf("the action %d returns %d", i, code)
		}
	}
	checkView(t, "60 commands", d, manyTakes(60)...)
	d, codes = storePlay(t, manyOps(190), append([]impl.Act{powered(newAct(), 1)}, acts[1:]...))
	for i, code := range codes[1:] {
		if want := int64(impl.StFull); (i >= 9) != (code == want) {
			t.Errorf("behind 190 operations, the action %d returns %d", i, code)
		}
	}
	checkView(t, "200 operations", d, manyTakes(9)...)
}

func TestRecovered(t *testing.T) {
	list := []string{"device 0", "device 1", "take 0", "send 1 1 hi", "copy 0", "take 1", "take 0", "send 2 0 yo", "take 5"}
	for n := range len(list) + 1 {
		for _, rest := range []string{"", "x", realFrameOf("77 take 0")} {
			letters, answers, code := recovered(t, stored(logOf(list[:n]...)+rest))
			world, want := play(t, commands(t, list[:n]...))
			if code != impl.StOk || !sameList(letters, world.Said) || !sameList(answers, want) {
				t.Errorf("of %d commands: %v, %v, %d", n, letters, answers, code)
			}
		}
	}
	letters, answers, _ := recovered(t, stored(logOf(list...)))
	if !sameList(letters, []impl.Letter{{From: 1, To: 2, Data: "hi"}, {From: 2, To: 1, Data: "yo"}}) {
		t.Errorf("the letters are %v", letters)
	}
	checkAnswers(t, answers, impl.Answer{N: 1, Data: "hi"}, impl.Answer{Code: impl.PwDevice, N: impl.DvNone}, impl.Answer{N: 1}, impl.Answer{N: 2, Data: "yo"})
	for _, d := range []impl.Disk{{}, diskOf(file("log.new", logOf(list...)))} {
		if letters, answers, code := recovered(t, d); code != impl.StNone || len(letters) != 0 || len(answers) != 0 {
			t.Errorf("Recovered without a log = %v, %v, %d", letters, answers, code)
		}
	}
	if _, answers, code := recovered(t, stored(logOf(manyTakes(61)...))); code != impl.StOk || len(answers) != 60 {
		t.Errorf("Recovered of 61 frames = %d answers, %d", len(answers), code)
	}
}

// Calls do not hinder each other, and what is done to a result stays there.
func TestStoreKeepsNothing(t *testing.T) {
	d := done(t, threeTakes(t), appendOp("log", "torn"), appendOp("log.new", "left over"))
	acts := []impl.Act{crashAct(3, 0, 1), addAct(4), {Kind: 9}}
	results := func() ([]impl.Disk, []impl.Cmd, []int64) {
		opened, _ := impl.StoreDo(d, openAct())
		refused, _ := impl.StoreDo(d, newAct())
		powerless, _ := impl.StoreDo(d, powered(openAct(), 1))
		played, codes := impl.StorePlay(d, acts)
		untouched, _ := impl.StorePlay(d, nil)
		list, _ := impl.StoreView(d)
		return []impl.Disk{opened, refused, powerless, played, untouched}, list, codes
	}
	disks, list, codes := results()
	want := []impl.Disk{}
	for _, e := range disks {
		want = append(want, copiedDisk(e))
		clear(e.Live)
		clear(e.Safe)
		clear(e.Ops)
	}
	wantList, wantCodes := append([]impl.Cmd(nil), list...), append([]int64(nil), codes...)
	clear(list)
	clear(codes)
	again, list, codes := results()
	for i, e := range again {
		if !sameDisk(e, want[i]) {
			t.Errorf("the result %d is another one: %s; want %s", i, diskText(e), diskText(want[i]))
		}
	}
	if !sameList(list, wantList) || !sameList(codes, wantCodes) {
		t.Errorf("the lists are other ones: %v, %v", list, codes)
	}
}
