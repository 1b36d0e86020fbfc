package tests

import (
	"fmt"
	"go/ast"
	"go/parser"
	"go/token"
	"path/filepath"
	"slices"
	"sync"
	"testing"

	"loop.example/g00702/impl"
)

// all shows the results of a function in one text.
func all(results ...any) string {
	return fmt.Sprintf("%#v", results)
}

// lowCalls call each function of the chapters 1 to 6.
func lowCalls() map[string]func() string {
	key, other, one := impl.KeyFrom(7), impl.KeyFrom(8), "\x01"+zeros(31)
	return map[string]func() string{
		"HexOf":     func() string { return all(impl.HexOf(allBytes())) },
		"ReadHex":   func() string { return all(impl.ReadHex("00ab")) },
		"XorOf":     func() string { return all(impl.XorOf(key, other)) },
		"NumBytes":  func() string { return all(impl.NumBytes(258, 3)) },
		"BytesNum":  func() string { return all(impl.BytesNum("\x01\x00")) },
		"Sha256":    func() string { return all(impl.Sha256("abc")) },
		"Hmac":      func() string { return all(impl.Hmac(key, "abc")) },
		"Extract":   func() string { return all(impl.Extract("salt", key)) },
		"Expand":    func() string { return all(impl.Expand(key, "info", 99)) },
		"Hkdf":      func() string { return all(impl.Hkdf("salt", key, "info", 99)) },
		"KeyFrom":   func() string { return all(impl.KeyFrom(-1)) },
		"FieldOk":   func() string { return all(impl.FieldOk(one)) },
		"FieldAdd":  func() string { return all(impl.FieldAdd(one, one)) },
		"FieldSub":  func() string { return all(impl.FieldSub(zeros(32), one)) },
		"FieldMul":  func() string { return all(impl.FieldMul("\x07"+zeros(31), "\x09"+zeros(31))) },
		"FieldInv":  func() string { return all(impl.FieldInv("\x07" + zeros(31))) },
		"Clamped":   func() string { return all(impl.Clamped(key)) },
		"Dh":        func() string { return all(impl.Dh(key, other)) },
		"PublicOf":  func() string { return all(impl.PublicOf(key)) },
		"Block":     func() string { return all(impl.Block(key, 1, zeros(12))) },
		"Stream":    func() string { return all(impl.Stream(key, zeros(12), text(70, 1))) },
		"Seal":      func() string { return all(impl.Seal(key, "ad", "hello")) },
		"OpenSeal":  func() string { return all(impl.OpenSeal(key, "ad", impl.Seal(key, "ad", "hello"))) },
		"HeadBytes": func() string { return all(impl.HeadBytes(someHead())) },
		"MsgBytes":  func() string { return all(impl.MsgBytes(someMsg(40))) },
		"ReadMsg":   func() string { return all(impl.ReadMsg(impl.MsgBytes(someMsg(40)))) },
		"InitBytes": func() string { return all(impl.InitBytes(someInit())) },
		"EnvBytes":  func() string { return all(impl.EnvBytes(fullEnv())) },
		"ReadEnv":   func() string { return all(impl.ReadEnv(impl.EnvBytes(fullEnv()))) },
		"ChainStep": func() string { return all(impl.ChainStep(key)) },
		"ChainKey":  func() string { return all(impl.ChainKey(key, 5)) },
		"RootStep":  func() string { return all(impl.RootStep(key, other)) },
	}
}

// middleCalls call each function of the chapters 7 to 10.
func middleCalls() map[string]func() string {
	key, other := impl.KeyFrom(7), impl.KeyFrom(8)
	a, _ := impl.NewDevice(1, 0, 10)
	b, _ := impl.NewDevice(2, 1, 20)
	bundle, _ := impl.BundleOf(b, 2)
	wrote, e, _ := impl.DeviceSend(a, 2, bundle, "hello", 100)
	begun, _ := impl.StartA(key, impl.PublicOf(other), key)
	answering, _ := impl.StartB(key, other)
	_, m, _ := impl.SealTo(begun, "ad", "hello")
	list := []impl.Cmd{{Kind: impl.CmDevice}, {Kind: impl.CmDevice, A: 1}, {Kind: impl.CmSend, A: 1, B: 1, Text: "hi"}, {Kind: impl.CmTake}}
	return map[string]func() string{
		"SessionOk":     func() string { return all(impl.SessionOk(fullSession())) },
		"StartA":        func() string { return all(impl.StartA(key, other, key)) },
		"StartB":        func() string { return all(impl.StartB(key, other)) },
		"SealTo":        func() string { return all(impl.SealTo(fullSession(), "ad", "hello")) },
		"OpenFrom":      func() string { return all(impl.OpenFrom(answering, "ad", m, key)) },
		"Forget":        func() string { return all(impl.Forget(fullSession())) },
		"BundleOk":      func() string { return all(impl.BundleOk(someBundle())) },
		"SharedA":       func() string { return all(impl.SharedA(key, other, someBundle())) },
		"SharedB":       func() string { return all(impl.SharedB(key, other, key, other, key)) },
		"AdOf":          func() string { return all(impl.AdOf(key, other)) },
		"IdOf":          func() string { return all(impl.IdOf(key, other)) },
		"PairOf":        func() string { return all(impl.PairOf(key)) },
		"NewDevice":     func() string { return all(impl.NewDevice(1, 0, 10)) },
		"DeviceOk":      func() string { return all(impl.DeviceOk(fullDevice())) },
		"BundleOf":      func() string { return all(impl.BundleOf(fullDevice(), 7)) },
		"DeviceSend":    func() string { return all(impl.DeviceSend(wrote, 2, bundle, "more", 300)) },
		"DeviceReceive": func() string { return all(impl.DeviceReceive(b, e, 200)) },
		"ActiveOf":      func() string { return all(impl.ActiveOf(fullDevice(), 4)) },
		"CmdOk":         func() string { return all(impl.CmdOk(list[2])) },
		"CmdText":       func() string { return all(impl.CmdText(list[2])) },
		"ReadCmd":       func() string { return all(impl.ReadCmd("send 1 1 hi")) },
		"Play":          func() string { return all(impl.Play(list)) },
		"SaidTo":        func() string { return all(impl.SaidTo(list, 2)) },
	}
}

// highCalls call each function of the chapters 11 to 14.
func highCalls() map[string]func() string {
	d := impl.Disk{}
	d.Safe = []impl.File{file("a", "b"), file("log", logOf("device 0", "device 1", "send 1 1 hi", "take 0"))}
	d.Live = []impl.File{d.Safe[0], file("log", d.Safe[1].Data+"x")}
	d.Ops = []impl.DOp{appendOp("log", "x")}
	frame := impl.FrameOf("abc")
	acts := []impl.Act{openAct(), syncedAct(3), crashAct(0)}
	return map[string]func() string{
		"DiskOk":     func() string { return all(impl.DiskOk(d)) },
		"Do":         func() string { return all(impl.Do(d, renameOp("a", "c"))) },
		"Sync":       func() string { return all(impl.Sync(d)) },
		"Crash":      func() string { return all(impl.Crash(d, []int64{0}, 1)) },
		"ReadFile":   func() string { return all(impl.ReadFile(d, "log")) },
		"Replace":    func() string { return all(impl.Replace(d, "a", "new")) },
		"FrameOf":    func() string { return all(impl.FrameOf("abc")) },
		"TakeFrames": func() string { return all(impl.TakeFrames(frame + frame + "x")) },
		"StoreView":  func() string { return all(impl.StoreView(d)) },
		"StoreDo":    func() string { return all(impl.StoreDo(d, openAct())) },
		"StorePlay":  func() string { return all(impl.StorePlay(d, acts)) },
		"Recovered":  func() string { return all(impl.Recovered(d)) },
		"LetterText": func() string { return all(impl.LetterText(impl.Letter{From: 1, To: 4, Data: "hi!"})) },
		"ReadLetter": func() string { return all(impl.ReadLetter("1 4 hi!")) },
		"DeviceText": func() string { return all(impl.DeviceText(fullDevice())) },
		"LetterPart": func() string { return all(impl.LetterPart(fullEnv())) },
		"RunScript":  func() string { return all(impl.RunScript(scriptOf(append(world(), "show 1", "mail", "said 0")...))) },
	}
}

func allCalls() map[string]func() string {
	out := lowCalls()
	for _, calls := range []map[string]func() string{middleCalls(), highCalls()} {
		for name, call := range calls {
			out[name] = call
		}
	}
	return out
}

// exported are the names of all functions that the package has for others.
func exported(t *testing.T) []string {
	t.Helper()
	paths, err := filepath.Glob("../impl/*.go")
	if err != nil || len(paths) != 14 {
		t.Fatalf("the package has the files %q, %v", paths, err)
	}
	out := []string{}
	for _, path := range paths {
		f, err := parser.ParseFile(token.NewFileSet(), path, nil, 0)
		if err != nil {
			t.Fatal(err)
		}
		for _, d := range f.Decls {
			if x, ok := d.(*ast.FuncDecl); ok && x.Recv == nil && x.Name.IsExported() {
				out = append(out, x.Name.Name)
			}
		}
	}
	return out
}

// Promise 15, for all chapters: each function, called again behind all others, and at the same time as the others, has the same result.
func TestEqualArgumentsOfAllFunctions(t *testing.T) {
	calls, first := allCalls(), map[string]string{}
	for name, call := range calls {
		first[name] = call()
	}
	for _, name := range exported(t) {
		if calls[name] == nil {
			t.Errorf("%s is not called", name)
		}
	}
	for name, call := range calls {
		checkSame(t, name+" again", call(), first[name])
	}
	// These have their arguments in memory of their own.
	for name, call := range allCalls() {
		checkSame(t, name+" of equal arguments", call(), first[name])
	}
	results := make([]map[string]string, 4)
	var group sync.WaitGroup
	for i := range results {
		results[i] = map[string]string{}
		group.Add(1)
		go func() {
			defer group.Done()
			for name, call := range calls {
				results[i][name] = call()
			}
		}()
	}
	group.Wait()
	for i := range results {
		for name, s := range results[i] {
			checkSame(t, name+" at the same time", s, first[name])
		}
	}
	if rejected := slices.DeleteFunc(exported(t), func(name string) bool { return first[name] != all("") && first[name] != all(false) }); len(rejected) > 0 {
		t.Errorf("these reject their arguments: %q", rejected)
	}
}
