package tests

import (
	"slices"
	"strings"
	"testing"

	"loop.example/g00765/impl"
)

// wantRefusal asks that nothing has become of a change.
func wantRefusal(t *testing.T, w impl.World, text string, code, detail int) {
	t.Helper()
	z, report := impl.Upgrade(w, text)
	if want := (impl.Report{Code: code, Detail: detail}); !alike(report, want) || !alike(z, w) {
		t.Errorf("Upgrade(.., %q) = %s, %+v; want it as it is, %+v", text, shown(z), report, want)
	}
}

// wantChange asks for a change after which these were made, and tells the world.
func wantChange(t *testing.T, w impl.World, text string, made string) impl.World {
	t.Helper()
	z, report := impl.Upgrade(w, text)
	if want := (impl.Report{Code: impl.UpOk, Made: names(made)}); !alike(report, want) {
		t.Fatalf("Upgrade(.., %q): %+v; want %+v", text, report, want)
	}
	wantWorld(t, text, z, true)
	if !alike(z.Tasks, w.Tasks) || z.Next != w.Next {
		t.Errorf("Upgrade(.., %q) changes tasks", text)
	}
	return z
}

// standing tells each library with its version and its Inst.
func standing(w impl.World) string {
	var all []string
	for _, e := range w.Libs {
		all = append(all, e.Src.Name+" "+impl.Dec(e.Ver)+" "+impl.Dec(e.Inst))
	}
	return strings.Join(all, ", ")
}

func wantStanding(t *testing.T, w impl.World, want string) {
	t.Helper()
	if now := standing(w); now != want {
		t.Errorf("libraries are %s; want %s", now, want)
	}
}

func TestNewLibraries(t *testing.T) {
	w := wantChange(t, impl.NewWorld(), "(library mm) (export v) (define v 1)", "mm")
	wantStanding(t, w, "mm 1 1")
	if s := source(t, "(library mm) (export v) (define v 1)"); !alike(w.Libs[0].Src, s) {
		t.Error("its source is", shown(w.Libs[0].Src))
	}
	w = wantChange(t, w, "(library zz)", "zz")
	w = wantChange(t, w, "(library aa) (import zz mm) (define w (+ v 1))", "aa")
	wantStanding(t, w, "aa 1 3, mm 1 1, zz 1 2")
	if in := w.Sys.Insts[3]; !alike(in.Links, []impl.Link{link("v", 1, "v")}) || !alike(in.Vals, vals(numVal(2))) {
		t.Error("what imports has", shown(in))
	}
}

// Those that need the changed one are made behind it, in Order, all others stay.
func TestLibrariesMadeAnew(t *testing.T) {
	w := worldOf(t, aBase, aMiddle, aTop, "(library dd)")
	z := wantChange(t, w, strings.ReplaceAll(aBase, "7", "70"), "aa bb cc")
	wantStanding(t, z, "aa 2 5, bb 2 6, cc 2 7, dd 1 4")
	if !alike(z.Sys.Insts[:5], w.Sys.Insts) {
		t.Error("what was there is changed")
	}
	for at, want := range map[int][]impl.Link{
		6: {link("base", 5, "base"), link("bump", 5, "bump")},
		7: {link("pt?", 6, "pt?"), link("mk", 6, "mk"), link("base", 5, "base"), link("bump", 5, "bump")},
	} {
		if !alike(z.Sys.Insts[at].Links, want) {
			t.Errorf("Inst %d has the Links %v; want %v", at, z.Sys.Insts[at].Links, want)
		}
	}
	z = wantChange(t, w, aTop, "cc")
	wantStanding(t, z, "aa 1 1, bb 1 2, cc 2 5, dd 1 4")
	z = wantChange(t, w, aMiddle, "bb cc")
	wantStanding(t, z, "aa 1 1, bb 2 5, cc 2 6, dd 1 4")
	z = wantChange(t, z, "(library dd) (import cc)", "dd")
	z = wantChange(t, z, aMiddle, "bb cc dd")
	wantStanding(t, z, "aa 1 1, bb 3 8, cc 3 9, dd 3 10")
	// what is imported no more makes nothing anew any more
	z = wantChange(t, worldOf(t, aBase, aMiddle, aTop), "(library cc) (import aa)", "cc")
	z = wantChange(t, z, aMiddle, "bb")
	// in Order, not by Name
	z = worldOf(t, "(library zz)", "(library aa) (import zz)", "(library mm) (import aa)", "(library bb) (import mm zz)")
	wantStanding(t, wantChange(t, z, "(library zz)", "zz aa mm bb"), "aa 2 6, bb 2 8, mm 2 7, zz 2 5")
}

func TestLinksOfTheSession(t *testing.T) {
	w := worldOf(t, aBase, aMiddle, "(library cc) (export base) (define base 1)")
	w.Sys.Insts[0].Links = []impl.Link{link("base", 1, "base"), link("again", 1, "base"), link("mk", 2, "mk"), link("one", 3, "base"), link("own", 0, "own"), link("up", 1, "bump")}
	z := wantChange(t, w, "(library aa) (export base) (define base 8)", "aa bb")
	want := []impl.Link{link("base", 4, "base"), link("again", 4, "base"), link("mk", 5, "mk"), link("one", 3, "base"), link("own", 0, "own")}
	if !alike(z.Sys.Insts[0].Links, want) {
		t.Errorf("Links are %v; want %v", z.Sys.Insts[0].Links, want)
	}
	// one to a version that is none of Libs stays
	z.Sys.Insts[0].Links = append(z.Sys.Insts[0].Links, link("old", 1, "base"), link("older", 1, "bump"))
	z = wantChange(t, z, "(library aa) (export bump base) (define bump 9) (define base 9)", "aa bb")
	want = []impl.Link{link("base", 6, "base"), link("again", 6, "base"), link("mk", 7, "mk"), link("one", 3, "base"), link("own", 0, "own"), link("old", 1, "base"), link("older", 1, "bump")}
	if !alike(z.Sys.Insts[0].Links, want) {
		t.Errorf("Links are %v; want %v", z.Sys.Insts[0].Links, want)
	}
}

func TestChangesThatAreRefused(t *testing.T) {
	w := worldOf(t, aBase, aMiddle, aTop)
	for _, z := range []impl.World{impl.NewWorld(), w, fullWorld(t), byHand(t)} {
		wantRefusal(t, z, "(library", impl.UpParse, impl.LbRead)
		wantRefusal(t, z, "", impl.UpParse, impl.LbForm)
		wantRefusal(t, z, "(library zz) (library zz)", impl.UpParse, impl.LbForm)
		wantRefusal(t, z, "(library zz) (import zz)", impl.UpParse, impl.LbDup)
		wantRefusal(t, z, "(library zz) (export z)", impl.UpParse, impl.LbExport)
		wantRefusal(t, z, "(library zz) (import yy)", impl.UpMissing, 0)
		wantRefusal(t, z, "(library zz) (define z nobody)", impl.UpMake, impl.EnUnbound)
		wantRefusal(t, z, "(library zz) (define z (begin (print 1) (cons 1 2))) (define y (error 1))", impl.UpMake, impl.EnUser)
		wantRefusal(t, z, "(library zz) (define z ((lambda (x) (x x)) (lambda (x) (x x))))", impl.UpMake, impl.EnFull)
	}
	wantRefusal(t, w, "(library aa) (import cc)", impl.UpCycle, 0)
	wantRefusal(t, w, "(library aa) (import bb)", impl.UpCycle, 0)
	wantRefusal(t, w, "(library aa) (import bb zz)", impl.UpMissing, 0)
	// one that needs it fails, as what it takes is not there any more
	wantRefusal(t, w, "(library aa)", impl.UpMake, impl.EnUnbound)
	wantRefusal(t, w, "(library aa) (export base) (define base (lambda () 1)) (define bump (car 1))", impl.UpMake, impl.EnType)
	wrong := byHand(t)
	wrong.Next = 0
	for _, z := range []impl.World{{}, wrong, manyLibs(t, impl.MaxLibs+1)} {
		got, report := impl.Upgrade(z, "(library zz)")
		if !alike(got, impl.World{}) || !alike(report, impl.Report{Code: impl.UpParse}) {
			t.Errorf("Upgrade of a world that is not right = %s, %+v", shown(got), report)
		}
	}
}

func TestChangesThatAreFull(t *testing.T) {
	w := manyLibs(t, impl.MaxLibs)
	wantRefusal(t, w, "(library zz)", impl.UpFull, 0)
	wantRefusal(t, w, "(library zz) (import yy)", impl.UpFull, 0)
	wantRefusal(t, w, "(library", impl.UpParse, impl.LbRead)
	wantChange(t, w, "(library x5)", "x5")
	wantChange(t, manyLibs(t, impl.MaxLibs-1), "(library zz)", "zz")
	// the highest version
	for _, c := range []struct{ aa, bb, want int }{{999, 5, impl.UpOk}, {5, 999, impl.UpOk}, {1000, 5, impl.UpFull}, {5, 1000, impl.UpFull}, {1000, 1000, impl.UpFull}} {
		z := worldOf(t, aBase, aMiddle, "(library zz)")
		z.Libs[0].Ver, z.Sys.Insts[1].Ver = c.aa, c.aa
		z.Libs[1].Ver, z.Sys.Insts[2].Ver = c.bb, c.bb
		z.Libs[2].Ver, z.Sys.Insts[3].Ver = 1000, 1000
		if c.want == impl.UpOk {
			z = wantChange(t, z, aBase, "aa bb")
			wantStanding(t, z, "aa "+impl.Dec(c.aa+1)+" 4, bb "+impl.Dec(c.bb+1)+" 5, zz 1000 3")
			continue
		}
		wantRefusal(t, z, aBase, impl.UpFull, 0)
		wantRefusal(t, z, "(library aa) (define v nobody)", impl.UpFull, 0)
	}
	// no Inst is left for the second one
	z := worldOf(t, "(library aa)", "(library bb) (import aa)")
	for len(z.Sys.Insts) < impl.MaxInsts-1 {
		z.Sys.Insts = append(z.Sys.Insts, impl.Inst{Lib: "aa", Ver: 9})
	}
	wantRefusal(t, z, "(library aa)", impl.UpMake, impl.EnFull)
	wantStanding(t, wantChange(t, z, "(library bb)", "bb"), "aa 1 1, bb 2 11")
}

// modelUpgrade says it in the document's own words, of a right world and a library
// without converters.
func modelUpgrade(w impl.World, text string) (impl.World, impl.Report) {
	s, code := impl.ParseLib(text)
	if code != impl.LbOk {
		return w, impl.Report{Code: impl.UpParse, Detail: code}
	}
	libs := map[string]impl.Ent{}
	for _, e := range w.Libs {
		libs[e.Src.Name] = e
	}
	libs[s.Name] = impl.Ent{Src: s, Ver: libs[s.Name].Ver, Inst: libs[s.Name].Inst}
	if len(libs) > 6 {
		return w, impl.Report{Code: impl.UpFull}
	}
	for _, name := range s.Imports {
		if _, is := libs[name]; !is {
			return w, impl.Report{Code: impl.UpMissing}
		}
	}
	var all []impl.Src
	for _, e := range libs {
		all = append(all, e.Src)
	}
	order, ok := modelOrder(all)
	if !ok {
		return w, impl.Report{Code: impl.UpCycle}
	}
	var made []string
	for _, name := range order {
		if name == s.Name || slices.Contains(modelNeeds(all, name), s.Name) {
			made = append(made, name)
			if libs[name].Ver == 1000 {
				return w, impl.Report{Code: impl.UpFull}
			}
		}
	}
	z := deepWorld(w)
	for _, name := range made {
		e := libs[name]
		var needs []impl.Need
		for _, name := range e.Src.Imports {
			needs = append(needs, impl.Need{Inst: libs[name].Inst, Names: libs[name].Src.Exports})
		}
		y, at, code := modelMake(z.Sys, e.Src, e.Ver+1, needs)
		if code != impl.EnDone {
			return w, impl.Report{Code: impl.UpMake, Detail: code}
		}
		z.Sys = y
		libs[name] = impl.Ent{Src: e.Src, Ver: e.Ver + 1, Inst: at}
	}
	var links []impl.Link
	for _, l := range z.Sys.Insts[0].Links {
		for _, e := range w.Libs {
			if l.Inst == e.Inst {
				now := libs[e.Src.Name]
				if l.Inst = now.Inst; !slices.Contains(now.Src.Exports, l.At) {
					l.Name = ""
				}
				break
			}
		}
		if l.Name != "" {
			links = append(links, l)
		}
	}
	z.Sys.Insts[0].Links, z.Libs = links, nil
	for _, name := range slices.Sorted(slices.Values(order)) {
		z.Libs = append(z.Libs, libs[name])
	}
	return z, impl.Report{Made: made}
}

// changeAsModelled is the world behind a change, which is held against the model.
func changeAsModelled(t *testing.T, w impl.World, text string, codes map[int]int) impl.World {
	t.Helper()
	z, report := impl.Upgrade(w, text)
	wantZ, want := modelUpgrade(w, text)
	if !alike(report, want) || !alike(z, wantZ) {
		t.Fatalf("Upgrade(%s, %q) = %s, %+v; want %s, %+v", shown(w), text, shown(z), report, shown(wantZ), want)
	}
	codes[report.Code]++
	return z
}
