package tests

import (
	"math/rand"
	"slices"
	"strings"
	"testing"

	"loop.example/g00765/impl"
)

// wantRefusal asks that nothing has become of a change.
func wantRefusal(t *testing.T, w impl.World, text string, code, detail int) {
	t.Helper()
	z, report := impl.Upgrade(w, text)
	if want := (impl.Report{Code: code, Detail: detail}); !alike(report, want) || !alike(z, w) {
		t.Errorf("Upgrade(.., %q) = %s, %+v; want it as it is, %+v", text, shown(z), report, want)
	}
	changeAsModelled(t, w, text, map[int]int{})
}

// wantChange asks for a change after which these were made, and tells the world.
func wantChange(t *testing.T, w impl.World, text string, made string) impl.World {
	t.Helper()
	z, report := impl.Upgrade(w, text)
	if want := (impl.Report{Code: impl.UpOk, Made: names(made)}); !alike(report, want) {
		t.Fatalf("Upgrade(.., %q): %+v; want %+v", text, report, want)
	}
	wantWorld(t, text, z, true)
	if !alike(z.Tasks, w.Tasks) || z.Next != w.Next {
		t.Errorf("Upgrade(.., %q) changes tasks", text)
	}
	return changeAsModelled(t, w, text, map[int]int{})
}

// standing tells each library with its version and its Inst.
func standing(w impl.World) string {
	var all []string
	for _, e := range w.Libs {
		all = append(all, e.Src.Name+" "+impl.Dec(e.Ver)+" "+impl.Dec(e.Inst))
	}
	return strings.Join(all, ", ")
}

func wantStanding(t *testing.T, w impl.World, want string) {
	t.Helper()
	if now := standing(w); now != want {
		t.Errorf("libraries are %s; want %s", now, want)
	}
}

func TestNewLibraries(t *testing.T) {
	w := wantChange(t, impl.NewWorld(), "(library mm) (export v) (define v 1)", "mm")
	wantStanding(t, w, "mm 1 1")
	if s := source(t, "(library mm) (export v) (define v 1)"); !alike(w.Libs[0].Src, s) {
		t.Error("its source is", shown(w.Libs[0].Src))
	}
	w = wantChange(t, w, "(library zz)", "zz")
	w = wantChange(t, w, "(library aa) (import zz mm) (define w (+ v 1))", "aa")
	wantStanding(t, w, "aa 1 3, mm 1 1, zz 1 2")
	if in := w.Sys.Insts[3]; !alike(in.Links, []impl.Link{link("v", 1, "v")}) || !alike(in.Vals, vals(numVal(2))) {
		t.Error("what imports has", shown(in))
	}
}

// Those that need the changed one are made behind it, in Order, all others stay.
func TestLibrariesMadeAnew(t *testing.T) {
	w := worldOf(t, aBase, aMiddle, aTop, "(library dd)")
	z := wantChange(t, w, strings.ReplaceAll(aBase, "7", "70"), "aa bb cc")
	wantStanding(t, z, "aa 2 5, bb 2 6, cc 2 7, dd 1 4")
	if !alike(z.Sys.Insts[:5], w.Sys.Insts) {
		t.Error("what was there is changed")
	}
	for at, want := range map[int][]impl.Link{
		6: {link("base", 5, "base"), link("bump", 5, "bump")},
		7: {link("pt?", 6, "pt?"), link("mk", 6, "mk"), link("base", 5, "base"), link("bump", 5, "bump")},
	} {
		if !alike(z.Sys.Insts[at].Links, want) {
			t.Errorf("Inst %d has the Links %v; want %v", at, z.Sys.Insts[at].Links, want)
		}
	}
	z = wantChange(t, w, aTop, "cc")
	wantStanding(t, z, "aa 1 1, bb 1 2, cc 2 5, dd 1 4")
	z = wantChange(t, w, aMiddle, "bb cc")
	wantStanding(t, z, "aa 1 1, bb 2 5, cc 2 6, dd 1 4")
	z = wantChange(t, z, "(library dd) (import cc)", "dd")
	z = wantChange(t, z, aMiddle, "bb cc dd")
	wantStanding(t, z, "aa 1 1, bb 3 8, cc 3 9, dd 3 10")
	// what is imported no more makes nothing anew any more
	z = wantChange(t, worldOf(t, aBase, aMiddle, aTop), "(library cc) (import aa)", "cc")
	z = wantChange(t, z, aMiddle, "bb")
	// in Order, not by Name
	z = worldOf(t, "(library zz)", "(library aa) (import zz)", "(library mm) (import aa)", "(library bb) (import mm zz)")
	wantStanding(t, wantChange(t, z, "(library zz)", "zz aa mm bb"), "aa 2 6, bb 2 8, mm 2 7, zz 2 5")
}

func TestLinksOfTheSession(t *testing.T) {
	w := worldOf(t, aBase, aMiddle, "(library cc) (export base) (define base 1)")
	w.Sys.Insts[0].Links = []impl.Link{link("base", 1, "base"), link("again", 1, "base"), link("mk", 2, "mk"), link("one", 3, "base"), link("own", 0, "own"), link("up", 1, "bump")}
	z := wantChange(t, w, "(library aa) (export base) (define base 8)", "aa bb")
	want := []impl.Link{link("base", 4, "base"), link("again", 4, "base"), link("mk", 5, "mk"), link("one", 3, "base"), link("own", 0, "own")}
	if !alike(z.Sys.Insts[0].Links, want) {
		t.Errorf("Links are %v; want %v", z.Sys.Insts[0].Links, want)
	}
	// one to a version that is none of Libs stays
	z.Sys.Insts[0].Links = append(z.Sys.Insts[0].Links, link("old", 1, "base"), link("older", 1, "bump"))
	z = wantChange(t, z, "(library aa) (export bump base) (define bump 9) (define base 9)", "aa bb")
	want = []impl.Link{link("base", 6, "base"), link("again", 6, "base"), link("mk", 7, "mk"), link("one", 3, "base"), link("own", 0, "own"), link("old", 1, "base"), link("older", 1, "bump")}
	if !alike(z.Sys.Insts[0].Links, want) {
		t.Errorf("Links are %v; want %v", z.Sys.Insts[0].Links, want)
	}
}

func TestChangesThatAreRefused(t *testing.T) {
	w := worldOf(t, aBase, aMiddle, aTop)
	for _, z := range []impl.World{impl.NewWorld(), w, fullWorld(t), byHand(t)} {
		wantRefusal(t, z, "(library", impl.UpParse, impl.LbRead)
		wantRefusal(t, z, "", impl.UpParse, impl.LbForm)
		wantRefusal(t, z, "(library zz) (library zz)", impl.UpParse, impl.LbForm)
		wantRefusal(t, z, "(library zz) (import zz)", impl.UpParse, impl.LbDup)
		wantRefusal(t, z, "(library zz) (export z)", impl.UpParse, impl.LbExport)
		wantRefusal(t, z, "(library zz) (import yy)", impl.UpMissing, 0)
		wantRefusal(t, z, "(library zz) (define z nobody)", impl.UpMake, impl.EnUnbound)
		wantRefusal(t, z, "(library zz) (define z (begin (print 1) (cons 1 2))) (define y (error 1))", impl.UpMake, impl.EnUser)
		wantRefusal(t, z, "(library zz) (define z ((lambda (x) (x x)) (lambda (x) (x x))))", impl.UpMake, impl.EnFull)
	}
	wantRefusal(t, w, "(library aa) (import cc)", impl.UpCycle, 0)
	wantRefusal(t, w, "(library aa) (import bb)", impl.UpCycle, 0)
	wantRefusal(t, w, "(library aa) (import bb zz)", impl.UpMissing, 0)
	// one that needs it fails, as what it takes is not there any more
	wantRefusal(t, w, "(library aa)", impl.UpMake, impl.EnUnbound)
	wantRefusal(t, w, "(library aa) (export base) (define base (lambda () 1)) (define bump (car 1))", impl.UpMake, impl.EnType)
	wrong := byHand(t)
	wrong.Next = 0
	for _, z := range []impl.World{{}, wrong, manyLibs(t, impl.MaxLibs+1)} {
		got, report := impl.Upgrade(z, "(library zz)")
		if !alike(got, impl.World{}) || !alike(report, impl.Report{Code: impl.UpParse}) {
			t.Errorf("Upgrade of a world that is not right = %s, %+v", shown(got), report)
		}
	}
}

func TestChangesThatAreFull(t *testing.T) {
	w := manyLibs(t, impl.MaxLibs)
	wantRefusal(t, w, "(library zz)", impl.UpFull, 0)
	wantRefusal(t, w, "(library zz) (import yy)", impl.UpFull, 0)
	wantRefusal(t, w, "(library", impl.UpParse, impl.LbRead)
	wantChange(t, w, "(library x5)", "x5")
	wantChange(t, manyLibs(t, impl.MaxLibs-1), "(library zz)", "zz")
	// the highest version
	for _, c := range []struct{ aa, bb, want int }{{999, 5, impl.UpOk}, {5, 999, impl.UpOk}, {1000, 5, impl.UpFull}, {5, 1000, impl.UpFull}, {1000, 1000, impl.UpFull}} {
		z := worldOf(t, aBase, aMiddle, "(library zz)")
		z.Libs[0].Ver, z.Sys.Insts[1].Ver = c.aa, c.aa
		z.Libs[1].Ver, z.Sys.Insts[2].Ver = c.bb, c.bb
		z.Libs[2].Ver, z.Sys.Insts[3].Ver = 1000, 1000
		if c.want == impl.UpOk {
			z = wantChange(t, z, aBase, "aa bb")
			wantStanding(t, z, "aa "+impl.Dec(c.aa+1)+" 4, bb "+impl.Dec(c.bb+1)+" 5, zz 1000 3")
			continue
		}
		wantRefusal(t, z, aBase, impl.UpFull, 0)
		wantRefusal(t, z, "(library aa) (define v nobody)", impl.UpFull, 0)
	}
	// no Inst is left for the second one
	z := worldOf(t, "(library aa)", "(library bb) (import aa)")
	for len(z.Sys.Insts) < impl.MaxInsts-1 {
		z.Sys.Insts = append(z.Sys.Insts, impl.Inst{Lib: "aa", Ver: 9})
	}
	wantRefusal(t, z, "(library aa)", impl.UpMake, impl.EnFull)
	wantStanding(t, wantChange(t, z, "(library bb)", "bb"), "aa 1 1, bb 2 11")
}

// modelUpgrade says it in the document's own words, of a right world.
func modelUpgrade(w impl.World, text string) (impl.World, impl.Report) {
	s, code := impl.ParseLib(text)
	if code != impl.LbOk {
		return w, impl.Report{Code: impl.UpParse, Detail: code}
	}
	libs := map[string]impl.Ent{}
	for _, e := range w.Libs {
		libs[e.Src.Name] = e
	}
	libs[s.Name] = impl.Ent{Src: s, Ver: libs[s.Name].Ver, Inst: libs[s.Name].Inst}
	if len(libs) > 6 {
		return w, impl.Report{Code: impl.UpFull}
	}
	for _, name := range s.Imports {
		if _, is := libs[name]; !is {
			return w, impl.Report{Code: impl.UpMissing}
		}
	}
	var all []impl.Src
	for _, e := range libs {
		all = append(all, e.Src)
	}
	order, ok := modelOrder(all)
	if !ok {
		return w, impl.Report{Code: impl.UpCycle}
	}
	var made []string
	for _, name := range order {
		if name == s.Name || slices.Contains(modelNeeds(all, name), s.Name) {
			made = append(made, name)
			if libs[name].Ver == 1000 {
				return w, impl.Report{Code: impl.UpFull}
			}
		}
	}
	z := deepWorld(w)
	for _, name := range made {
		e := libs[name]
		var needs []impl.Need
		for _, name := range e.Src.Imports {
			needs = append(needs, impl.Need{Inst: libs[name].Inst, Names: libs[name].Src.Exports})
		}
		y, at, code := modelMake(z.Sys, e.Src, e.Ver+1, needs)
		if code != impl.EnDone {
			return w, impl.Report{Code: impl.UpMake, Detail: code}
		}
		z.Sys = y
		libs[name] = impl.Ent{Src: e.Src, Ver: e.Ver + 1, Inst: at}
	}
	y, failed := modelConvert(z.Sys, s, libs[s.Name].Inst)
	if failed.Code != impl.UpOk {
		return w, failed
	}
	z.Sys = y
	var links []impl.Link
	for _, l := range z.Sys.Insts[0].Links {
		for _, e := range w.Libs {
			if l.Inst == e.Inst {
				now := libs[e.Src.Name]
				if l.Inst = now.Inst; !slices.Contains(now.Src.Exports, l.At) {
					l.Name = ""
				}
				break
			}
		}
		if l.Name != "" {
			links = append(links, l)
		}
	}
	z.Sys.Insts[0].Links, z.Libs = links, nil
	for _, name := range slices.Sorted(slices.Values(order)) {
		z.Libs = append(z.Libs, libs[name])
	}
	return z, impl.Report{Made: made}
}

// modelConvert is what the converters of s do, of which that Inst is the new one.
func modelConvert(y impl.Sys, s impl.Src, at int) (impl.Sys, impl.Report) {
	for i, conv := range s.Convs {
		failed := impl.Report{Code: impl.UpConv, Detail: i}
		if len(y.Units) == 60 {
			return y, impl.Report{Code: impl.UpFull}
		}
		z, m := impl.Eval(y, at, conv.Prog, 500)
		if m.Mode != impl.MoEnd || m.End != impl.EnDone {
			return y, failed
		}
		f := m.Val
		y = z
		for k := range len(y.Heap) {
			c := y.Heap[k]
			if c.Kind != impl.CeRec || c.S != s.Name+":"+conv.Name || c.A >= y.Insts[at].Ver {
				continue
			}
			if len(y.Units) == 60 {
				return y, impl.Report{Code: impl.UpFull}
			}
			z, m := modelApply(y, f, vals(recVal(k)), 500)
			if m.Mode != impl.MoEnd || m.End != impl.EnDone {
				return y, failed
			}
			list, ok := modelList(z.Heap, m.Val)
			for _, typ := range s.Types {
				ok = ok && (typ.Name != conv.Name || typ.Size == len(list))
			}
			if !ok {
				return y, failed
			}
			z.Heap[k].A, z.Heap[k].Vals = y.Insts[at].Ver, list
			y = z
		}
	}
	return y, impl.Report{}
}

// changeAsModelled is the world behind a change, which is held against the model.
func changeAsModelled(t *testing.T, w impl.World, text string, codes map[int]int) impl.World {
	t.Helper()
	z, report := impl.Upgrade(w, text)
	wantZ, want := modelUpgrade(w, text)
	if !alike(report, want) || !alike(z, wantZ) {
		t.Fatalf("Upgrade(%s, %q) = %s, %+v; want %s, %+v", shown(w), text, shown(z), report, shown(wantZ), want)
	}
	codes[report.Code]++
	return z
}

// recordsOf tells each record of the heap: its type, its version and its values.
func recordsOf(w impl.World) string {
	var all []string
	for _, c := range w.Sys.Heap {
		if c.Kind != impl.CeRec {
			continue
		}
		text := c.S + " " + impl.Dec(c.A)
		for _, v := range c.Vals {
			text += " " + impl.Text(w.Sys.Heap, v)
		}
		all = append(all, text)
	}
	return strings.Join(all, ", ")
}

func wantRecords(t *testing.T, what string, w impl.World, want string) {
	t.Helper()
	if now := recordsOf(w); now != want {
		t.Errorf("%s: records are %s; want %s", what, now, want)
	}
}

// A record stays in its cell, and whoever has it has what it is now.
func TestRecordsCarriedOver(t *testing.T) {
	w := worldOf(t, "(library aa) (export p x) (record pt 1) (define p (make pt 5)) (define (x r) (field pt 0 r))")
	w = linked(w, "aa")
	w = posted(t, w, "((lambda (f r) (cons (f r) r)) x p)", 8)
	z := wantChange(t, w, "(library aa) (export q) (record pt 2) (define q 1) (convert pt (lambda (r) (cons (field pt 0 r) (cons 7 '()))))", "aa")
	wantStanding(t, z, "aa 2 2")
	wantRecords(t, "one", z, "aa:pt 2 5 7")
	if c := z.Sys.Heap[0]; !alike(c, recCell("aa:pt", 2, numVal(5), numVal(7))) {
		t.Error("cell 0 is", shown(c))
	}
	if v := z.Sys.Insts[1].Vals[0]; v != recVal(0) {
		t.Error("what the old version has is", v)
	}
	if z.Sys.Insts[2].Ver != 2 || !alike(z.Sys.Insts[2].Types, []impl.Type{{Name: "pt", Size: 2}}) {
		t.Error("the new version is", shown(z.Sys.Insts[2]))
	}
	// a task that had begun goes on in its version, with the record as it is now
	end := sliced(z, 0, impl.MaxSteps)
	wantAnswer(t, "the task", end.Sys, end.Tasks[0].Mac, "(5 . #aa:pt)")
	if p := end.Sys.Heap[end.Tasks[0].Mac.Val.N].Vals[1]; p != recVal(0) {
		t.Error("what the task has is", p)
	}
	// the unit of the converter and one for each record stand behind those of the Defs
	units := z.Sys.Units[len(w.Sys.Units):]
	if len(units) != 3 || units[1].Home != 2 || units[2].Home != 0 || !alike(units[1].Prog, z.Libs[0].Src.Convs[0].Prog) || !alike(units[2].Prog, meant(t, "(f0 a0)")) {
		t.Error("units", shown(units))
	}
}

func TestConvertersOfSeveralTypes(t *testing.T) {
	first := "(library aa) (record pt 2) (record ln 1) (record pt2 1) (record none 0) (define a (make pt 1 2)) (define b (make ln a)) (define c (make pt b 'c)) (define d (make pt2 4)) (define e (make none)) (define f (make ln 'f))"
	w := worldOf(t, first)
	wantRecords(t, "ahead", w, "aa:pt 1 1 2, aa:ln 1 #aa:pt, aa:pt 1 #aa:ln c, aa:pt2 1 4, aa:none 1, aa:ln 1 f")
	types := "(library aa) (record ln 3) (record pt 1) (record pt2 1) (record none 8) "
	pt := "(convert pt (lambda (r) (begin (print (field pt 1 r)) (cons (field pt 1 r) '()))))"
	ln := "(convert ln (lambda (r) (cons 'ln (cons (field ln 0 r) (cons (is pt (field ln 0 r)) '())))))"
	none := "(convert none (lambda (r) '(1 2 3 4 5 6 7 8)))"
	z := wantChange(t, w, types+pt, "aa")
	wantRecords(t, "one type", z, "aa:pt 2 2, aa:ln 1 #aa:pt, aa:pt 2 c, aa:pt2 1 4, aa:none 1, aa:ln 1 f")
	if !alike(z.Sys.Out, names("2 c")) {
		t.Error("not cell by cell", z.Sys.Out)
	}
	z = wantChange(t, w, types+pt+ln+none, "aa")
	wantRecords(t, "three types", z, "aa:pt 2 2, aa:ln 2 ln #aa:pt #t, aa:pt 2 c, aa:pt2 1 4, aa:none 2 1 2 3 4 5 6 7 8, aa:ln 2 ln f #f")
	z = wantChange(t, w, types+none+ln+pt, "aa")
	wantRecords(t, "three types the other way", z, "aa:pt 2 2, aa:ln 2 ln #aa:pt #t, aa:pt 2 c, aa:pt2 1 4, aa:none 2 1 2 3 4 5 6 7 8, aa:ln 2 ln f #f")
	// to nothing
	z = wantChange(t, w, "(library aa) (record pt 0) (convert pt (lambda (r) '()))", "aa")
	wantRecords(t, "no fields", z, "aa:pt 2, aa:ln 1 #aa:pt, aa:pt 2, aa:pt2 1 4, aa:none 1, aa:ln 1 f")
	// which one fails is told by its number
	bad := "(convert ln (lambda (r) 1))"
	wantRefusal(t, w, types+bad+pt+none, impl.UpConv, 0)
	wantRefusal(t, w, types+pt+bad+none, impl.UpConv, 1)
	wantRefusal(t, w, types+pt+none+bad, impl.UpConv, 2)
	wantRefusal(t, w, types+pt+none+bad+"(convert pt2 (car 1))", impl.UpConv, 2)
	wantRefusal(t, w, types+pt+none+"(convert pt2 (car 1))"+bad, impl.UpConv, 2)
	wantRefusal(t, w, types+pt+none+ln+"(convert pt2 (car 1))", impl.UpConv, 3)
	// the first one has carried a over when the second one sees it
	z = wantChange(t, w, types+pt+"(convert ln (lambda (r) (cons (if (is pt (field ln 0 r)) (field pt 0 (field ln 0 r)) 0) '(2 3))))", "aa")
	wantRecords(t, "one behind the other", z, "aa:pt 2 2, aa:ln 2 2 2 3, aa:pt 2 c, aa:pt2 1 4, aa:none 1, aa:ln 2 0 2 3")
	wantRefusal(t, w, types+pt+"(convert ln (lambda (r) (cons (field pt 1 (field ln 0 r)) '(2 3))))", impl.UpConv, 1)
}

// All that is older is carried over, and nothing that is of the new version already.
func TestRecordsOfOlderVersions(t *testing.T) {
	w := worldOf(t, "(library aa) (record pt 1) (define p (make pt 1))", "(library aa) (record pt 2) (define p (make pt 2 2))", "(library bb) (record pt 1) (define p (make pt 'b))", "(library aa) (record pt 3) (define p (make pt 3 3 3))")
	wantRecords(t, "ahead", w, "aa:pt 1 1, aa:pt 2 2 2, bb:pt 1 b, aa:pt 3 3 3 3")
	z := wantChange(t, w, "(library aa) (record pt 1) (define p (make pt 4)) (convert pt (lambda (r) (cons (cons (field pt 0 r) 'old) '())))", "aa")
	wantRecords(t, "all", z, "aa:pt 4 (1 . old), aa:pt 4 (2 . old), bb:pt 1 b, aa:pt 4 (3 . old), aa:pt 4 4")
	// once more
	z = wantChange(t, z, "(library aa) (record pt 2) (convert pt (lambda (r) (cons 5 (cons (field pt 0 r) '()))))", "aa")
	wantRecords(t, "once more", z, "aa:pt 5 5 (1 . old), aa:pt 5 5 (2 . old), bb:pt 1 b, aa:pt 5 5 (3 . old), aa:pt 5 5 4")
	// by hand: the version counts, wherever it comes from
	z = worldOf(t, "(library aa)", "(library aa)", "(library aa)")
	z.Sys.Heap = []impl.Cell{recCell("aa:pt", 0), recCell("aa:pt", 3, nilVal()), recCell("aa:pt", 4, nilVal()), recCell("aa:pt", 5, nilVal()), recCell("aa:pt", 1000, nilVal()), recCell("aa:p", 1), recCell("a:pt", 1), recCell("aa:pt2", 1), recCell("aa:", 1), recCell("pt", 1), recCell(":pt", 1), recCell("aa:pt", 2, recVal(8), recVal(9))}
	z = wantChange(t, z, "(library aa) (record pt 1) (convert pt (lambda (r) '(9)))", "aa")
	wantRecords(t, "by hand", z, "aa:pt 4 9, aa:pt 4 9, aa:pt 4 (), aa:pt 5 (), aa:pt 1000 (), aa:p 1, a:pt 1, aa:pt2 1, aa: 1, pt 1, :pt 1, aa:pt 4 9")
}

// Of another library's type of the same name nothing is carried over, nor of those
// that are made anew because they need this one.
func TestRecordsOfOthers(t *testing.T) {
	bb := "(library bb) (import aa) (export q) (record pt 1) (define q (make pt 'b)) (convert pt (lambda (r) (cons (cons 'again (field pt 0 r)) '())))"
	w := worldOf(t, "(library aa) (export p) (record pt 1) (define p (make pt 'a))", bb, "(library cc) (record pt 1) (define q (make pt 'c))")
	wantRecords(t, "ahead", w, "aa:pt 1 a, bb:pt 1 b, cc:pt 1 c")
	aa := "(library aa) (export p) (record pt 2) (define p 1) (convert pt (lambda (r) (cons (field pt 0 r) '(2))))"
	z := wantChange(t, w, aa, "aa bb")
	wantRecords(t, "aa", z, "aa:pt 2 a 2, bb:pt 1 b, cc:pt 1 c, bb:pt 2 b")
	z = wantChange(t, z, bb, "bb")
	wantRecords(t, "bb", z, "aa:pt 2 a 2, bb:pt 3 (again . b), cc:pt 1 c, bb:pt 3 (again . b), bb:pt 3 b")
	// one of another library is none for field, so that such a converter fails
	wantRefusal(t, w, "(library aa) (export p) (record pt 1) (define p 1) (convert pt (lambda (r) (cons (field qt 0 r) '())))", impl.UpConv, 0)
	// a converter has what its library imports
	z = wantChange(t, w, "(library bb) (import aa) (record pt 1) (define k 7) (convert pt (lambda (r) (cons (cons p k) '())))", "bb")
	wantRecords(t, "imported", z, "aa:pt 1 a, bb:pt 2 (#aa:pt . 7), cc:pt 1 c")
	// and nothing else, nor what the session has
	w.Sys.Insts[0].Names, w.Sys.Insts[0].Vals = names("mine"), vals(numVal(1))
	wantRefusal(t, w, "(library bb) (import aa) (record pt 1) (convert pt (lambda (r) (cons mine '())))", impl.UpConv, 0)
	wantRefusal(t, w, "(library bb) (import aa) (record pt 1) (convert pt (lambda (r) (cons a0 '())))", impl.UpConv, 0)
}

// What a converter makes itself is of the new version; it stands behind all others
// and is not carried over, also where an old function made it.
func TestConvertersThatMakeRecords(t *testing.T) {
	w := worldOf(t, "(library aa) (record pt 1) (define (mk x) (make pt x)) (define p (mk mk)) (define q (mk mk))")
	z := wantChange(t, w, "(library aa) (record pt 2) (convert pt (lambda (r) (cons (make pt 1 2) (cons 3 '()))))", "aa")
	wantRecords(t, "new ones", z, "aa:pt 2 #aa:pt 3, aa:pt 2 #aa:pt 3, aa:pt 2 1 2, aa:pt 2 1 2")
	z = wantChange(t, w, "(library aa) (record pt 2) (convert pt (lambda (r) (cons ((field pt 0 r) 'old) (cons 3 '()))))", "aa")
	wantRecords(t, "old ones", z, "aa:pt 2 #aa:pt 3, aa:pt 2 #aa:pt 3, aa:pt 1 old, aa:pt 1 old")
	// what its Prog makes is there when records are looked for
	z = wantChange(t, w, "(library aa) (record pt 2) (convert pt (begin (make pt 8 9) (lambda (r) '(1 2))))", "aa")
	wantRecords(t, "of the Prog", z, "aa:pt 2 1 2, aa:pt 2 1 2, aa:pt 2 8 9")
	w = worldOf(t, "(library kk) (export box put) (define box 0) (define (put x) (set! box x))", "(library aa) (import kk) (record pt 1) (define (mk x) (make pt x)) (define p (put mk))")
	z = wantChange(t, w, "(library aa) (import kk) (record pt 2) (convert pt (begin (box 'old) (lambda (r) (cons (field pt 0 r) '(2)))))", "aa")
	wantRecords(t, "of the Prog, by an old function", z, "aa:pt 2 old 2")
	// what one converter makes is there for the next one
	w = worldOf(t, "(library aa) (record pt 1) (record ln 1) (define (mk x) (make ln x)) (define p (make pt mk))")
	z = wantChange(t, w, "(library aa) (record pt 1) (record ln 1) (convert pt (lambda (r) (cons ((field pt 0 r) 'old) '()))) (convert ln (lambda (r) (cons (cons 'now (field ln 0 r)) '())))", "aa")
	wantRecords(t, "of an earlier converter", z, "aa:pt 2 #aa:ln, aa:ln 2 (now . old)")
	z = wantChange(t, w, "(library aa) (record pt 1) (record ln 1) (convert ln (lambda (r) (cons (cons 'now (field ln 0 r)) '()))) (convert pt (lambda (r) (cons ((field pt 0 r) 'old) '())))", "aa")
	wantRecords(t, "of a later converter", z, "aa:pt 2 #aa:ln, aa:ln 1 old")
}

// The session's Links are led on when all records are carried over.
func TestConvertersComeAheadOfLinks(t *testing.T) {
	w := linked(worldOf(t, "(library aa) (export base mk) (record pt 1) (define base 7) (define (mk x) (make pt x))"), "aa")
	w = posted(t, w, "(mk (lambda () base))", impl.MaxSteps)
	z := wantChange(t, w, "(library aa) (export base) (record pt 1) (define base 70) (convert pt (lambda (r) (cons (cons base ((field pt 0 r))) '())))", "aa")
	wantRecords(t, "a function of the session", z, "aa:pt 2 (70 . 7)")
}

// A converter that has nothing to carry over is run all the same, and may tell what it will.
func TestConvertersWithNothingToDo(t *testing.T) {
	for _, w := range []impl.World{impl.NewWorld(), worldOf(t, "(library aa) (record pt 2)"), worldOf(t, "(library bb) (record pt 2) (define p (make pt 1 2))")} {
		z := wantChange(t, w, "(library aa) (record pt 2) (convert pt (lambda (r) 1))", "aa")
		if cells := len(w.Sys.Heap); len(z.Sys.Heap) != cells+1 || !alike(z.Sys.Heap[:cells], w.Sys.Heap) || len(z.Sys.Units) != len(w.Sys.Units)+1 {
			t.Error("something is changed", shown(z.Sys))
		}
		for _, form := range []string{"1", "'(1 2)", "#f", "car1", "(make pt 1 2)"} {
			text := "(library aa) (record pt 2) (define car1 1) (convert pt " + form + ")"
			wantChange(t, w, text, "aa")
		}
		z = wantChange(t, w, "(library aa) (record pt 2) (record q 1) (define v 1) (convert pt (begin (print 'ran) (set! v 2) 1)) (convert q (print v))", "aa")
		if !alike(z.Sys.Out, names("ran 2")) {
			t.Error("it is not run", z.Sys.Out)
		}
		wantRefusal(t, w, "(library aa) (record pt 2) (convert pt nobody)", impl.UpConv, 0)
		wantRefusal(t, w, "(library aa) (record pt 2) (record q 1) (convert q 1) (convert pt (error 1))", impl.UpConv, 1)
	}
}

// Where one fails nothing is left, of what was run and carried over ahead of that.
func TestConvertersThatFail(t *testing.T) {
	w := worldOf(t, "(library aa) (export v p) (record pt 1) (record ln 1) (define v 1) (define p (make pt 1)) (define q (make pt 2)) (define r (make ln 3))")
	w = posted(t, linked(w, "aa"), "(cons v p)", 3)
	head := "(library aa) (export v) (record pt 2) (record ln 1) (define v 1) (define loop 0) (convert ln (lambda (r) (begin (print r) (set! v 5) '(9)))) "
	long := "((lambda (f) (f f)) (lambda (f) (f f)))"
	deep := "((lambda (f) (f f)) (lambda (f) (+ 1 (f f))))"
	for _, form := range []string{"nobody", "(car 1)", "(* 1000000 2)", "(error 'e)", "((lambda () 1) 1)", deep, long, "(f r)", "(error '(1 2))"} {
		wantRefusal(t, w, head+"(convert pt "+form+")", impl.UpConv, 1)
		wantRefusal(t, w, head+"(convert pt (lambda (r) "+form+"))", impl.UpConv, 1)
		wantRefusal(t, w, head+"(convert pt (lambda (r) (if (= (field pt 0 r) 1) '(1 2) "+form+")))", impl.UpConv, 1)
	}
	for _, form := range []string{"1", "#f", "'a", "(make pt 1 2)", "r", "(lambda () 1)", "'()", "'(1)", "'(1 2 3)", "(cons 1 2)", "(cons 1 (cons 2 3))", "(cons 1 (cons 2 r))", "'(1 2 3 4 5 6 7 8 9)"} {
		wantRefusal(t, w, head+"(convert pt (lambda (r) "+form+"))", impl.UpConv, 1)
		wantRefusal(t, w, head+"(convert pt (lambda (r) (if (= (field pt 0 r) 1) '(1 2) "+form+")))", impl.UpConv, 1)
	}
	// what is no function of one parameter
	for _, form := range []string{"1", "'a", "'(1 2)", "#f", "(make pt 1 2)", "(lambda () '(1 2))", "(lambda (r s) '(1 2))"} {
		wantRefusal(t, w, head+"(convert pt "+form+")", impl.UpConv, 1)
	}
	z := wantChange(t, w, head+"(convert pt (lambda (r) '(1 2)))", "aa")
	wantRecords(t, "right", z, "aa:pt 2 1 2, aa:pt 2 1 2, aa:ln 2 9")
	if v := z.Sys.Insts[2].Vals[0]; v != numVal(5) || !alike(z.Sys.Out, []string{"#aa:ln"}) {
		t.Error("what a converter did is", v, z.Sys.Out)
	}
	// what was said ahead of it counts first
	wantRefusal(t, w, "(library aa) (record pt 2) (define v nobody) (convert pt 1)", impl.UpMake, impl.EnUnbound)
	wantRefusal(t, w, "(library aa) (import zz) (record pt 2) (convert pt (car 1))", impl.UpMissing, 0)
	wantRefusal(t, w, "(library aa) (record pt 2) (convert ln (car 1))", impl.UpParse, impl.LbExport)
	dep := upgraded(t, w, "(library bb) (import aa) (define w v)")
	wantRefusal(t, dep, "(library aa) (record pt 2) (convert pt (car 1))", impl.UpMake, impl.EnUnbound)
}

// Each run has DefFuel steps, that of the Prog and that of each record.
func TestFuelOfConverters(t *testing.T) {
	w := worldOf(t, "(library aa) (record pt 1) (define p (make pt 1)) (define q (make pt 1))")
	for _, steps := range []int{impl.DefFuel - 1, impl.DefFuel, impl.DefFuel + 1} {
		code := impl.UpOk
		if steps > impl.DefFuel {
			code = impl.UpConv
		}
		// the call itself, its three parts and what hands on the value take some
		call := "(lambda (r) (begin " + lasting(t, steps-8) + " '()))"
		prog := "(begin " + lasting(t, steps-3) + " (lambda (r) '()))"
		taken := map[string]int{"the call": 0, "the Prog": 0}
		for what, conv := range map[string]string{"the call": call, "the Prog": prog} {
			text := "(library aa) (record pt 0) (define loop 0) (convert pt " + conv + ")"
			z := wantChangeOr(t, w, text, code)
			y, at, end := impl.Make(w.Sys, source(t, text), 2, nil)
			y, m := impl.Eval(y, at, source(t, text).Convs[0].Prog, impl.MaxSteps)
			if end != impl.EnDone || m.End != impl.EnDone {
				t.Fatal("this test", end, shown(m))
			}
			count := func(run func(fuel int) impl.Machine) int {
				n := 0
				for run(n).Mode != impl.MoEnd {
					n++
				}
				return n
			}
			if what == "the call" {
				taken[what] = count(func(fuel int) impl.Machine { _, n := impl.Apply(y, m.Val, vals(recVal(0)), fuel); return n })
			} else {
				taken[what] = count(func(fuel int) impl.Machine {
					_, n := impl.Eval(y, at, source(t, text).Convs[0].Prog, fuel)
					return n
				})
			}
			if taken[what] != steps {
				t.Fatalf("%s takes %d steps, not %d", what, taken[what], steps)
			}
			if code == impl.UpOk {
				wantRecords(t, what, z, "aa:pt 2, aa:pt 2")
			}
		}
	}
}

// wantChangeOr asks for a change of aa alone, or for its refusal by converter 0.
func wantChangeOr(t *testing.T, w impl.World, text string, code int) impl.World {
	t.Helper()
	if code == impl.UpOk {
		return wantChange(t, w, text, "aa")
	}
	wantRefusal(t, w, text, code, 0)
	return w
}

// Each Def, each converter and each record that is carried over takes a unit.
func TestUnitsOfConverters(t *testing.T) {
	w := worldOf(t, "(library aa) (record pt 1) (record ln 1) (define p (make pt 1)) (define q (make pt 2)) (define r (make ln 3))")
	text := "(library aa) (record pt 1) (record ln 1) (define v 1) (convert pt (lambda (r) '(7))) (convert ln (lambda (r) '(8)))"
	bad := strings.ReplaceAll(text, "'(8)", "1")
	first := strings.ReplaceAll(text, "'(7)", "(field pt 1 r)")
	for room := range 9 {
		z := deepWorld(w)
		for len(z.Sys.Units) < impl.MaxUnits-room {
			z.Sys.Units = append(z.Sys.Units, impl.Unit{Home: 0, Prog: meant(t, "1")})
		}
		switch {
		case room == 0:
			wantRefusal(t, z, text, impl.UpMake, impl.EnFull)
			wantRefusal(t, z, bad, impl.UpMake, impl.EnFull)
		case room < 6:
			wantRefusal(t, z, text, impl.UpFull, 0)
			wantRefusal(t, z, bad, impl.UpFull, 0)
		default:
			after := wantChange(t, z, text, "aa")
			wantRecords(t, "room for all", after, "aa:pt 2 7, aa:pt 2 7, aa:ln 2 8")
			if len(after.Sys.Units) != impl.MaxUnits-room+6 {
				t.Error("units", len(after.Sys.Units))
			}
			wantRefusal(t, z, bad, impl.UpConv, 1)
		}
		// what fails ahead of that counts
		if room > 2 {
			wantRefusal(t, z, first, impl.UpConv, 0)
		}
	}
	// more records than there are units
	many := deepWorld(w)
	many.Sys.Heap = append(many.Sys.Heap, slices.Repeat([]impl.Cell{recCell("aa:ln", 1)}, 60)...)
	wantRefusal(t, many, text, impl.UpFull, 0)
	wantChange(t, many, "(library aa) (record pt 1) (convert pt (lambda (r) '(7)))", "aa")
}

// A converter that finds no cell left fails as any run does.
func TestCellsOfConverters(t *testing.T) {
	text := "(library aa) (record pt 2) (convert pt (lambda (r) (cons (field pt 0 r) (cons 7 '()))))"
	for room := range 8 {
		w := worldOf(t, "(library aa) (record pt 1) (define p (make pt 1)) (define q (make pt 2))")
		w.Sys = filled(w.Sys, impl.MaxHeap-room)
		if room < 5 {
			wantRefusal(t, w, text, impl.UpConv, 0)
			continue
		}
		z := wantChange(t, w, text, "aa")
		wantRecords(t, "room for all", z, "aa:pt 2 1 7, aa:pt 2 2 7")
		if len(z.Sys.Heap) != impl.MaxHeap-room+5 {
			t.Error("cells", len(z.Sys.Heap))
		}
	}
}

// changing is what Upgrade is handed.
type changing struct {
	World impl.World
	Text  string
}

// Nothing is written into what is handed in, and nothing of it is in what is told.
func TestChangesLeaveWhatIsHandedIn(t *testing.T) {
	w := worldOf(t, "(library aa) (export v p) (record pt 1) (define v 1) (define p (make pt 'word)) (define q (make pt '(1 2))) (define (set x) (set! v x))", "(library bb) (import aa) (export w) (define w v)")
	w = posted(t, linked(linked(w, "aa"), "bb"), "(cons v p)", 3)
	head := "(library aa) (export v) (record pt 2) (define v 2) (convert pt "
	for i, text := range []string{
		head + "(lambda (r) (cons (field pt 0 r) (cons 'more '()))))", head + "(lambda (r) (begin (print r) (set! v r) '(1 (2)))))", head + "(lambda (r) (cons r (cons r '()))))",
		head + "(lambda (r) (if (pair? (field pt 0 r)) 1 '(1 2))))", head + "(car 1))", "(library aa)", "(library", "(library aa) (import bb)", "(library aa) (import zz)",
	} {
		given := roomyOf(changing{w, strings.Clone(text)})
		before := wholeOf(given)
		z, report := impl.Upgrade(given.World, given.Text)
		if (report.Code == impl.UpOk) != (i < 3) {
			t.Errorf("%s: %+v", text, report)
		}
		if !alike(wholeOf(given), before) {
			t.Errorf("%s: what is handed in is changed", text)
		}
		if !shareNone([]any{given}, []any{z, report}) {
			t.Errorf("%s: memory is shared", text)
		}
		if again, other := impl.Upgrade(w, text); !alike(again, z) || !alike(other, report) {
			t.Errorf("%s: the second time it is another world", text)
		}
	}
}

// carrying is a change of a library that has records, and mostly a converter of them.
func (m maker) carrying(lib string, imports []string) string {
	size := 1 + m.r.Intn(2)
	text := "(library " + lib + ") (export rec) (record pt " + impl.Dec(size) + ")"
	for _, name := range imports {
		if m.r.Intn(2) == 0 {
			text += " (import " + name + ")"
		}
	}
	record := "(make pt " + repeated(m.pick("1", "'a", "(lambda (x) (make pt "+repeated("x", size)+"))", "'(1 2)"), size) + ")"
	text += " (define rec " + m.pick(record, record, record, "(lambda () "+record+")", m.worth()) + ")"
	if m.r.Intn(4) > 0 {
		text += " (convert pt " + m.converter(size) + ")"
	}
	if m.r.Intn(4) == 0 {
		text += " (record ln 1) (define row (make ln 'row)) (convert ln (lambda (r) (cons (cons 'ln (field ln 0 r)) '())))"
	}
	return text
}

// converter is a form that mostly tells a function which makes a list of so many.
func (m maker) converter(size int) string {
	list := "'()"
	for range size {
		part := m.pick("(field pt 0 r)", "(field pt 0 r)", "r", "'new", "(print r)", "(lambda (x) r)", "rec", "(make pt "+repeated("r", size)+")", "(if (pair? (field pt 0 r)) 1 (cons 1 r))")
		list = "(cons " + part + " " + list + ")"
	}
	switch m.r.Intn(25) {
	case 0:
		return m.worth()
	case 1:
		return "(lambda (r) " + m.worth() + ")"
	case 2:
		return "(lambda (r) (cdr " + list + "))"
	case 3:
		return "(lambda (r) (cons 1 " + list + "))"
	case 4:
		return "(lambda (r) (cons ((field pt 0 r) 1) (cdr " + list + ")))"
	case 5, 6:
		return "(begin (print 'now) (lambda (r) " + list + "))"
	}
	return "(lambda (r) " + list + ")"
}

// Worlds that are changed again and again, each change held against the model.
func TestConvertersByChance(t *testing.T) {
	t.Parallel()
	m := maker{rand.New(rand.NewSource(180))}
	codes := map[int]int{}
	carried := 0
	for range 150 {
		w := impl.NewWorld()
		for range 9 {
			lib, imports := "aa", []string(nil)
			if m.r.Intn(2) == 0 && slices.Contains(libsOf(w), "aa") {
				lib, imports = "bb", names("aa")
			}
			text := m.carrying(lib, imports)
			z := changeAsModelled(t, w, text, codes)
			if !impl.WorldOk(z) {
				t.Fatal("it is not right any more", shown(z))
			}
			for i, c := range w.Sys.Heap {
				if c.Kind == impl.CeRec && z.Sys.Heap[i].A != c.A {
					carried++
				}
			}
			w = z
		}
	}
	if carried < 200 || codes[impl.UpOk] < 300 || codes[impl.UpConv] < 50 {
		t.Error("one sort was hardly there", carried, codes)
	}
}

// libsOf are the Names of the libraries of w.
func libsOf(w impl.World) []string {
	var all []string
	for _, e := range w.Libs {
		all = append(all, e.Src.Name)
	}
	return all
}
