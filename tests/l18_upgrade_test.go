package tests

import (
	"math/rand"
	"slices"
	"strings"
	"testing"

	"loop.example/g00765/impl"
)

// wantRefusal asks that nothing has become of a change.
func wantRefusal(t *testing.T, w impl.World, text string, code, detail int) {
	t.Helper()
	z, report := impl.Upgrade(w, text)
	if want := (impl.Report{Code: code, Detail: detail}); !alike(report, want) || !alike(z, w) {
		t.Errorf("Upgrade(.., %q) = %s, %+v; want it as it is, %+v", text, shown(z), report, want)
	}
	changeAsModelled(t, w, text, map[int]int{})
}

// wantChange asks for a change after which these were made, and tells the world.
func wantChange(t *testing.T, w impl.World, text string, made string) impl.World {
	t.Helper()
	z, report := impl.Upgrade(w, text)
	if want := (impl.Report{Code: impl.UpOk, Made: names(made)}); !alike(report, want) {
		t.Fatalf("Upgrade(.., %q): %+v; want %+v", text, report, want)
	}
	wantWorld(t, text, z, true)
	if !alike(z.Tasks, w.Tasks) || z.Next != w.Next {
		t.Errorf("Upgrade(.., %q) changes tasks", text)
	}
	return changeAsModelled(t, w, text, map[int]int{})
}

// standing tells each library with its version and its Inst.
func standing(w impl.World) string {
	var all []string
	for _, e := range w.Libs {
		all = append(all, e.Src.Name+" "+impl.Dec(e.Ver)+" "+impl.Dec(e.Inst))
	}
	return strings.Join(all, ", ")
}

func wantStanding(t *testing.T, w impl.World, want string) {
	t.Helper()
	if now := standing(w); now != want {
		t.Errorf("libraries are %s; want %s", now, want)
	}
}

func TestNewLibraries(t *testing.T) {
	w := wantChange(t, impl.NewWorld(), "(library mm) (export v) (define v 1)", "mm")
	wantStanding(t, w, "mm 1 1")
	if s := source(t, "(library mm) (export v) (define v 1)"); !alike(w.Libs[0].Src, s) {
		t.Error("its source is", shown(w.Libs[0].Src))
	}
	w = wantChange(t, w, "(library zz)", "zz")
	w = wantChange(t, w, "(library aa) (import zz mm) (define w (+ v 1))", "aa")
	wantStanding(t, w, "aa 1 3, mm 1 1, zz 1 2")
	if in := w.Sys.Insts[3]; !alike(in.Links, []impl.Link{link("v", 1, "v")}) || !alike(in.Vals, vals(numVal(2))) {
		t.Error("what imports has", shown(in))
	}
}

// Those that need the changed one are made behind it, in Order, all others stay.
func TestLibrariesMadeAnew(t *testing.T) {
	w := worldOf(t, aBase, aMiddle, aTop, "(library dd)")
	z := wantChange(t, w, strings.ReplaceAll(aBase, "7", "70"), "aa bb cc")
	wantStanding(t, z, "aa 2 5, bb 2 6, cc 2 7, dd 1 4")
	if !alike(z.Sys.Insts[:5], w.Sys.Insts) {
		t.Error("what was there is changed")
	}
	for at, want := range map[int][]impl.Link{
		6: {link("base", 5, "base"), link("bump", 5, "bump")},
		7: {link("pt?", 6, "pt?"), link("mk", 6, "mk"), link("base", 5, "base"), link("bump", 5, "bump")},
	} {
		if !alike(z.Sys.Insts[at].Links, want) {
			t.Errorf("Inst %d has the Links %v; want %v", at, z.Sys.Insts[at].Links, want)
		}
	}
	z = wantChange(t, w, aTop, "cc")
	wantStanding(t, z, "aa 1 1, bb 1 2, cc 2 5, dd 1 4")
	z = wantChange(t, w, aMiddle, "bb cc")
	wantStanding(t, z, "aa 1 1, bb 2 5, cc 2 6, dd 1 4")
	z = wantChange(t, z, "(library dd) (import cc)", "dd")
	z = wantChange(t, z, aMiddle, "bb cc dd")
	wantStanding(t, z, "aa 1 1, bb 3 8, cc 3 9, dd 3 10")
	// what is imported no more makes nothing anew any more
	z = wantChange(t, worldOf(t, aBase, aMiddle, aTop), "(library cc) (import aa)", "cc")
	z = wantChange(t, z, aMiddle, "bb")
	// in Order, not by Name
	z = worldOf(t, "(library zz)", "(library aa) (import zz)", "(library mm) (import aa)", "(library bb) (import mm zz)")
	wantStanding(t, wantChange(t, z, "(library zz)", "zz aa mm bb"), "aa 2 6, bb 2 8, mm 2 7, zz 2 5")
}

func TestLinksOfTheSession(t *testing.T) {
	w := worldOf(t, aBase, aMiddle, "(library cc) (export base) (define base 1)")
	w.Sys.Insts[0].Links = []impl.Link{link("base", 1, "base"), link("again", 1, "base"), link("mk", 2, "mk"), link("one", 3, "base"), link("own", 0, "own"), link("up", 1, "bump")}
	z := wantChange(t, w, "(library aa) (export base) (define base 8)", "aa bb")
	want := []impl.Link{link("base", 4, "base"), link("again", 4, "base"), link("mk", 5, "mk"), link("one", 3, "base"), link("own", 0, "own")}
	if !alike(z.Sys.Insts[0].Links, want) {
		t.Errorf("Links are %v; want %v", z.Sys.Insts[0].Links, want)
	}
	// one to a version that is none of Libs stays
	z.Sys.Insts[0].Links = append(z.Sys.Insts[0].Links, link("old", 1, "base"), link("older", 1, "bump"))
	z = wantChange(t, z, "(library aa) (export bump base) (define bump 9) (define base 9)", "aa bb")
	want = []impl.Link{link("base", 6, "base"), link("again", 6, "base"), link("mk", 7, "mk"), link("one", 3, "base"), link("own", 0, "own"), link("old", 1, "base"), link("older", 1, "bump")}
	if !alike(z.Sys.Insts[0].Links, want) {
		t.Errorf("Links are %v; want %v", z.Sys.Insts[0].Links, want)
	}
}

func TestChangesThatAreRefused(t *testing.T) {
	w := worldOf(t, aBase, aMiddle, aTop)
	for _, z := range []impl.World{impl.NewWorld(), w, fullWorld(t), byHand(t)} {
		wantRefusal(t, z, "(library", impl.UpParse, impl.LbRead)
		wantRefusal(t, z, "", impl.UpParse, impl.LbForm)
		wantRefusal(t, z, "(library zz) (library zz)", impl.UpParse, impl.LbForm)
		wantRefusal(t, z, "(library zz) (import zz)", impl.UpParse, impl.LbDup)
		wantRefusal(t, z, "(library zz) (export z)", impl.UpParse, impl.LbExport)
		wantRefusal(t, z, "(library zz) (import yy)", impl.UpMissing, 0)
		wantRefusal(t, z, "(library zz) (define z nobody)", impl.UpMake, impl.EnUnbound)
		wantRefusal(t, z, "(library zz) (define z (begin (print 1) (cons 1 2))) (define y (error 1))", impl.UpMake, impl.EnUser)
		wantRefusal(t, z, "(library zz) (define z ((lambda (x) (x x)) (lambda (x) (x x))))", impl.UpMake, impl.EnFull)
	}
	wantRefusal(t, w, "(library aa) (import cc)", impl.UpCycle, 0)
	wantRefusal(t, w, "(library aa) (import bb)", impl.UpCycle, 0)
	wantRefusal(t, w, "(library aa) (import bb zz)", impl.UpMissing, 0)
	// one that needs it fails, as what it takes is not there any more
	wantRefusal(t, w, "(library aa)", impl.UpMake, impl.EnUnbound)
	wantRefusal(t, w, "(library aa) (export base) (define base (lambda () 1)) (define bump (car 1))", impl.UpMake, impl.EnType)
	wrong := byHand(t)
	wrong.Next = 0
	for _, z := range []impl.World{{}, wrong, manyLibs(t, impl.MaxLibs+1)} {
		got, report := impl.Upgrade(z, "(library zz)")
		if !alike(got, impl.World{}) || !alike(report, impl.Report{Code: impl.UpParse}) {
			t.Errorf("Upgrade of a world that is not right = %s, %+v", shown(got), report)
		}
	}
}

func TestChangesThatAreFull(t *testing.T) {
	w := manyLibs(t, impl.MaxLibs)
	wantRefusal(t, w, "(library zz)", impl.UpFull, 0)
	wantRefusal(t, w, "(library zz) (import yy)", impl.UpFull, 0)
	wantRefusal(t, w, "(library", impl.UpParse, impl.LbRead)
	wantChange(t, w, "(library x5)", "x5")
	wantChange(t, manyLibs(t, impl.MaxLibs-1), "(library zz)", "zz")
	// the highest version
	for _, c := range []struct{ aa, bb, want int }{{999, 5, impl.UpOk}, {5, 999, impl.UpOk}, {1000, 5, impl.UpFull}, {5, 1000, impl.UpFull}, {1000, 1000, impl.UpFull}} {
		z := worldOf(t, aBase, aMiddle, "(library zz)")
		z.Libs[0].Ver, z.Sys.Insts[1].Ver = c.aa, c.aa
		z.Libs[1].Ver, z.Sys.Insts[2].Ver = c.bb, c.bb
		z.Libs[2].Ver, z.Sys.Insts[3].Ver = 1000, 1000
		if c.want == impl.UpOk {
			z = wantChange(t, z, aBase, "aa bb")
			wantStanding(t, z, "aa "+impl.Dec(c.aa+1)+" 4, bb "+impl.Dec(c.bb+1)+" 5, zz 1000 3")
			continue
		}
		wantRefusal(t, z, aBase, impl.UpFull, 0)
		wantRefusal(t, z, "(library aa) (define v nobody)", impl.UpFull, 0)
	}
	// no Inst is left for the second one
	z := worldOf(t, "(library aa)", "(library bb) (import aa)")
	for len(z.Sys.Insts) < impl.MaxInsts-1 {
		z.Sys.Insts = append(z.Sys.Insts, impl.Inst{Lib: "aa", Ver: 9})
	}
	wantRefusal(t, z, "(library aa)", impl.UpMake, impl.EnFull)
	wantStanding(t, wantChange(t, z, "(library bb)", "bb"), "aa 1 1, bb 2 11")
}

// plan is what is known of a change ahead of its first step.
type plan struct {
	src   impl.Src
	libs  map[string]impl.Ent // with that source among them
	order []string
	made  []string
}

// modelPlan says in the document's own words what would be made of a right world,
// or why nothing would.
func modelPlan(w impl.World, text string) (plan, impl.Report) {
	s, code := impl.ParseLib(text)
	if code != impl.LbOk {
		return plan{}, impl.Report{Code: impl.UpParse, Detail: code}
	}
	libs := map[string]impl.Ent{}
	for _, e := range w.Libs {
		libs[e.Src.Name] = e
	}
	libs[s.Name] = impl.Ent{Src: s, Ver: libs[s.Name].Ver, Inst: libs[s.Name].Inst}
	if len(libs) > 6 {
		return plan{}, impl.Report{Code: impl.UpFull}
	}
	for _, name := range s.Imports {
		if _, is := libs[name]; !is {
			return plan{}, impl.Report{Code: impl.UpMissing}
		}
	}
	var all []impl.Src
	for _, e := range libs {
		all = append(all, e.Src)
	}
	order, ok := modelOrder(all)
	if !ok {
		return plan{}, impl.Report{Code: impl.UpCycle}
	}
	var made []string
	for _, name := range order {
		if name == s.Name || slices.Contains(modelNeeds(all, name), s.Name) {
			made = append(made, name)
			if libs[name].Ver == 1000 {
				return plan{}, impl.Report{Code: impl.UpFull}
			}
		}
	}
	return plan{s, libs, order, made}, impl.Report{}
}

// modelUpgrade says it likewise.
func modelUpgrade(w impl.World, text string) (impl.World, impl.Report) {
	p, refused := modelPlan(w, text)
	if refused.Code != impl.UpOk {
		return w, refused
	}
	s, libs, order, made := p.src, p.libs, p.order, p.made
	z := deepWorld(w)
	for _, name := range made {
		e := libs[name]
		var needs []impl.Need
		for _, name := range e.Src.Imports {
			needs = append(needs, impl.Need{Inst: libs[name].Inst, Names: libs[name].Src.Exports})
		}
		y, at, code := modelMake(z.Sys, e.Src, e.Ver+1, needs)
		if code != impl.EnDone {
			return w, impl.Report{Code: impl.UpMake, Detail: code}
		}
		z.Sys = y
		libs[name] = impl.Ent{Src: e.Src, Ver: e.Ver + 1, Inst: at}
	}
	y, failed := modelConvert(z.Sys, s, libs[s.Name].Inst)
	if failed.Code != impl.UpOk {
		return w, failed
	}
	z.Sys = y
	var links []impl.Link
	for _, l := range z.Sys.Insts[0].Links {
		for _, e := range w.Libs {
			if l.Inst == e.Inst {
				now := libs[e.Src.Name]
				if l.Inst = now.Inst; !slices.Contains(now.Src.Exports, l.At) {
					l.Name = ""
				}
				break
			}
		}
		if l.Name != "" {
			links = append(links, l)
		}
	}
	z.Sys.Insts[0].Links, z.Libs = links, nil
	for _, name := range slices.Sorted(slices.Values(order)) {
		z.Libs = append(z.Libs, libs[name])
	}
	return z, impl.Report{Made: made}
}

// modelConvert is what the converters of s do, of which that Inst is the new one.
func modelConvert(y impl.Sys, s impl.Src, at int) (impl.Sys, impl.Report) {
	for i, conv := range s.Convs {
		failed := impl.Report{Code: impl.UpConv, Detail: i}
		if len(y.Units) == 60 {
			return y, impl.Report{Code: impl.UpFull}
		}
		z, m := impl.Eval(y, at, conv.Prog, 500)
		if m.Mode != impl.MoEnd || m.End != impl.EnDone {
			return y, failed
		}
		f := m.Val
		y = z
		for k := range len(y.Heap) {
			c := y.Heap[k]
			if c.Kind != impl.CeRec || c.S != s.Name+":"+conv.Name || c.A >= y.Insts[at].Ver {
				continue
			}
			if len(y.Units) == 60 {
				return y, impl.Report{Code: impl.UpFull}
			}
			z, m := modelApply(y, f, vals(recVal(k)), 500)
			if m.Mode != impl.MoEnd || m.End != impl.EnDone {
				return y, failed
			}
			list, ok := modelList(z.Heap, m.Val)
			for _, typ := range s.Types {
				ok = ok && (typ.Name != conv.Name || typ.Size == len(list))
			}
			if !ok {
				return y, failed
			}
			z.Heap[k].A, z.Heap[k].Vals = y.Insts[at].Ver, list
			y = z
		}
	}
	return y, impl.Report{}
}

// changeAsModelled is the world behind a change, which is held against the model,
// as is what was planned of it.
func changeAsModelled(t *testing.T, w impl.World, text string, codes map[int]int) impl.World {
	t.Helper()
	z, report := impl.Upgrade(w, text)
	wantZ, want := modelUpgrade(w, text)
	if !alike(report, want) || !alike(z, wantZ) {
		t.Fatalf("Upgrade(%s, %q) = %s, %+v; want %s, %+v", shown(w), text, shown(z), report, shown(wantZ), want)
	}
	p, refused := modelPlan(w, text)
	if made, code := impl.Plan(w, text); code != refused.Code || !alike(made, p.made) {
		t.Fatalf("Plan(%s, %q) = %v, %d; want %v, %d", shown(w), text, made, code, p.made, refused.Code)
	}
	codes[report.Code]++
	return z
}

// recordsOf tells each record of the heap: its type, its version and its values.
func recordsOf(w impl.World) string {
	var all []string
	for _, c := range w.Sys.Heap {
		if c.Kind != impl.CeRec {
			continue
		}
		text := c.S + " " + impl.Dec(c.A)
		for _, v := range c.Vals {
			text += " " + impl.Text(w.Sys.Heap, v)
		}
		all = append(all, text)
	}
	return strings.Join(all, ", ")
}

func wantRecords(t *testing.T, what string, w impl.World, want string) {
	t.Helper()
	if now := recordsOf(w); now != want {
		t.Errorf("%s: records are %s; want %s", what, now, want)
	}
}

// A record stays in its cell, and whoever has it has what it is now.
func TestRecordsCarriedOver(t *testing.T) {
	w := worldOf(t, "(library aa) (export p x) (record pt 1) (define p (make pt 5)) (define (x r) (field pt 0 r))")
	w = linked(w, "aa")
	w = posted(t, w, "((lambda (f r) (cons (f r) r)) x p)", 8)
	z := wantChange(t, w, "(library aa) (export q) (record pt 2) (define q 1) (convert pt (lambda (r) (cons (field pt 0 r) (cons 7 '()))))", "aa")
	wantStanding(t, z, "aa 2 2")
	wantRecords(t, "one", z, "aa:pt 2 5 7")
	if c := z.Sys.Heap[0]; !alike(c, recCell("aa:pt", 2, numVal(5), numVal(7))) {
		t.Error("cell 0 is", shown(c))
	}
	if v := z.Sys.Insts[1].Vals[0]; v != recVal(0) {
		t.Error("what the old version has is", v)
	}
	if z.Sys.Insts[2].Ver != 2 || !alike(z.Sys.Insts[2].Types, []impl.Type{{Name: "pt", Size: 2}}) {
		t.Error("the new version is", shown(z.Sys.Insts[2]))
	}
	// a task that had begun goes on in its version, with the record as it is now
	end := sliced(z, 0, impl.MaxSteps)
	wantAnswer(t, "the task", end.Sys, end.Tasks[0].Mac, "(5 . #aa:pt)")
	if p := end.Sys.Heap[end.Tasks[0].Mac.Val.N].Vals[1]; p != recVal(0) {
		t.Error("what the task has is", p)
	}
	// the unit of the converter and one for each record stand behind those of the Defs
	units := z.Sys.Units[len(w.Sys.Units):]
	if len(units) != 3 || units[1].Home != 2 || units[2].Home != 0 || !alike(units[1].Prog, z.Libs[0].Src.Convs[0].Prog) || !alike(units[2].Prog, meant(t, "(f0 a0)")) {
		t.Error("units", shown(units))
	}
}

func TestConvertersOfSeveralTypes(t *testing.T) {
	first := "(library aa) (record pt 2) (record ln 1) (record pt2 1) (record none 0) (define a (make pt 1 2)) (define b (make ln a)) (define c (make pt b 'c)) (define d (make pt2 4)) (define e (make none)) (define f (make ln 'f))"
	w := worldOf(t, first)
	wantRecords(t, "ahead", w, "aa:pt 1 1 2, aa:ln 1 #aa:pt, aa:pt 1 #aa:ln c, aa:pt2 1 4, aa:none 1, aa:ln 1 f")
	types := "(library aa) (record ln 3) (record pt 1) (record pt2 1) (record none 8) "
	pt := "(convert pt (lambda (r) (begin (print (field pt 1 r)) (cons (field pt 1 r) '()))))"
	ln := "(convert ln (lambda (r) (cons 'ln (cons (field ln 0 r) (cons (is pt (field ln 0 r)) '())))))"
	none := "(convert none (lambda (r) '(1 2 3 4 5 6 7 8)))"
	z := wantChange(t, w, types+pt, "aa")
	wantRecords(t, "one type", z, "aa:pt 2 2, aa:ln 1 #aa:pt, aa:pt 2 c, aa:pt2 1 4, aa:none 1, aa:ln 1 f")
	if !alike(z.Sys.Out, names("2 c")) {
		t.Error("not cell by cell", z.Sys.Out)
	}
	z = wantChange(t, w, types+pt+ln+none, "aa")
	wantRecords(t, "three types", z, "aa:pt 2 2, aa:ln 2 ln #aa:pt #t, aa:pt 2 c, aa:pt2 1 4, aa:none 2 1 2 3 4 5 6 7 8, aa:ln 2 ln f #f")
	z = wantChange(t, w, types+none+ln+pt, "aa")
	wantRecords(t, "three types the other way", z, "aa:pt 2 2, aa:ln 2 ln #aa:pt #t, aa:pt 2 c, aa:pt2 1 4, aa:none 2 1 2 3 4 5 6 7 8, aa:ln 2 ln f #f")
	// to nothing
	z = wantChange(t, w, "(library aa) (record pt 0) (convert pt (lambda (r) '()))", "aa")
	wantRecords(t, "no fields", z, "aa:pt 2, aa:ln 1 #aa:pt, aa:pt 2, aa:pt2 1 4, aa:none 1, aa:ln 1 f")
	// which one fails is told by its number
	bad := "(convert ln (lambda (r) 1))"
	wantRefusal(t, w, types+bad+pt+none, impl.UpConv, 0)
	wantRefusal(t, w, types+pt+bad+none, impl.UpConv, 1)
	wantRefusal(t, w, types+pt+none+bad, impl.UpConv, 2)
	wantRefusal(t, w, types+pt+none+bad+"(convert pt2 (car 1))", impl.UpConv, 2)
	wantRefusal(t, w, types+pt+none+"(convert pt2 (car 1))"+bad, impl.UpConv, 2)
	wantRefusal(t, w, types+pt+none+ln+"(convert pt2 (car 1))", impl.UpConv, 3)
	// the first one has carried a over when the second one sees it
	z = wantChange(t, w, types+pt+"(convert ln (lambda (r) (cons (if (is pt (field ln 0 r)) (field pt 0 (field ln 0 r)) 0) '(2 3))))", "aa")
	wantRecords(t, "one behind the other", z, "aa:pt 2 2, aa:ln 2 2 2 3, aa:pt 2 c, aa:pt2 1 4, aa:none 1, aa:ln 2 0 2 3")
	wantRefusal(t, w, types+pt+"(convert ln (lambda (r) (cons (field pt 1 (field ln 0 r)) '(2 3))))", impl.UpConv, 1)
}

// All that is older is carried over, and nothing that is of the new version already.
func TestRecordsOfOlderVersions(t *testing.T) {
	w := worldOf(t, "(library aa) (record pt 1) (define p (make pt 1))", "(library aa) (record pt 2) (define p (make pt 2 2))", "(library bb) (record pt 1) (define p (make pt 'b))", "(library aa) (record pt 3) (define p (make pt 3 3 3))")
	wantRecords(t, "ahead", w, "aa:pt 1 1, aa:pt 2 2 2, bb:pt 1 b, aa:pt 3 3 3 3")
	z := wantChange(t, w, "(library aa) (record pt 1) (define p (make pt 4)) (convert pt (lambda (r) (cons (cons (field pt 0 r) 'old) '())))", "aa")
	wantRecords(t, "all", z, "aa:pt 4 (1 . old), aa:pt 4 (2 . old), bb:pt 1 b, aa:pt 4 (3 . old), aa:pt 4 4")
	// once more
	z = wantChange(t, z, "(library aa) (record pt 2) (convert pt (lambda (r) (cons 5 (cons (field pt 0 r) '()))))", "aa")
	wantRecords(t, "once more", z, "aa:pt 5 5 (1 . old), aa:pt 5 5 (2 . old), bb:pt 1 b, aa:pt 5 5 (3 . old), aa:pt 5 5 4")
	// by hand: the version counts, wherever it comes from
	z = worldOf(t, "(library aa)", "(library aa)", "(library aa)")
	z.Sys.Heap = []impl.Cell{recCell("aa:pt", 0), recCell("aa:pt", 3, nilVal()), recCell("aa:pt", 4, nilVal()), recCell("aa:pt", 5, nilVal()), recCell("aa:pt", 1000, nilVal()), recCell("aa:p", 1), recCell("a:pt", 1), recCell("aa:pt2", 1), recCell("aa:", 1), recCell("pt", 1), recCell(":pt", 1), recCell("aa:pt", 2, recVal(8), recVal(9))}
	z = wantChange(t, z, "(library aa) (record pt 1) (convert pt (lambda (r) '(9)))", "aa")
	wantRecords(t, "by hand", z, "aa:pt 4 9, aa:pt 4 9, aa:pt 4 (), aa:pt 5 (), aa:pt 1000 (), aa:p 1, a:pt 1, aa:pt2 1, aa: 1, pt 1, :pt 1, aa:pt 4 9")
}

// Of another library's type of the same name nothing is carried over, nor of those
// that are made anew because they need this one.
func TestRecordsOfOthers(t *testing.T) {
	bb := "(library bb) (import aa) (export q) (record pt 1) (define q (make pt 'b)) (convert pt (lambda (r) (cons (cons 'again (field pt 0 r)) '())))"
	w := worldOf(t, "(library aa) (export p) (record pt 1) (define p (make pt 'a))", bb, "(library cc) (record pt 1) (define q (make pt 'c))")
	wantRecords(t, "ahead", w, "aa:pt 1 a, bb:pt 1 b, cc:pt 1 c")
	aa := "(library aa) (export p) (record pt 2) (define p 1) (convert pt (lambda (r) (cons (field pt 0 r) '(2))))"
	z := wantChange(t, w, aa, "aa bb")
	wantRecords(t, "aa", z, "aa:pt 2 a 2, bb:pt 1 b, cc:pt 1 c, bb:pt 2 b")
	z = wantChange(t, z, bb, "bb")
	wantRecords(t, "bb", z, "aa:pt 2 a 2, bb:pt 3 (again . b), cc:pt 1 c, bb:pt 3 (again . b), bb:pt 3 b")
	// one of another library is none for field, so that such a converter fails
	wantRefusal(t, w, "(library aa) (export p) (record pt 1) (define p 1) (convert pt (lambda (r) (cons (field qt 0 r) '())))", impl.UpConv, 0)
	// a converter has what its library imports
	z = wantChange(t, w, "(library bb) (import aa) (record pt 1) (define k 7) (convert pt (lambda (r) (cons (cons p k) '())))", "bb")
	wantRecords(t, "imported", z, "aa:pt 1 a, bb:pt 2 (#aa:pt . 7), cc:pt 1 c")
	// and nothing else, nor what the session has
	w.Sys.Insts[0].Names, w.Sys.Insts[0].Vals = names("mine"), vals(numVal(1))
	wantRefusal(t, w, "(library bb) (import aa) (record pt 1) (convert pt (lambda (r) (cons mine '())))", impl.UpConv, 0)
	wantRefusal(t, w, "(library bb) (import aa) (record pt 1) (convert pt (lambda (r) (cons a0 '())))", impl.UpConv, 0)
}

// What a converter makes itself is of the new version; it stands behind all others
// and is not carried over, also where an old function made it.
func TestConvertersThatMakeRecords(t *testing.T) {
	w := worldOf(t, "(library aa) (record pt 1) (define (mk x) (make pt x)) (define p (mk mk)) (define q (mk mk))")
	z := wantChange(t, w, "(library aa) (record pt 2) (convert pt (lambda (r) (cons (make pt 1 2) (cons 3 '()))))", "aa")
	wantRecords(t, "new ones", z, "aa:pt 2 #aa:pt 3, aa:pt 2 #aa:pt 3, aa:pt 2 1 2, aa:pt 2 1 2")
	z = wantChange(t, w, "(library aa) (record pt 2) (convert pt (lambda (r) (cons ((field pt 0 r) 'old) (cons 3 '()))))", "aa")
	wantRecords(t, "old ones", z, "aa:pt 2 #aa:pt 3, aa:pt 2 #aa:pt 3, aa:pt 1 old, aa:pt 1 old")
	// what its Prog makes is there when records are looked for
	z = wantChange(t, w, "(library aa) (record pt 2) (convert pt (begin (make pt 8 9) (lambda (r) '(1 2))))", "aa")
	wantRecords(t, "of the Prog", z, "aa:pt 2 1 2, aa:pt 2 1 2, aa:pt 2 8 9")
	w = worldOf(t, "(library kk) (export box put) (define box 0) (define (put x) (set! box x))", "(library aa) (import kk) (record pt 1) (define (mk x) (make pt x)) (define p (put mk))")
	z = wantChange(t, w, "(library aa) (import kk) (record pt 2) (convert pt (begin (box 'old) (lambda (r) (cons (field pt 0 r) '(2)))))", "aa")
	wantRecords(t, "of the Prog, by an old function", z, "aa:pt 2 old 2")
	// what one converter makes is there for the next one
	w = worldOf(t, "(library aa) (record pt 1) (record ln 1) (define (mk x) (make ln x)) (define p (make pt mk))")
	z = wantChange(t, w, "(library aa) (record pt 1) (record ln 1) (convert pt (lambda (r) (cons ((field pt 0 r) 'old) '()))) (convert ln (lambda (r) (cons (cons 'now (field ln 0 r)) '())))", "aa")
	wantRecords(t, "of an earlier converter", z, "aa:pt 2 #aa:ln, aa:ln 2 (now . old)")
	z = wantChange(t, w, "(library aa) (record pt 1) (record ln 1) (convert ln (lambda (r) (cons (cons 'now (field ln 0 r)) '()))) (convert pt (lambda (r) (cons ((field pt 0 r) 'old) '())))", "aa")
	wantRecords(t, "of a later converter", z, "aa:pt 2 #aa:ln, aa:ln 1 old")
}

// The session's Links are led on when all records are carried over.
func TestConvertersComeAheadOfLinks(t *testing.T) {
	w := linked(worldOf(t, "(library aa) (export base mk) (record pt 1) (define base 7) (define (mk x) (make pt x))"), "aa")
	w = posted(t, w, "(mk (lambda () base))", impl.MaxSteps)
	z := wantChange(t, w, "(library aa) (export base) (record pt 1) (define base 70) (convert pt (lambda (r) (cons (cons base ((field pt 0 r))) '())))", "aa")
	wantRecords(t, "a function of the session", z, "aa:pt 2 (70 . 7)")
}

// A converter that has nothing to carry over is run all the same, and may tell what it will.
func TestConvertersWithNothingToDo(t *testing.T) {
	for _, w := range []impl.World{impl.NewWorld(), worldOf(t, "(library aa) (record pt 2)"), worldOf(t, "(library bb) (record pt 2) (define p (make pt 1 2))")} {
		z := wantChange(t, w, "(library aa) (record pt 2) (convert pt (lambda (r) 1))", "aa")
		if cells := len(w.Sys.Heap); len(z.Sys.Heap) != cells+1 || !alike(z.Sys.Heap[:cells], w.Sys.Heap) || len(z.Sys.Units) != len(w.Sys.Units)+1 {
			t.Error("something is changed", shown(z.Sys))
		}
		for _, form := range []string{"1", "'(1 2)", "#f", "car1", "(make pt 1 2)"} {
			text := "(library aa) (record pt 2) (define car1 1) (convert pt " + form + ")"
			wantChange(t, w, text, "aa")
		}
		z = wantChange(t, w, "(library aa) (record pt 2) (record q 1) (define v 1) (convert pt (begin (print 'ran) (set! v 2) 1)) (convert q (print v))", "aa")
		if !alike(z.Sys.Out, names("ran 2")) {
			t.Error("it is not run", z.Sys.Out)
		}
		wantRefusal(t, w, "(library aa) (record pt 2) (convert pt nobody)", impl.UpConv, 0)
		wantRefusal(t, w, "(library aa) (record pt 2) (record q 1) (convert q 1) (convert pt (error 1))", impl.UpConv, 1)
	}
}

// Where one fails nothing is left, of what was run and carried over ahead of that.
func TestConvertersThatFail(t *testing.T) {
	w := worldOf(t, "(library aa) (export v p) (record pt 1) (record ln 1) (define v 1) (define p (make pt 1)) (define q (make pt 2)) (define r (make ln 3))")
	w = posted(t, linked(w, "aa"), "(cons v p)", 3)
	head := "(library aa) (export v) (record pt 2) (record ln 1) (define v 1) (define loop 0) (convert ln (lambda (r) (begin (print r) (set! v 5) '(9)))) "
	long := "((lambda (f) (f f)) (lambda (f) (f f)))"
	deep := "((lambda (f) (f f)) (lambda (f) (+ 1 (f f))))"
	for _, form := range []string{"nobody", "(car 1)", "(* 1000000 2)", "(error 'e)", "((lambda () 1) 1)", deep, long, "(f r)", "(error '(1 2))"} {
		wantRefusal(t, w, head+"(convert pt "+form+")", impl.UpConv, 1)
		wantRefusal(t, w, head+"(convert pt (lambda (r) "+form+"))", impl.UpConv, 1)
		wantRefusal(t, w, head+"(convert pt (lambda (r) (if (= (field pt 0 r) 1) '(1 2) "+form+")))", impl.UpConv, 1)
	}
	for _, form := range []string{"1", "#f", "'a", "(make pt 1 2)", "r", "(lambda () 1)", "'()", "'(1)", "'(1 2 3)", "(cons 1 2)", "(cons 1 (cons 2 3))", "(cons 1 (cons 2 r))", "'(1 2 3 4 5 6 7 8 9)"} {
		wantRefusal(t, w, head+"(convert pt (lambda (r) "+form+"))", impl.UpConv, 1)
		wantRefusal(t, w, head+"(convert pt (lambda (r) (if (= (field pt 0 r) 1) '(1 2) "+form+")))", impl.UpConv, 1)
	}
	// what is no function of one parameter
	for _, form := range []string{"1", "'a", "'(1 2)", "#f", "(make pt 1 2)", "(lambda () '(1 2))", "(lambda (r s) '(1 2))"} {
		wantRefusal(t, w, head+"(convert pt "+form+")", impl.UpConv, 1)
	}
	z := wantChange(t, w, head+"(convert pt (lambda (r) '(1 2)))", "aa")
	wantRecords(t, "right", z, "aa:pt 2 1 2, aa:pt 2 1 2, aa:ln 2 9")
	if v := z.Sys.Insts[2].Vals[0]; v != numVal(5) || !alike(z.Sys.Out, []string{"#aa:ln"}) {
		t.Error("what a converter did is", v, z.Sys.Out)
	}
	// what was said ahead of it counts first
	wantRefusal(t, w, "(library aa) (record pt 2) (define v nobody) (convert pt 1)", impl.UpMake, impl.EnUnbound)
	wantRefusal(t, w, "(library aa) (import zz) (record pt 2) (convert pt (car 1))", impl.UpMissing, 0)
	wantRefusal(t, w, "(library aa) (record pt 2) (convert ln (car 1))", impl.UpParse, impl.LbExport)
	dep := upgraded(t, w, "(library bb) (import aa) (define w v)")
	wantRefusal(t, dep, "(library aa) (record pt 2) (convert pt (car 1))", impl.UpMake, impl.EnUnbound)
}

// Each run has DefFuel steps, that of the Prog and that of each record.
func TestFuelOfConverters(t *testing.T) {
	w := worldOf(t, "(library aa) (record pt 1) (define p (make pt 1)) (define q (make pt 1))")
	for _, steps := range []int{impl.DefFuel - 1, impl.DefFuel, impl.DefFuel + 1} {
		code := impl.UpOk
		if steps > impl.DefFuel {
			code = impl.UpConv
		}
		// the call itself, its three parts and what hands on the value take some
		call := "(lambda (r) (begin " + lasting(t, steps-8) + " '()))"
		prog := "(begin " + lasting(t, steps-3) + " (lambda (r) '()))"
		taken := map[string]int{"the call": 0, "the Prog": 0}
		for what, conv := range map[string]string{"the call": call, "the Prog": prog} {
			text := "(library aa) (record pt 0) (define loop 0) (convert pt " + conv + ")"
			z := wantChangeOr(t, w, text, code)
			y, at, end := impl.Make(w.Sys, source(t, text), 2, nil)
			y, m := impl.Eval(y, at, source(t, text).Convs[0].Prog, impl.MaxSteps)
			if end != impl.EnDone || m.End != impl.EnDone {
				t.Fatal("this test", end, shown(m))
			}
			count := func(run func(fuel int) impl.Machine) int {
				n := 0
				for run(n).Mode != impl.MoEnd {
					n++
				}
				return n
			}
			if what == "the call" {
				taken[what] = count(func(fuel int) impl.Machine { _, n := impl.Apply(y, m.Val, vals(recVal(0)), fuel); return n })
			} else {
				taken[what] = count(func(fuel int) impl.Machine {
					_, n := impl.Eval(y, at, source(t, text).Convs[0].Prog, fuel)
					return n
				})
			}
			if taken[what] != steps {
				t.Fatalf("%s takes %d steps, not %d", what, taken[what], steps)
			}
			if code == impl.UpOk {
				wantRecords(t, what, z, "aa:pt 2, aa:pt 2")
			}
		}
	}
}

// wantChangeOr asks for a change of aa alone, or for its refusal by converter 0.
func wantChangeOr(t *testing.T, w impl.World, text string, code int) impl.World {
	t.Helper()
	if code == impl.UpOk {
		return wantChange(t, w, text, "aa")
	}
	wantRefusal(t, w, text, code, 0)
	return w
}

// Each Def, each converter and each record that is carried over takes a unit.
func TestUnitsOfConverters(t *testing.T) {
	w := worldOf(t, "(library aa) (record pt 1) (record ln 1) (define p (make pt 1)) (define q (make pt 2)) (define r (make ln 3))")
	text := "(library aa) (record pt 1) (record ln 1) (define v 1) (convert pt (lambda (r) '(7))) (convert ln (lambda (r) '(8)))"
	bad := strings.ReplaceAll(text, "'(8)", "1")
	first := strings.ReplaceAll(text, "'(7)", "(field pt 1 r)")
	for room := range 9 {
		z := deepWorld(w)
		for len(z.Sys.Units) < impl.MaxUnits-room {
			z.Sys.Units = append(z.Sys.Units, impl.Unit{Home: 0, Prog: meant(t, "1")})
		}
		switch {
		case room == 0:
			wantRefusal(t, z, text, impl.UpMake, impl.EnFull)
			wantRefusal(t, z, bad, impl.UpMake, impl.EnFull)
		case room < 6:
			wantRefusal(t, z, text, impl.UpFull, 0)
			wantRefusal(t, z, bad, impl.UpFull, 0)
		default:
			after := wantChange(t, z, text, "aa")
			wantRecords(t, "room for all", after, "aa:pt 2 7, aa:pt 2 7, aa:ln 2 8")
			if len(after.Sys.Units) != impl.MaxUnits-room+6 {
				t.Error("units", len(after.Sys.Units))
			}
			wantRefusal(t, z, bad, impl.UpConv, 1)
		}
		// what fails ahead of that counts
		if room > 2 {
			wantRefusal(t, z, first, impl.UpConv, 0)
		}
	}
	// more records than there are units
	many := deepWorld(w)
	many.Sys.Heap = append(many.Sys.Heap, slices.Repeat([]impl.Cell{recCell("aa:ln", 1)}, 60)...)
	wantRefusal(t, many, text, impl.UpFull, 0)
	wantChange(t, many, "(library aa) (record pt 1) (convert pt (lambda (r) '(7)))", "aa")
}

// A converter that finds no cell left fails as any run does.
func TestCellsOfConverters(t *testing.T) {
	text := "(library aa) (record pt 2) (convert pt (lambda (r) (cons (field pt 0 r) (cons 7 '()))))"
	for room := range 8 {
		w := worldOf(t, "(library aa) (record pt 1) (define p (make pt 1)) (define q (make pt 2))")
		w.Sys = filled(w.Sys, impl.MaxHeap-room)
		if room < 5 {
			wantRefusal(t, w, text, impl.UpConv, 0)
			continue
		}
		z := wantChange(t, w, text, "aa")
		wantRecords(t, "room for all", z, "aa:pt 2 1 7, aa:pt 2 2 7")
		if len(z.Sys.Heap) != impl.MaxHeap-room+5 {
			t.Error("cells", len(z.Sys.Heap))
		}
	}
}

// changing is what Upgrade is handed.
type changing struct {
	World impl.World
	Text  string
}

// Nothing is written into what is handed in, and nothing of it is in what is told.
func TestChangesLeaveWhatIsHandedIn(t *testing.T) {
	w := worldOf(t, "(library aa) (export v p) (record pt 1) (define v 1) (define p (make pt 'word)) (define q (make pt '(1 2))) (define (set x) (set! v x))", "(library bb) (import aa) (export w) (define w v)")
	w = posted(t, linked(linked(w, "aa"), "bb"), "(cons v p)", 3)
	head := "(library aa) (export v) (record pt 2) (define v 2) (convert pt "
	for i, text := range []string{
		head + "(lambda (r) (cons (field pt 0 r) (cons 'more '()))))", head + "(lambda (r) (begin (print r) (set! v r) '(1 (2)))))", head + "(lambda (r) (cons r (cons r '()))))",
		head + "(lambda (r) (if (pair? (field pt 0 r)) 1 '(1 2))))", head + "(car 1))", "(library aa)", "(library", "(library aa) (import bb)", "(library aa) (import zz)",
	} {
		given := roomyOf(changing{w, strings.Clone(text)})
		before := wholeOf(given)
		planned, code := impl.Plan(given.World, given.Text)
		if !alike(wholeOf(given), before) {
			t.Errorf("%s: what is handed in to be planned is changed", text)
		}
		z, report := impl.Upgrade(given.World, given.Text)
		if (report.Code == impl.UpOk) != (i < 3) {
			t.Errorf("%s: %+v", text, report)
		}
		if !alike(wholeOf(given), before) {
			t.Errorf("%s: what is handed in is changed", text)
		}
		if !shareNone([]any{given}, []any{z, report, planned}) {
			t.Errorf("%s: memory is shared", text)
		}
		if again, other := impl.Upgrade(w, text); !alike(again, z) || !alike(other, report) {
			t.Errorf("%s: the second time it is another world", text)
		}
		if again, other := impl.Plan(w, text); !alike(again, planned) || other != code {
			t.Errorf("%s: the second time it is another plan", text)
		}
	}
}

// carrying is a change of a library that has records, and mostly a converter of them.
func (m maker) carrying(lib string, imports []string) string {
	size := 1 + m.r.Intn(2)
	text := "(library " + lib + ") (export rec) (record pt " + impl.Dec(size) + ")"
	for _, name := range imports {
		if m.r.Intn(2) == 0 {
			text += " (import " + name + ")"
		}
	}
	record := "(make pt " + repeated(m.pick("1", "'a", "(lambda (x) (make pt "+repeated("x", size)+"))", "'(1 2)"), size) + ")"
	text += " (define rec " + m.pick(record, record, record, "(lambda () "+record+")", m.worth()) + ")"
	if m.r.Intn(4) > 0 {
		text += " (convert pt " + m.converter(size) + ")"
	}
	if m.r.Intn(4) == 0 {
		text += " (record ln 1) (define row (make ln 'row)) (convert ln (lambda (r) (cons (cons 'ln (field ln 0 r)) '())))"
	}
	return text
}

// converter is a form that mostly tells a function which makes a list of so many.
func (m maker) converter(size int) string {
	list := "'()"
	for range size {
		part := m.pick("(field pt 0 r)", "(field pt 0 r)", "r", "'new", "(print r)", "(lambda (x) r)", "rec", "(make pt "+repeated("r", size)+")", "(if (pair? (field pt 0 r)) 1 (cons 1 r))")
		list = "(cons " + part + " " + list + ")"
	}
	switch m.r.Intn(25) {
	case 0:
		return m.worth()
	case 1:
		return "(lambda (r) " + m.worth() + ")"
	case 2:
		return "(lambda (r) (cdr " + list + "))"
	case 3:
		return "(lambda (r) (cons 1 " + list + "))"
	case 4:
		return "(lambda (r) (cons ((field pt 0 r) 1) (cdr " + list + ")))"
	case 5, 6:
		return "(begin (print 'now) (lambda (r) " + list + "))"
	}
	return "(lambda (r) " + list + ")"
}

// Worlds that are changed again and again, each change held against the model.
func TestConvertersByChance(t *testing.T) {
	t.Parallel()
	m := maker{rand.New(rand.NewSource(180))}
	codes := map[int]int{}
	carried := 0
	for range 150 {
		w := impl.NewWorld()
		for range 9 {
			lib, imports := "aa", []string(nil)
			if m.r.Intn(2) == 0 && slices.Contains(libsOf(w), "aa") {
				lib, imports = "bb", names("aa")
			}
			text := m.carrying(lib, imports)
			z := changeAsModelled(t, w, text, codes)
			if !impl.WorldOk(z) {
				t.Fatal("it is not right any more", shown(z))
			}
			for i, c := range w.Sys.Heap {
				if c.Kind == impl.CeRec && z.Sys.Heap[i].A != c.A {
					carried++
				}
			}
			w = z
		}
	}
	if carried < 200 || codes[impl.UpOk] < 300 || codes[impl.UpConv] < 50 {
		t.Error("one sort was hardly there", carried, codes)
	}
}

// libsOf are the Names of the libraries of w.
func libsOf(w impl.World) []string {
	var all []string
	for _, e := range w.Libs {
		all = append(all, e.Src.Name)
	}
	return all
}

// wantPlan asks for these Names, or for none and why.
func wantPlan(t *testing.T, w impl.World, text string, code int, want string) {
	t.Helper()
	if made, got := impl.Plan(w, text); got != code || !alike(made, names(want)) {
		t.Errorf("Plan(.., %q) = %v, %d; want [%s], %d", text, made, got, want, code)
	}
}

func TestPlans(t *testing.T) {
	w := worldOf(t, aBase, aMiddle, aTop, "(library dd)")
	for text, want := range map[string]string{
		"(library mm)":                         "mm",
		"(library a) (import cc dd)":           "a",
		"(library dd)":                         "dd",
		"(library dd) (import cc)":             "dd",
		aTop:                                   "cc",
		aMiddle:                                "bb cc",
		"(library bb)":                         "bb cc",
		aBase:                                  "aa bb cc",
		"(library aa) (import dd)":             "aa bb cc",
		"(library aa) (export z) (define z 1)": "aa bb cc",
	} {
		wantPlan(t, w, text, impl.UpOk, want)
	}
	wantPlan(t, impl.NewWorld(), "(library aa)", impl.UpOk, "aa")
	wantPlan(t, byHand(t), "(library bb) (import aa)", impl.UpFull, "")
	// what is imported since, or no more, is what counts
	wantPlan(t, upgraded(t, w, "(library dd) (import cc)"), aBase, impl.UpOk, "aa bb cc dd")
	wantPlan(t, upgraded(t, w, "(library cc) (import aa)"), aMiddle, impl.UpOk, "bb")
	wantPlan(t, upgraded(t, w, "(library cc)"), aBase, impl.UpOk, "aa bb")
	// in Order, not by Name
	z := worldOf(t, "(library zz)", "(library aa) (import zz)", "(library mm) (import aa)", "(library bb) (import mm zz)")
	wantPlan(t, z, "(library zz)", impl.UpOk, "zz aa mm bb")
	wantPlan(t, z, "(library aa)", impl.UpOk, "aa mm bb")
}

func TestPlansThatAreRefused(t *testing.T) {
	w := worldOf(t, aBase, aMiddle, aTop)
	for _, text := range []string{"", "(", "(library", "(library zz) (library zz)", "(define x 1)", "(library zz) (import zz)", "(library zz) (export z)", "(library zz) (convert pt 1)"} {
		wantPlan(t, w, text, impl.UpParse, "")
		wantPlan(t, manyLibs(t, impl.MaxLibs), text, impl.UpParse, "")
	}
	wantPlan(t, w, "(library zz) (import yy)", impl.UpMissing, "")
	wantPlan(t, w, "(library aa) (import bb yy)", impl.UpMissing, "")
	wantPlan(t, w, "(library aa) (import bb)", impl.UpCycle, "")
	wantPlan(t, w, "(library aa) (import cc)", impl.UpCycle, "")
	wantPlan(t, w, "(library bb) (import aa cc)", impl.UpCycle, "")
	wantPlan(t, manyLibs(t, impl.MaxLibs), "(library zz)", impl.UpFull, "")
	wantPlan(t, manyLibs(t, impl.MaxLibs), "(library x5)", impl.UpOk, "x5")
	wantPlan(t, manyLibs(t, impl.MaxLibs-1), "(library zz)", impl.UpOk, "zz")
}

// Plan counts by versions: those of all that would be made, and of no others.
func TestPlansByVersions(t *testing.T) {
	for _, c := range []struct{ aa, bb, cc, dd int }{
		{1, 1, 1, 1}, {999, 999, 999, 999}, {1, 1, 1, 1000}, {1000, 1, 1, 1}, {1, 1000, 1, 1}, {1, 1, 1000, 1}, {999, 1000, 999, 1}, {1000, 1000, 1000, 1000},
	} {
		w := worldOf(t, aBase, aMiddle, aTop, "(library dd)")
		for i, ver := range []int{c.aa, c.bb, c.cc, c.dd} {
			w.Libs[i].Ver, w.Sys.Insts[i+1].Ver = ver, ver
		}
		for text, highest := range map[string]int{aBase: max(c.aa, c.bb, c.cc), aMiddle: max(c.bb, c.cc), aTop: c.cc, "(library dd)": c.dd, "(library ee) (import aa bb cc dd)": 0} {
			made, code := impl.Plan(w, text)
			if want := highest == 1000; (code == impl.UpFull) != want || (code == impl.UpOk) == want || (len(made) == 0) != want {
				t.Errorf("versions %v: Plan(.., %q) = %v, %d", c, text, made, code)
			}
			changeAsModelled(t, w, text, map[int]int{})
		}
	}
}

// failing are forms with the codes with which they end, whatever they are run with;
// the last one does not end at all.
func failing() map[string]int {
	deep := strings.Repeat("(not ", 9) + "(f f)" + strings.Repeat(")", 9)
	return map[string]int{
		"nobody":            impl.EnUnbound,
		"(car 1)":           impl.EnType,
		"(* 1000000 2)":     impl.EnRange,
		"(error 'e)":        impl.EnUser,
		"((lambda () 1) 1)": impl.EnArity,
		"((lambda (f) (f f)) (lambda (f) " + deep + "))": impl.EnDepth,
		"((lambda (f) (f f)) (lambda (f) (f f)))":        impl.EnFull,
	}
}

// Plan runs nothing: what fails when it is made, or has no room, is planned all the same.
func TestPlansRunNothing(t *testing.T) {
	w := worldOf(t, aBase, aMiddle, aTop, "(library dd) (record pt 1) (define p (make pt 1))")
	refused := func(w impl.World, text string, code, detail int, want string) {
		t.Helper()
		wantRefusal(t, w, text, code, detail)
		wantPlan(t, w, text, impl.UpOk, want)
	}
	for form, code := range failing() {
		refused(w, "(library zz) (define z (print 1)) (define y "+form+")", impl.UpMake, code, "zz")
		refused(w, "(library cc) (define z "+form+")", impl.UpMake, code, "cc")
		refused(w, "(library dd) (record pt 1) (convert pt "+form+")", impl.UpConv, 0, "dd")
		refused(w, "(library dd) (record pt 1) (convert pt (lambda (r) "+form+"))", impl.UpConv, 0, "dd")
	}
	refused(w, "(library aa)", impl.UpMake, impl.EnUnbound, "aa bb cc")
	refused(w, "(library dd) (record pt 2) (convert pt (lambda (r) '(1)))", impl.UpConv, 0, "dd")
	// no room for an Inst, a unit, a cell, a text
	full := deepWorld(w)
	for len(full.Sys.Insts) < impl.MaxInsts {
		full.Sys.Insts = append(full.Sys.Insts, impl.Inst{Lib: "dd", Ver: 7})
	}
	refused(full, "(library dd)", impl.UpMake, impl.EnFull, "dd")
	refused(full, aBase, impl.UpMake, impl.EnFull, "aa bb cc")
	full = withUnits(t, w, impl.MaxUnits)
	refused(full, "(library dd) (define v 1)", impl.UpMake, impl.EnFull, "dd")
	refused(full, "(library dd) (record pt 1) (convert pt (lambda (r) '(1)))", impl.UpFull, 0, "dd")
	full = deepWorld(w)
	full.Sys = filled(full.Sys, impl.MaxHeap)
	refused(full, "(library dd) (define v '(1))", impl.UpMake, impl.EnFull, "dd")
	full = deepWorld(w)
	full.Sys.Out = slices.Repeat([]string{"out"}, impl.MaxOut)
	refused(full, "(library dd) (define v (print 1))", impl.UpMake, impl.EnFull, "dd")
}

// Two that hang on one, and one that hangs on both: each is made behind both, and
// has what both have by then.
func TestLibrariesCrosswise(t *testing.T) {
	base := "(library aa) (export v) (define v 1)"
	left, right := "(library mm) (import aa) (export l) (define l (cons 'l v))", "(library bb) (import aa) (export r) (define r (cons 'r v))"
	w := worldOf(t, base, left, right, "(library ab) (import bb mm aa) (export all) (define all (cons l (cons r v)))", "(library zz) (export z) (define z 0)")
	w = wantSaid(t, w, "(import ab) all (define had all) (import zz)", "ok|((l . 1) (r . 1) . 1)|ok|ok")
	z := wantChange(t, w, strings.ReplaceAll(base, "1", "2"), "aa bb mm ab")
	wantStanding(t, z, "aa 2 6, ab 2 9, bb 2 7, mm 2 8, zz 1 5")
	wantSaid(t, z, "all had z", "((l . 2) (r . 2) . 2)|((l . 1) (r . 1) . 1)|0")
	if want := []impl.Link{link("r", 7, "r"), link("l", 8, "l"), link("v", 6, "v")}; !alike(z.Sys.Insts[9].Links, want) {
		t.Errorf("the last one has the Links %v; want %v", z.Sys.Insts[9].Links, want)
	}
	// one of both is changed: the other one stays
	z = wantChange(t, w, strings.ReplaceAll(left, "'l", "'ll"), "mm ab")
	wantStanding(t, z, "aa 1 1, ab 2 7, bb 1 3, mm 2 6, zz 1 5")
	wantSaid(t, z, "all had", "((ll . 1) (r . 1) . 1)|((l . 1) (r . 1) . 1)")
	if want := []impl.Link{link("r", 3, "r"), link("l", 6, "l"), link("v", 1, "v")}; !alike(z.Sys.Insts[7].Links, want) {
		t.Errorf("the last one has the Links %v; want %v", z.Sys.Insts[7].Links, want)
	}
	// one that leaves the others takes itself alone, and then hangs on them no more
	z = wantChange(t, w, "(library bb) (export r) (define r 'free)", "bb ab")
	z = wantChange(t, z, base, "aa mm ab")
	wantSaid(t, z, "all", "((l . 1) free . 1)")
}

// As many as there may be, each of which imports all ahead of it.
func TestAllLibrariesMadeAnew(t *testing.T) {
	all := names("ff ee dd cc bb aa")
	text := func(at int) string {
		s := "(library " + all[at] + ") (export " + all[at] + "v) (define " + all[at] + "v " + impl.Dec(at) + ")"
		for _, name := range all[:at] {
			s += " (import " + name + ")"
		}
		return s
	}
	w := impl.NewWorld()
	for at := range all {
		w = wantChange(t, w, text(at), all[at])
	}
	for at := range all {
		wantPlan(t, w, text(at), impl.UpOk, strings.Join(all[at:], " "))
		if at == 0 { // the session, six of them, and six more
			wantRefusal(t, w, text(at), impl.UpMake, impl.EnFull)
			continue
		}
		z := wantChange(t, w, text(at), strings.Join(all[at:], " "))
		if at == 1 && len(z.Sys.Insts) != impl.MaxInsts {
			t.Error("there are Insts", len(z.Sys.Insts))
		}
		for i, e := range z.Libs {
			if made := len(all)-1-i >= at; made != (e.Ver == 2) || made != (e.Inst > len(all)) {
				t.Errorf("%s changed: %s", all[at], standing(z))
			}
		}
	}
}

// What is not exported any more goes, also where that library is not made anew.
func TestLinksOfTheSessionThatGo(t *testing.T) {
	w := worldOf(t, aBase, "(library cc) (export k) (define k 1) (define q 2)", "(library dd)")
	w.Sys.Insts[0].Links = []impl.Link{link("a", 1, "base"), link("q", 2, "q"), link("k", 2, "k"), link("z", 2, "zz"), link("n", 3, "k"), link("b", 1, "bump")}
	z := wantChange(t, w, "(library dd) (export e) (define e 1)", "dd")
	if want := []impl.Link{link("a", 1, "base"), link("k", 2, "k"), link("b", 1, "bump")}; !alike(z.Sys.Insts[0].Links, want) {
		t.Errorf("Links are %v; want %v", z.Sys.Insts[0].Links, want)
	}
	// all of them; and those of libraries stay
	w = worldOf(t, aBase, "(library bb) (import aa) (export get) (define (get) base)")
	w = wantSaid(t, w, "(import aa) (import bb) (define old get)", "ok|ok|ok")
	z = wantChange(t, w, "(library aa)", "aa bb")
	wantSession(t, z, "old fn", link("get", 4, "get"))
	wantSaid(t, z, "base bump (get) (old)", "unbound|unbound|unbound|7")
	z = wantChange(t, w, "(library bb)", "bb")
	wantSession(t, z, "old fn", link("base", 1, "base"), link("bump", 1, "bump"))
	// as many as there may be
	w = worldOf(t, exporting("aa", namesUpTo(30)))
	w = linked(w, "aa")
	z = wantChange(t, w, exporting("aa", backwards(namesUpTo(30))), "aa")
	for i, l := range z.Sys.Insts[0].Links {
		if l != link("x"+impl.Dec(i), 2, "x"+impl.Dec(i)) {
			t.Error("Link", i, "is", l)
		}
	}
	z = wantChange(t, w, exporting("aa", namesUpTo(29)[3:]), "aa")
	if l := z.Sys.Insts[0].Links; len(l) != 26 || l[0] != link("x3", 2, "x3") || l[25] != link("x28", 2, "x28") {
		t.Error("Links are", l)
	}
}

// Where several reasons apply, the first one counts.
func TestTheFirstReasonCounts(t *testing.T) {
	high := worldOf(t, aBase, aMiddle, aTop)
	high.Libs[2].Ver, high.Sys.Insts[3].Ver = 1000, 1000
	refused := func(w impl.World, text string, code, detail int) {
		t.Helper()
		wantRefusal(t, w, text, code, detail)
		if code < impl.UpMake {
			wantPlan(t, w, text, code, "")
		}
	}
	refused(high, "(library aa) (import bb yy) (define v nobody) (", impl.UpParse, impl.LbRead)
	refused(high, "(library aa) (import bb yy aa) (define v nobody) (define v 1) (export w) (if)", impl.UpParse, impl.LbForm)
	refused(high, "(library aa) (import bb yy aa) (define v nobody) (define v 1) (export w)", impl.UpParse, impl.LbDup)
	refused(high, "(library aa) (import bb yy) (define v nobody) (export w)", impl.UpParse, impl.LbExport)
	refused(high, "(library aa) (import bb yy) (define v nobody)", impl.UpMissing, 0)
	refused(high, "(library aa) (import bb) (define v nobody)", impl.UpCycle, 0)
	refused(high, "(library aa) (define v nobody)", impl.UpFull, 0)
	refused(high, "(library cc) (import zz) (define v nobody)", impl.UpMissing, 0)
	refused(high, "(library cc) (define v nobody)", impl.UpFull, 0)
	refused(high, "(library dd) (import cc) (record pt 1) (define v nobody) (convert pt nobody)", impl.UpMake, impl.EnUnbound)
	many := manyLibs(t, impl.MaxLibs)
	refused(many, "(library zz) (import yy) (", impl.UpParse, impl.LbRead)
	refused(many, "(library zz) (import yy) (define v nobody)", impl.UpFull, 0)
	refused(many, "(library x0) (import yy) (define v nobody)", impl.UpMissing, 0)
	// of several that fail, the one that is made first; of its Defs the first one
	w := worldOf(t, aBase, aMiddle, aTop)
	refused(w, "(library aa) (define v (car 1)) (define w nobody)", impl.UpMake, impl.EnType)
	refused(w, "(library aa) (define w nobody) (define v (car 1))", impl.UpMake, impl.EnUnbound)
	refused(w, "(library aa) (record pt 1) (convert pt (car 1))", impl.UpMake, impl.EnUnbound)
}

// A change that fails at one of those that are made: what the ones ahead of it did,
// also to a library that is not made anew, is undone.
func TestChangesThatFailInTheMidst(t *testing.T) {
	keeper := "(library kk) (export note all) (define all '()) (define (note x) (begin (print x) (set! all (cons x all))))"
	noting := func(lib, imports, bad string) string {
		return "(library " + lib + ") (import kk " + imports + ") (export made) (define (made) 'made) (define x (begin (note '" + lib + ") (if (eq? fail '" + lib + ") " + bad + " 1)))"
	}
	first := func(fail, bad string) string {
		return "(library aa) (import kk) (export fail) (define fail '" + fail + ") (define x (begin (note 'aa) (if (eq? fail 'aa) " + bad + " 1)))"
	}
	for bad, code := range failing() {
		w := worldOf(t, keeper, first("none", "1"), noting("zz", "aa", bad), noting("mm", "aa", bad), noting("bb", "zz aa", bad))
		w = wantSaid(t, w, "(import kk) (import bb) (define mine all)", "ok|ok|ok")
		w = wantPosted(t, w, "(cons (made) all)", 1)
		w = wantSliced(t, w, 1, 4, "running")
		wantPlan(t, w, first("none", "1"), impl.UpOk, "aa mm zz bb")
		for _, fail := range names("aa mm zz bb") {
			wantRefusal(t, w, first(fail, bad), impl.UpMake, code)
			wantPlan(t, w, first(fail, bad), impl.UpOk, "aa mm zz bb")
		}
		wantRefusal(t, w, first("kk", "1")+" (define y "+bad+")", impl.UpMake, code)
		z := wantChange(t, w, first("none", bad), "aa mm zz bb")
		wantSaid(t, z, "all mine", "(bb zz mm aa bb mm zz aa)|(bb mm zz aa)")
		if !alike(z.Sys.Out, names("aa zz mm bb aa mm zz bb")) {
			t.Error("it prints", z.Sys.Out)
		}
	}
}

// Each Def has DefFuel steps, that of the library itself and those of the ones that
// are made with it.
func TestFuelOfDefsThatAreMade(t *testing.T) {
	for _, steps := range []int{impl.DefFuel - 1, impl.DefFuel, impl.DefFuel + 1} {
		base := "(library aa) (export flag loop) (define loop 0) (define flag @) (define (also) 1)"
		body := "(if flag " + lasting(t, steps-3) + " 1)"
		above := "(library bb) (import aa) (define loop 0) (define d " + body + ")"
		w := worldOf(t, strings.ReplaceAll(base, "@", "#f"), above)
		on := strings.ReplaceAll(base, "@", "#t")
		itself := "(library cc) (define loop 0) (define flag #t) (define d " + body + ") (define e 1)"
		y, at, _ := impl.Make(w.Sys, source(t, "(library cc) (define loop 0) (define flag #t)"), 1, nil)
		taken := 0
		for y, m := impl.Eval(y, at, meant(t, body), 0); m.Mode != impl.MoEnd; taken++ {
			y, m = impl.Step(y, m)
		}
		if taken != steps {
			t.Fatalf("it takes %d steps, not %d", taken, steps)
		}
		wantPlan(t, w, on, impl.UpOk, "aa bb")
		wantPlan(t, w, itself, impl.UpOk, "cc")
		if steps > impl.DefFuel {
			wantRefusal(t, w, on, impl.UpMake, impl.EnFull)
			wantRefusal(t, w, itself, impl.UpMake, impl.EnFull)
			continue
		}
		wantChange(t, w, on, "aa bb")
		wantChange(t, w, itself, "cc")
	}
}

// Each converter of three may fail, by its own Prog or at each record of three: what
// the ones ahead of it did is undone.
func TestEachConverterThatFails(t *testing.T) {
	types := names("pt ln sg")
	first := "(library aa) (export all p) (define all '()) (define p 'none)"
	for _, typ := range types {
		first += " (record " + typ + " 1) (define " + typ + "0 (make " + typ + " 'x)) (define " + typ + "1 (make " + typ + " 'y)) (define " + typ + "2 (make " + typ + " 'z))"
	}
	w := wantSaid(t, worldOf(t, first), "(import aa) (define mine all) (print 'ahead)", "ok|ok|ahead")
	w = wantSliced(t, wantPosted(t, w, "(cons all p)", 1), 1, 3, "running")
	changed := func(at int, conv string) string {
		text := "(library aa) (export all) (define all '())"
		for i, typ := range types {
			text += " (record " + typ + " 1) (convert " + typ + " "
			if i == at {
				text += conv + ")"
				continue
			}
			text += "(begin (print '" + typ + ") (lambda (r) (begin (set! all (cons (print (field " + typ + " 0 r)) all)) (cons all '())))))"
		}
		return text
	}
	z := wantChange(t, w, changed(-1, ""), "aa")
	if !alike(z.Sys.Out, names("ahead pt x y z ln x y z sg x y z")) {
		t.Error("right ones print", z.Sys.Out)
	}
	wantRecords(t, "right ones", z, "aa:pt 2 (x), aa:pt 2 (y x), aa:pt 2 (z y x), aa:ln 2 (x z y x), aa:ln 2 (y x z y x), aa:ln 2 (z y x z y x), aa:sg 2 (x z y x z y x), aa:sg 2 (y x z y x z y x), aa:sg 2 (z y x z y x z y x)")
	var bad []string
	for form := range failing() {
		bad = append(bad, form)
	}
	for at, typ := range types {
		for _, prog := range append(slices.Clone(bad), names("1 #f 'a '() '(1) all")...) {
			wantRefusal(t, w, changed(at, "(begin (print 'now) "+prog+")"), impl.UpConv, at)
		}
		for _, what := range names("x y z") {
			for _, form := range append(slices.Clone(bad), "1", "r", "'()", "'(1 2)", "(cons 1 2)", "(lambda () '(1))") {
				conv := "(lambda (r) (begin (print r) (if (eq? (field " + typ + " 0 r) '" + what + ") " + form + " '(1))))"
				wantRefusal(t, w, changed(at, conv), impl.UpConv, at)
				wantPlan(t, w, changed(at, conv), impl.UpOk, "aa")
			}
		}
		conv := "(lambda (r) (if (eq? (field " + typ + " 0 r) 'w) nobody '(1)))"
		wantChange(t, w, changed(at, conv), "aa")
	}
}

// whoHas is a world of two libraries in which records are had by names of the session
// and of libraries, by pairs, functions and other records, and by nobody.
func whoHas(t *testing.T) impl.World {
	t.Helper()
	w := worldOf(t, "(library aa) (export mk x) (record pt 1) (define (mk v) (make pt v)) (define (x r) (field pt 0 r)) (define own (mk 'own))",
		"(library kk) (export put get) (define kept 0) (define (put v) (set! kept v)) (define (get) kept)")
	return wantSaid(t, w, "(import aa) (import kk) (define p (mk 'p)) (define l (cons 1 (cons (mk 'l) '()))) (define c ((lambda (r) (lambda () (x r))) (mk 'c))) (define rr (mk (mk 'rr))) (put (mk 'k)) (mk 'gone) (define oldx x) (define oldmk mk)",
		"ok|ok|ok|ok|ok|ok|#aa:pt|#aa:pt|ok|ok")
}

// Whoever has a record has what it is now; all that was the same record still is.
func TestRecordsWhoeverHasThem(t *testing.T) {
	w := whoHas(t)
	text := "(library aa) (export mk x y) (record pt 2) (define (mk a b) (make pt a b)) (define (x r) (field pt 0 r)) (define (y r) (field pt 1 r)) (convert pt (lambda (r) (cons (cons 'now (field pt 0 r)) '(new))))"
	ahead := "aa:pt 1 own, aa:pt 1 p, aa:pt 1 l, aa:pt 1 c, aa:pt 1 rr, aa:pt 1 #aa:pt, aa:pt 1 k, aa:pt 1 gone"
	wantRecords(t, "ahead", w, ahead)
	z := wantChange(t, w, text, "aa")
	wantRecords(t, "carried over", z, "aa:pt 2 (now . own) new, aa:pt 2 (now . p) new, aa:pt 2 (now . l) new, aa:pt 2 (now . c) new, aa:pt 2 (now . rr) new, aa:pt 2 (now . #aa:pt) new, aa:pt 2 (now . k) new, aa:pt 2 (now . gone) new")
	for i, c := range w.Sys.Heap {
		if c.Kind != impl.CeRec && !alike(z.Sys.Heap[i], c) || c.Kind != z.Sys.Heap[i].Kind || c.S != z.Sys.Heap[i].S {
			t.Errorf("cell %d is %s; it was %s", i, shown(z.Sys.Heap[i]), shown(c))
		}
	}
	z = wantSaid(t, z, "(import aa) (x p) (y p) (oldx p) (x (car (cdr l))) (c) (x rr) (x (cdr (x rr))) (x (get)) (y (get)) (eq? (get) p) (mk 1) (x (mk 1 2)) (x (oldmk 3)) (y (oldmk 3))",
		"ok|(now . p)|new|(now . p)|(now . l)|(now . c)|(now . #aa:pt)|(now . rr)|(now . k)|new|#f|arity|1|3|range")
	// those that old functions made since are carried over with the next change, as is all else
	z = wantChange(t, z, strings.ReplaceAll(text, "now", "then"), "aa")
	if l := recordsOf(z); strings.Count(l, "aa:pt 3 (then ") != 11 || strings.Contains(l, "pt 1") || strings.Contains(l, "pt 2") {
		t.Error("records are", l)
	}
	// without a converter they stay as they were
	z = wantChange(t, w, "(library aa) (export mk) (record pt 2) (define (mk a b) (make pt a b))", "aa")
	wantRecords(t, "left alone", z, ahead)
	wantSaid(t, z, "(oldx p) (c) (oldx rr) (oldx (get))", "p|unbound|#aa:pt|k")
	// of the change of another library, too
	z = wantChange(t, w, "(library kk) (export get) (record pt 1) (define (get) 'none) (convert pt (lambda (r) '(1)))", "kk")
	wantRecords(t, "another library's", z, ahead)
}

// Wherever a task has a record it has what that is now, until it has taken out what it asks for.
func TestRecordsOfTasks(t *testing.T) {
	lib := "(library aa) (export mk x) (record pt 1) (define (mk v) (make pt v)) (define (x r) (field pt 0 r))"
	w := linked(worldOf(t, lib), "aa")
	conv := lib + " (convert pt (lambda (r) (cons (cons 'now (field pt 0 r)) '())))"
	for _, text := range []string{"((lambda (r) (begin 1 2 (x r))) (mk 'v))", "(x (mk 'v))", "((lambda (l) (x (car (cdr l)))) (cons 1 (cons (mk 'v) '())))", "((lambda (f) (f)) ((lambda (r) (lambda () (x r))) (mk 'v)))"} {
		made, taken, cut := -1, -1, 0
		for z := posted(t, w, text, 0); z.Tasks[0].Mac.Mode != impl.MoEnd; cut++ {
			if made == -1 && recordsOf(z) != "" {
				made = cut
			}
			if made != -1 && taken == -1 && z.Tasks[0].Mac.Val == symVal("v") {
				taken = cut
			}
			want := "v"
			if made != -1 && taken == -1 {
				want = "(now . v)"
			}
			changed := wantChange(t, z, conv, "aa")
			if _, answer := impl.Slice(changed, 1, impl.MaxSteps); answer != want {
				t.Errorf("%s, changed behind %d steps, answers %s; want %s", text, cut, answer, want)
			}
			z = sliced(z, 0, 1)
		}
		if made < 1 || taken < made+3 || cut <= taken {
			t.Error(text, "has its record at", made, "and has asked it at", taken, "of", cut)
		}
	}
}

// A change leaves tasks as they are: what has come into a function ends in its version.
func TestTasksEndAsTheyBegan(t *testing.T) {
	lib := "(library aa) (export f) (define (g n) (f (- n 1))) (define (f n) (if (= n 0) (print 'old) (cons n (g n))))"
	w := wantSaid(t, worldOf(t, lib, "(library bb) (import aa) (export h) (define (h) (cons 'h (f 2)))"), "(import aa) (import bb)", "ok|ok")
	texts := map[string]string{
		strings.ReplaceAll(lib, "old", "new"): "aa bb",
		"(library aa) (export f) (record pt 1) (define f (lambda (n) 'new)) (define g f) (convert pt (lambda (r) 1))": "aa bb",
		"(library cc) (import bb) (define (f n) 'other) (define v (h))":                                               "cc",
		"(library bb) (export f h) (define (f n) 'mine) (define (h) (f 1))":                                           "bb",
	}
	refused := []string{"(library aa) (record pt 1) (convert pt (car 1))", "(library aa) (export f) (define f 1) (define g nobody)", "(library bb) (import aa) (define v (f 'a))", "(library", "(library aa) (import bb)"}
	for text, changed := range texts {
		begun := 0
		for cut := 0; ; cut++ {
			z := sliced(wantPosted(t, w, "(h)", 1), 0, cut)
			for _, text := range refused {
				if y, report := impl.Upgrade(z, text); report.Code == impl.UpOk || !alike(y, z) {
					t.Fatalf("Upgrade(%s, %q) = %s, %+v", shown(z), text, shown(y), report)
				}
			}
			after := wantChange(t, z, text, changed)
			// h is asked for by the second step; what it has come into since is of its version
			if cut < 2 {
				continue
			}
			begun++
			wantSliced(t, after, 1, impl.MaxSteps, "(h 2 1 . old)")
			if z.Tasks[0].Mac.Mode == impl.MoEnd {
				break
			}
		}
		if begun < 30 {
			t.Error("hardly a step", begun)
		}
	}
	// one that has not yet asked has the new one
	z := wantChange(t, wantSliced(t, wantPosted(t, w, "(h)", 1), 1, 1, "running"), strings.ReplaceAll(lib, "old", "new"), "aa bb")
	wantSliced(t, z, 1, impl.MaxSteps, "(h 2 1 . new)")
}

// What was taken from the old version does what it did, with what the old version
// has; names of the session tell the new one.
func TestWhatWasTakenFromTheOldVersion(t *testing.T) {
	lib := "(library aa) (export f inc adder) (define v 1) (define (inc) (set! v (+ v 1))) (define (f) v) (define (adder n) (lambda (x) (+ (+ x n) v)))"
	w := worldOf(t, lib, "(library bb) (import aa) (export g) (define (g) (cons 'b (f)))")
	w = wantSaid(t, w, "(import aa) (import bb) (define oldf f) (define oldinc inc) (define oldg g) (define add (adder 100)) (define (both) (cons (f) (oldf))) (define all (cons f (cons g '())))", "ok|ok|ok|ok|ok|ok|ok|ok")
	z := wantChange(t, w, strings.NewReplacer("(define v 1)", "(define v 50)", "(+ x n)", "(* x n)").Replace(lib), "aa bb")
	z = wantSaid(t, z, "(f) (oldf) (g) (oldg) (both) ((car all)) ((car (cdr all))) (add 7) ((adder 100) 7)", "50|1|(b . 50)|(b . 1)|(50 . 1)|1|(b . 1)|108|750")
	z = wantSaid(t, z, "(oldinc) (oldf) (f) (inc) (inc) (f) (oldf) (oldg) (g) (add 7) (both) (eq? f (car all))", "2|2|50|51|52|52|2|(b . 2)|(b . 52)|109|(52 . 2)|#f")
	// once more: what was taken first is what it was, and what is taken since too
	z = wantSaid(t, z, "(define midf f) (define midinc inc)", "ok|ok")
	y := wantChange(t, z, "(library aa) (export f) (define (f) 'last) (define (adder n) 0)", "aa bb")
	wantSaid(t, y, "(f) (midf) (oldf) (g) (oldg) inc adder (midinc) (midf) (oldf) (add 7)", "last|52|2|(b . last)|(b . 2)|unbound|unbound|53|53|2|109")
	// a change that is refused leaves all of them as they were
	for _, text := range []string{"(library aa) (export f) (define f (car 1))", "(library aa) (import bb)", "(library aa) (record pt 1) (convert pt nobody)", "(library aa) (import zz)", ")"} {
		x, report := impl.Upgrade(z, text)
		if report.Code == impl.UpOk {
			t.Fatal(text, report)
		}
		wantSaid(t, x, "(f) (oldf) (g) (oldg) (add 7) (inc)", "52|2|(b . 52)|(b . 2)|109|53")
	}
	// a change of what imports alone: the session's name of the other one stays
	z = wantChange(t, w, "(library bb) (import aa) (export g) (define (g) (cons 'bb (f)))", "bb")
	wantSaid(t, z, "(g) (oldg) (eq? f oldf) (inc) (g) (oldg)", "(bb . 1)|(b . 1)|#t|2|(bb . 2)|(b . 2)")
}

func TestChangesOfWorldsThatAreNotRight(t *testing.T) {
	for _, w := range wrongWorlds(t) {
		for _, text := range []string{"(library zz)", aBase, "(library aa) (import bb)", "(library zz) (import yy)", "(", ""} {
			z, report := impl.Upgrade(w, text)
			if !alike(z, impl.World{}) || !alike(report, impl.Report{Code: impl.UpParse}) {
				t.Fatalf("Upgrade(%s, %q) = %s, %+v", shown(w), text, shown(z), report)
			}
			wantPlan(t, w, text, impl.UpParse, "")
		}
	}
}

// wantCarried asks of a cell that a change left it alone, or carried it over in its place.
func wantCarried(t *testing.T, was, now impl.Cell, s impl.Src, ver int) bool {
	t.Helper()
	if alike(was, now) {
		return false
	}
	for _, conv := range s.Convs {
		for _, typ := range s.Types {
			if typ.Name == conv.Name && was.Kind == impl.CeRec && was.S == s.Name+":"+typ.Name && was.A < ver {
				want := impl.Cell{Kind: impl.CeRec, S: was.S, A: ver, Vals: now.Vals}
				if !alike(now, want) || len(now.Vals) != typ.Size {
					t.Fatalf("%s has become %s", shown(was), shown(now))
				}
				return true
			}
		}
	}
	t.Fatalf("%s has become %s", shown(was), shown(now))
	return false
}

// wantStays asks of an Inst that it has all it had; its values may be others, as
// what is run may set them.
func wantStays(t *testing.T, was, now impl.Inst) {
	t.Helper()
	if was.Vals, was.Links = nil, nil; !alike(was, impl.Inst{Lib: now.Lib, Ver: now.Ver, Names: now.Names, Types: now.Types}) {
		t.Fatalf("%s has become %s", shown(was), shown(now))
	}
}

// wantLinksLed asks of the Links of the session that each leads to what that library
// has now, where it is exported.
func wantLinksLed(t *testing.T, w, z impl.World) {
	t.Helper()
	var want []impl.Link
	for _, l := range w.Sys.Insts[0].Links {
		in := w.Sys.Insts[l.Inst]
		if impl.Current(w, in.Lib) != l.Inst {
			want = append(want, l)
			continue
		}
		for _, e := range z.Libs {
			if e.Src.Name == in.Lib && slices.Contains(e.Src.Exports, l.At) {
				want = append(want, link(l.Name, impl.Current(z, in.Lib), l.At))
				v, is := impl.Lookup(z.Sys, e.Inst, l.At)
				if told, tells := impl.Lookup(z.Sys, 0, l.Name); !is || !tells || told != v {
					t.Fatalf("%s tells %v; want %v", l.Name, told, v)
				}
			}
		}
	}
	if !alike(z.Sys.Insts[0].Links, want) {
		t.Fatalf("Links were %v, and are %v; want %v", w.Sys.Insts[0].Links, z.Sys.Insts[0].Links, want)
	}
}

// wantAllOrNothing asks for what the promise says of each change, in its own words,
// and tells the world, the report, and how many records were carried over.
func wantAllOrNothing(t *testing.T, w impl.World, text string) (impl.World, impl.Report, int) {
	t.Helper()
	given := deepWorld(w)
	z, report := impl.Upgrade(w, text)
	made, code := impl.Plan(w, text)
	if !alike(w, given) {
		t.Fatalf("%q changes what is handed in: %s", text, shown(w))
	}
	if report.Code != impl.UpOk {
		if !alike(z, w) || len(report.Made) > 0 {
			t.Fatalf("Upgrade(%s, %q) = %s, %+v", shown(w), text, shown(z), report)
		}
		began := report.Code >= impl.UpMake && code == impl.UpOk
		if !began && (code != report.Code || len(made) > 0) || began && len(made) == 0 {
			t.Fatalf("Plan(.., %q) = %v, %d where Upgrade tells %+v", text, made, code, report)
		}
		return z, report, 0
	}
	if code != impl.UpOk || !alike(made, report.Made) || report.Detail != 0 || !impl.WorldOk(z) {
		t.Fatalf("Upgrade(%s, %q) = %s, %+v where Plan tells %v, %d", shown(w), text, shown(z), report, made, code)
	}
	s := source(t, text)
	had := map[string]impl.Ent{}
	for _, e := range w.Libs {
		had[e.Src.Name] = e
	}
	count, carried, insts := len(had), 0, len(w.Sys.Insts)
	if _, is := had[s.Name]; !is {
		count++
	}
	had[s.Name] = impl.Ent{Src: s, Ver: had[s.Name].Ver, Inst: had[s.Name].Inst}
	if len(z.Libs) != count || len(z.Sys.Insts) != insts+len(made) {
		t.Fatalf("there are %s", standing(z))
	}
	for _, e := range z.Libs {
		want := had[e.Src.Name]
		if at := slices.Index(made, e.Src.Name); at != -1 {
			want.Ver, want.Inst = want.Ver+1, insts+at
		}
		if !alike(e, want) {
			t.Fatalf("%q makes %s of %s", text, shown(e), shown(had[e.Src.Name]))
		}
	}
	for i, in := range w.Sys.Insts {
		wantStays(t, in, z.Sys.Insts[i])
		if i > 0 && !alike(in.Links, z.Sys.Insts[i].Links) {
			t.Fatalf("Inst %d was %s, and is %s", i, shown(in), shown(z.Sys.Insts[i]))
		}
	}
	for i, c := range w.Sys.Heap {
		if wantCarried(t, c, z.Sys.Heap[i], s, had[s.Name].Ver+1) {
			carried++
		}
	}
	units, out := len(w.Sys.Units), len(w.Sys.Out)
	if !alike(z.Sys.Units[:units], w.Sys.Units) || !alike(z.Sys.Out[:out], w.Sys.Out) || !alike(z.Tasks, w.Tasks) || z.Next != w.Next {
		t.Fatalf("Upgrade(%s, %q) = %s", shown(w), text, shown(z))
	}
	wantLinksLed(t, w, z)
	return z, report, carried
}

// toldByOld tells what each function that a library has made answers when it is
// called with a number; and whether it was full.
func toldByOld(w impl.World, cells int) ([]string, []bool) {
	var told []string
	var full []bool
	for i, c := range w.Sys.Heap[:cells] {
		if c.Kind != impl.CeFn || w.Sys.Units[c.A].Home == 0 {
			continue
		}
		args := slices.Repeat(vals(numVal(5)), len(w.Sys.Units[c.A].Prog.Nodes[c.B].Names))
		y, m := impl.Apply(w.Sys, fnVal(i), args, impl.DefFuel)
		answer := impl.Answer(y, m)
		told, full = append(told, answer), append(full, answer == "full")
	}
	return told, full
}

// Whatever is changed in whatever world, it is changed as a whole or not at all.
func TestAllOrNothingByChance(t *testing.T) {
	t.Parallel()
	m := maker{rand.New(rand.NewSource(181))}
	codes, carried, asked := map[int]int{}, 0, 0
	for range 70 {
		w := impl.NewWorld()
		for range 25 {
			text := m.change(names("aa bb cc dd ee"), libsOf(w))
			switch m.r.Intn(6) {
			case 0, 1:
				text = m.edition()
			case 2, 3:
				text = m.carrying(m.pick("aa", "bb"), nil)
			}
			z, report, count := wantAllOrNothing(t, w, text)
			codes[report.Code]++
			carried += count
			if report.Code == impl.UpOk && len(z.Sys.Units) < impl.MaxUnits && count == 0 && alike(z.Sys.Insts[1:len(w.Sys.Insts)], w.Sys.Insts[1:]) {
				had, _ := toldByOld(w, len(w.Sys.Heap))
				has, full := toldByOld(z, len(w.Sys.Heap))
				for i, answer := range had {
					if asked++; has[i] != answer && !full[i] {
						t.Fatalf("%q: function %d answers %s; it was %s", text, i, has[i], answer)
					}
				}
			}
			w, _ = impl.Say(z, m.taken(z)+m.sayings(z, 2))
			if m.r.Intn(3) == 0 {
				w, _ = impl.Post(w, m.pick("(f 1)", "(g 'a)", "(cons rec rec)", "((lambda (x) (cons (f x) (g x))) 3)"))
			}
			for _, task := range w.Tasks {
				w, _ = impl.Slice(w, task.Id, m.r.Intn(6))
			}
			if len(w.Sys.Units) > 45 || len(w.Sys.Insts) > 9 {
				w = impl.Sweep(w)
			}
		}
	}
	if carried < 100 || asked < 500 {
		t.Error("hardly anything was there", carried, asked)
	}
	for code := impl.UpOk; code <= impl.UpConv; code++ {
		if code != impl.UpParse && codes[code] < 10 {
			t.Error("one sort of change was hardly there", codes)
		}
	}
}
