package tests

import (
	"fmt"
	"math/rand"
	"slices"
	"strings"
	"testing"

	"loop.example/g00765/impl"
)

// modelPortrait says it in the document's own words, of a right world.
func modelPortrait(w impl.World) string {
	var lines []string
	for _, e := range w.Libs {
		lines = append(lines, fmt.Sprintf("%s %d", e.Src.Name, e.Ver))
	}
	session := w.Sys.Insts[0]
	for i, name := range session.Names {
		if session.Vals[i] != (impl.Value{}) {
			lines = append(lines, name+" "+impl.Text(w.Sys.Heap, session.Vals[i]))
		}
	}
	for _, l := range session.Links {
		if v, ok := impl.Lookup(w.Sys, 0, l.Name); ok {
			lines = append(lines, l.Name+" "+impl.Text(w.Sys.Heap, v))
		}
	}
	for _, task := range w.Tasks {
		lines = append(lines, fmt.Sprintf("%d %s", task.Id, modelAnswer(w.Sys, task.Mac)))
	}
	return each(slices.Concat(lines, w.Sys.Out), "", "\n")
}

func wantPortraitAsModelled(t *testing.T, what string, w impl.World) string {
	t.Helper()
	got, want := impl.Portrait(w), modelPortrait(w)
	if got != want {
		t.Fatalf("%s: Portrait(%s) = %.900q; want %.900q", what, shown(w), got, want)
	}
	return got
}

// wantPortrait asks for these lines, with a | between.
func wantPortrait(t *testing.T, what string, w impl.World, want string) {
	t.Helper()
	if !impl.WorldOk(w) {
		t.Fatalf("%s: the world is not right: %s", what, shown(w))
	}
	lines := ""
	if want != "" {
		lines = each(strings.Split(want, "|"), "", "\n")
	}
	if got := wantPortraitAsModelled(t, what, w); got != lines {
		t.Errorf("%s: Portrait = %.900q; want %.900q", what, got, lines)
	}
}

func TestPortraitOfLibraries(t *testing.T) {
	wantPortrait(t, "new", impl.NewWorld(), "")
	w := worldOf(t, "(library zz)", "(library mm) (export v) (define v 1)", "(library aa) (import zz)")
	wantPortrait(t, "by Name", w, "aa 1|mm 1|zz 1")
	w = upgraded(t, upgraded(t, w, "(library zz)"), "(library mm)")
	wantPortrait(t, "as they are now", w, "aa 2|mm 2|zz 2")
	w = upgraded(t, w, "(library aa)")
	wantPortrait(t, "as they are now", w, "aa 3|mm 2|zz 2")
	w = manyLibs(t, impl.MaxLibs)
	w.Libs[3].Ver, w.Sys.Insts[4].Ver = 1000, 1000
	wantPortrait(t, "six", w, "x0 7|x1 7|x2 7|x3 1000|x4 7|x5 7")
	// an Inst is no library
	w.Libs = w.Libs[2:4]
	wantPortrait(t, "two of six Insts", w, "x2 7|x3 1000")
}

func TestPortraitOfNames(t *testing.T) {
	w := saidAfter(t, impl.NewWorld(), "(define z 5) (define l '(1 (2 . x) #t)) (define f (lambda () 1)) (define a #f) (define none '()) (define s 'z)")
	wantPortrait(t, "values of all sorts", w, "z 5|l (1 (2 . x) #t)|f fn|a #f|none ()|s z")
	w = saidAfter(t, w, "(define f -7) (define more f)")
	wantPortrait(t, "in their places", w, "z 5|l (1 (2 . x) #t)|f -7|a #f|none ()|s z|more -7")
	y := someSys()
	y.Insts[0].Names, y.Insts[0].Vals, y.Insts[0].Links = names("u p v r w"), vals(impl.Value{}, pairVal(0), impl.Value{}, recVal(4), impl.Value{}), nil
	y.Out = nil
	wantPortrait(t, "some without a value", talking(y), "p "+impl.Text(y.Heap, pairVal(0))+"|r #"+y.Heap[4].S)
	y.Insts[0].Vals = vals(impl.Value{}, impl.Value{}, impl.Value{}, impl.Value{}, numVal(0))
	wantPortrait(t, "the last one alone", talking(y), "w 0")
	y.Insts[0].Vals = make([]impl.Value, 5)
	wantPortrait(t, "none has one", talking(y), "")
	all := impl.NewSys()
	var want []string
	for i, name := range namesUpTo(30) {
		all.Insts[0].Names, all.Insts[0].Vals = append(all.Insts[0].Names, name), append(all.Insts[0].Vals, numVal(i))
		want = append(want, name+" "+impl.Dec(i))
	}
	wantPortrait(t, "as many as there may be", talking(all), strings.Join(want, "|"))
}

// A Link is seen by its Name, where it leads to a value; it may lead to one that another Link has not.
func TestPortraitOfLinks(t *testing.T) {
	w := worldOf(t, "(library aa) (export v f) (define v '(1)) (define (f) 1)", "(library bb) (import aa) (export w) (define w 2)")
	w = saidAfter(t, w, "(import bb) (define x 1) (import aa)")
	wantPortrait(t, "imported", w, "aa 1|bb 1|x 1|w 2|v (1)|f fn")
	w = saidAfter(t, w, "(define v 'mine)")
	wantPortrait(t, "one is the session's own", w, "aa 1|bb 1|x 1|v mine|w 2|f fn")
	w = upgraded(t, w, "(library aa) (export v more f) (define v 7) (define more 8) (define f 9)")
	wantPortrait(t, "changed", w, "aa 2|bb 2|x 1|v mine|w 2|f 9")
	// where a Link leads to nothing
	y := impl.NewSys()
	y.Insts[0] = impl.Inst{Names: names("a e"), Vals: vals(numVal(1), impl.Value{}), Links: []impl.Link{
		link("b", 1, "x"), link("c", 1, "u"), link("d", 1, "nobody"), link("x", 1, "far"), link("far", 2, "far"), link("u", 0, "a"), link("g", 0, "e"), link("h", 0, "b"), link("k", 2, "far"),
	}}
	y.Insts = append(y.Insts,
		impl.Inst{Lib: "aa", Ver: 1, Names: names("x u"), Vals: vals(symVal("of-aa"), impl.Value{}), Links: []impl.Link{link("far", 2, "far")}},
		impl.Inst{Lib: "bb", Ver: 1, Names: names("far"), Vals: vals(boolVal(0))},
	)
	wantPortrait(t, "by hand", talking(y), "a 1|b of-aa|far #f|u 1|k #f")
	y.Insts[0].Links = y.Insts[0].Links[1:3]
	wantPortrait(t, "none leads to a value", talking(y), "a 1")
}

func TestPortraitOfTasks(t *testing.T) {
	w := impl.NewWorld()
	for text, want := range map[string]string{
		"7": "7", "'(1 2)": "(1 2)", "nobody": "unbound", "(car 1)": "type", "(* 1000 (* 1000 1000))": "range", "(error '(a))": "error (a)", "((lambda (x) x))": "arity",
		"((lambda (f) (cons 1 (f f))) (lambda (f) (cons 1 (f f))))": "depth", "(begin (print 1) (lambda () 1))": "fn", endless[0]: "running",
	} {
		z := posted(t, w, text, impl.MaxSteps)
		z.Sys.Out = nil
		wantPortrait(t, text, z, "1 "+want)
		z.Tasks[0].Id, z.Next = 99999, 100000
		wantPortrait(t, text, z, "99999 "+want)
		if z = posted(t, w, text, 0); impl.Portrait(z) != "1 running\n" {
			t.Errorf("%s: at its beginning it is %q", text, impl.Portrait(z))
		}
	}
	z := w
	z.Sys = filled(z.Sys, impl.MaxHeap)
	wantPortrait(t, "full", posted(t, z, "(cons 1 2)", 99), "1 full")
	w.Next = 5
	w = posted(t, posted(t, posted(t, w, "(cons 1 2)", 99), "2", 1), "'c", 5)
	wantPortrait(t, "three", w, "5 (1 . 2)|6 running|7 c")
	w.Tasks = slices.Delete(w.Tasks, 1, 2)
	wantPortrait(t, "two of them", w, "5 (1 . 2)|7 c")
}

// What was printed may have any bytes.
func TestPortraitOfWhatWasPrinted(t *testing.T) {
	w := saidAfter(t, impl.NewWorld(), "(print 1) (print '(a b)) (print 1)")
	wantPortrait(t, "printed", w, "1|(a b)|1")
	w.Sys.Out = []string{"", "a\nb", "\xff\x00", "", " x ", "|"}
	if got, want := wantPortraitAsModelled(t, "any bytes", w), "\na\nb\n\xff\x00\n\n x \n|\n"; got != want {
		t.Errorf("Portrait = %q; want %q", got, want)
	}
	w.Sys.Out = slices.Repeat([]string{"x"}, impl.MaxOut)
	wantPortrait(t, "as much as may be printed", w, strings.TrimSuffix(strings.Repeat("x|", impl.MaxOut), "|"))
	w.Sys.Out = []string{""}
	if got := wantPortraitAsModelled(t, "an empty text", w); got != "\n" {
		t.Errorf("Portrait = %q", got)
	}
}

func TestWholePortraits(t *testing.T) {
	w := worldOf(t, aBase, aMiddle, "(library dd)")
	w = saidAfter(t, w, "(import bb) (import aa) (define x '(1)) (print 'hello)")
	w = posted(t, posted(t, w, "(mk 5)", 99), "(begin (print 'there) base)", 3)
	wantPortrait(t, "all of it", w, "aa 1|bb 1|dd 1|x (1)|pt? fn|mk fn|base 7|bump fn|1 #bb:pt|2 running|hello")
	w = upgraded(t, sliced(w, 1, 99), strings.ReplaceAll(aBase, "7", "70"))
	wantPortrait(t, "later", w, "aa 2|bb 2|dd 1|x (1)|pt? fn|mk fn|base 70|bump fn|1 #bb:pt|2 7|hello|there")
	w = fullWorld(t)
	wantPortrait(t, "full", w, "aa 1|bb 1|cc 1|dd 1|twice fn|base 8|bump fn|1 running|2 running|3 (#bb:pt 7)|4 error 8|5 unbound|(#bb:pt 7)")
}

// Texts are cut as Text cuts them, each for itself.
func TestLongPortraits(t *testing.T) {
	w := saidAfter(t, impl.NewWorld(), "(define x '(abcdefgh)) (define (twice n) (if (= n 0) 'ok (begin (set! x (cons x x)) (twice (- n 1))))) (twice 14) (define y x)")
	w = posted(t, posted(t, w, "x", 9), "(error x)", 9)
	got := strings.Split(wantPortraitAsModelled(t, "long", w), "\n")
	for i, ahead := range []string{"x ", "", "y ", "1 ", "2 error "} {
		if ahead != "" && (!strings.HasPrefix(got[i], ahead+"((") || len(got[i]) != impl.MaxTell+len(ahead)) {
			t.Errorf("line %d has %d bytes: %.50q", i, len(got[i]), got[i])
		}
	}
}

func TestPortraitOfWorldsThatAreNotRight(t *testing.T) {
	for _, w := range wrongWorlds(t) {
		if got := impl.Portrait(w); got != "" {
			t.Fatalf("Portrait(%s) = %q", shown(w), got)
		}
	}
}

func TestPortraitsByChance(t *testing.T) {
	t.Parallel()
	r := rand.New(rand.NewSource(201))
	lines := map[string]int{}
	for range 400 {
		s, w := worldByChance(r)
		wantPortraitAsModelled(t, "by chance", w)
		lines["libs"] += len(w.Libs)
		lines["tasks"] += len(w.Tasks)
		lines["links"] += len(w.Sys.Insts[0].Links)
		lines["names"] += len(w.Sys.Insts[0].Names)
		lines["out"] += len(w.Sys.Out)
		if s.spoilWorld(&w); rightWorld(w) {
			wantPortraitAsModelled(t, "spoilt", w)
		} else if got := impl.Portrait(w); got != "" {
			t.Fatalf("Portrait(%s) = %q", shown(w), got)
		}
	}
	m, codes := maker{r}, map[int]int{}
	for range 40 {
		w := impl.NewWorld()
		for range 20 {
			w = m.done(t, w, codes)
			w, _ = impl.Say(w, m.sayings(w, 3))
			wantPortraitAsModelled(t, "gone on", w)
		}
	}
	for _, sort := range names("libs tasks links names out") {
		if lines[sort] < 300 {
			t.Error("one sort was hardly there", lines)
		}
	}
}

func TestPortraitLeavesWhatIsHandedIn(t *testing.T) {
	for _, w := range worldsOfAllSorts(t) {
		given := roomyOf(w)
		before := wholeOf(given)
		seen := impl.Portrait(given)
		if !alike(wholeOf(given), before) {
			t.Fatalf("Portrait(%s) changes what is handed in", shown(w))
		}
		if !shareNone([]any{given}, []any{seen}) {
			t.Fatalf("Portrait(%s) shares memory", shown(w))
		}
		// nothing is kept, and what stands in the spare room is not looked at
		if again := impl.Portrait(w); again != seen {
			t.Fatalf("Portrait(%s) = %q; %q the second time", shown(w), seen, again)
		}
	}
}

// modelExports says it in the document's own words.
func modelExports(w impl.World, lib string) []string {
	var told []string
	for _, e := range w.Libs {
		if e.Src.Name == lib && rightWorld(w) {
			told = append(told, e.Src.Exports...)
		}
	}
	return told
}

// wantExports asks for the names of just these libraries: a colon stands behind each library, and nobody else has some.
func wantExports(t *testing.T, what string, w impl.World, want string) {
	t.Helper()
	all := map[string][]string{}
	lib := ""
	for _, word := range names(want) {
		if named, is := strings.CutSuffix(word, ":"); is {
			lib = named
			all[lib] = nil
			continue
		}
		all[lib] = append(all[lib], word)
	}
	for lib, exports := range all {
		if got := impl.Exports(w, lib); !alike(got, exports) {
			t.Errorf("%s: Exports(.., %q) = %q; want %q", what, lib, got, exports)
		}
	}
	nobodies := []string{"", "a", "zz", "if", "import", "%t", "f", "v", "aa ", " aa", "AA", "a\x00", "aa\n", "a b", "(aa)", "5", strings.Repeat("aa", 99)}
	for i := range w.Sys.Insts {
		nobodies = append(nobodies, w.Sys.Insts[i].Lib)
	}
	for i := range w.Libs {
		nobodies = slices.Concat(nobodies, w.Libs[i].Src.Exports, w.Libs[i].Src.Imports)
	}
	for _, lib := range nobodies {
		if _, is := all[lib]; is {
			continue
		}
		if got := impl.Exports(w, lib); len(got) != 0 {
			t.Errorf("%s: Exports(.., %q) = %q; want nothing", what, lib, got)
		}
	}
}

// wantValued asks whether what each library exports has a value there: its own one.
func wantValued(t *testing.T, what string, w impl.World) int {
	t.Helper()
	if !impl.WorldOk(w) {
		t.Fatalf("%s: the world is not right: %s", what, shown(w))
	}
	count := 0
	for _, e := range w.Libs {
		exports, at := impl.Exports(w, e.Src.Name), impl.Current(w, e.Src.Name)
		if !alike(exports, e.Src.Exports) {
			t.Fatalf("%s: %s exports %q; want %q", what, e.Src.Name, exports, e.Src.Exports)
		}
		for _, name := range exports {
			own := slices.Index(w.Sys.Insts[at].Names, name)
			if v, ok := impl.Lookup(w.Sys, at, name); !ok || v == (impl.Value{}) || own == -1 || !alike(v, w.Sys.Insts[at].Vals[own]) {
				t.Fatalf("%s: %s exports %s, and that is %v, %v there: %s", what, e.Src.Name, name, v, ok, shown(w.Sys.Insts[at]))
			}
			count++
		}
	}
	return count
}

func TestExportsOfLibraries(t *testing.T) {
	wantExports(t, "no library", impl.NewWorld(), "")
	wantExports(t, "one", worldOf(t, aBase), "aa: base bump")
	wantExports(t, "several", worldOf(t, aBase, aMiddle, aTop, "(library dd)"), "aa: base bump bb: pt? mk cc: twice dd:")
	wantExports(t, "as they come in the text", worldOf(t, "(library aa) (export z b) (define a 1) (define b 2) (export m) (define m 3) (define z 4) (export a)"), "aa: z b m a")
	wantExports(t, "not what else is defined", worldOf(t, "(library aa) (define a 1) (export b) (define b 2) (define c 3)"), "aa: b")
	wantExports(t, "none", worldOf(t, "(library aa) (define a 1) (record pt 1) (convert pt (lambda (r) '(1)))", "(library bb) (import aa) (export)"), "aa: bb:")
	wantExports(t, "values of all sorts", worldOf(t, "(library aa) (export n b e s p f r) (record pt 0) (define n -7) (define b #f) (define e '()) (define s 's) (define p '(1)) (define (f) 1) (define r (make pt))"), "aa: n b e s p f r")
	wantExports(t, "names like those of others", worldOf(t, "(library aa) (export aa bb) (define aa 1) (define bb 2)", "(library bb) (import aa) (export bb aa) (define aa 3) (define bb 4)"), "aa: aa bb bb: bb aa")
	// what is imported is the other one's
	wantExports(t, "imported", worldOf(t, aBase, "(library bb) (import aa) (export sum) (define sum (+ base 1))"), "aa: base bump bb: sum")
	wantExports(t, "by hand", byHand(t), "aa: p v bb: r")
}

func TestExportsOfAsManyAsThereMayBe(t *testing.T) {
	all := namesUpTo(30)
	wantExports(t, "30 names", worldOf(t, exporting("aa", all)), "aa: "+strings.Join(all, " "))
	wantExports(t, "30 names backwards", worldOf(t, "(library aa) (export "+strings.Join(backwards(all), " ")+")"+each(all, " (define ", " '())")), "aa: "+strings.Join(backwards(all), " "))
	w, want := impl.NewWorld(), ""
	for i := range impl.MaxLibs {
		lib, own := "lib"+impl.Dec(i), backwards(all)[i:i+5]
		w = upgraded(t, w, exporting(lib, own))
		want += " " + lib + ": " + strings.Join(own, " ")
		wantExports(t, "more and more", w, want)
	}
	wantRefusal(t, w, exporting("more", all), impl.UpFull, 0)
	wantExports(t, "one that is too many", w, want)
	// the longest names
	long := strings.Repeat("x", impl.MaxSym)
	wantExports(t, "long", worldOf(t, "(library "+long+") (export y "+long+") (define "+long+" 1) (define y 1)"), long+": y "+long)
	// 30 of each library, as far as a system has room for libraries
	w, want = manyLibs(t, impl.MaxLibs), ""
	for i := range w.Libs {
		own := slices.Concat(backwards(all)[i:], backwards(all)[:i])
		in := &w.Sys.Insts[i+1]
		for _, name := range own {
			w.Libs[i].Src.Defs = append(w.Libs[i].Src.Defs, defOf(t, name, "1"))
			in.Names, in.Vals = append(in.Names, name), append(in.Vals, numVal(i))
		}
		w.Libs[i].Src.Exports = backwards(own)
		want += " " + in.Lib + ": " + strings.Join(backwards(own), " ")
	}
	wantWorld(t, "by hand", w, true)
	wantExports(t, "by hand", w, want)
}

// Of each library it is what the source has that stands there now.
func TestExportsByVersions(t *testing.T) {
	w := worldOf(t, "(library aa) (export v f) (define v 4) (define (f x) x)", "(library bb) (import aa) (export w) (define w 5)")
	w = saidAfter(t, w, "(import aa) (define old f)")
	wantExports(t, "at first", w, "aa: v f bb: w")
	first := w
	w = upgraded(t, w, "(library aa) (export g v) (define (g) 1) (define v 6)")
	wantExports(t, "another one", w, "aa: g v bb: w")
	wantAlive(t, "another one", w, "aa", "1 2")
	wantExports(t, "the world that was handed in", first, "aa: v f bb: w")
	for text, code := range map[string]int{
		"(library aa) (export x": impl.UpParse, "(library aa) (export x)": impl.UpParse, "(library aa) (import zz) (export x) (define x 1)": impl.UpMissing,
		"(library aa) (import bb) (export x) (define x 1)": impl.UpCycle, "(library aa) (export x) (define x (car 1))": impl.UpMake, "(library aa) (export x) (define x nobody)": impl.UpMake,
	} {
		z, report := impl.Upgrade(w, text)
		if report.Code != code {
			t.Errorf("%s makes %+v", text, report)
		}
		wantExports(t, text, z, "aa: g v bb: w")
	}
	w = upgraded(t, w, "(library bb) (export)")
	wantExports(t, "none any more", w, "aa: g v bb:")
	w = upgraded(t, w, "(library aa)")
	wantExports(t, "none any more", w, "aa: bb:")
	w = upgraded(t, w, "(library bb) (export x w) (import aa) (define w 1) (define x 2)")
	wantExports(t, "some once more", w, "aa: bb: x w")
	wantExports(t, "swept", impl.Sweep(w), "aa: bb: x w")
	// at its end no other comes
	w = byHand(t)
	wantRefusal(t, w, "(library bb) (export more) (define more 1)", impl.UpFull, 0)
	wantExports(t, "version 1000", w, "aa: p v bb: r")
}

// A library that stands in an older version alone is none.
func TestExportsOfThoseThatAreNoMore(t *testing.T) {
	w := worldOf(t, aBase, aMiddle, aTop)
	w.Libs = w.Libs[:1]
	wantWorld(t, "two are Insts alone", w, true)
	wantExports(t, "two are Insts alone", w, "aa: base bump")
	w.Libs = nil
	wantWorld(t, "all are Insts alone", w, true)
	wantExports(t, "all are Insts alone", w, "")
	// an older Inst of one that is there says nothing
	w = upgraded(t, worldOf(t, "(library aa) (export v) (define v 1)"), "(library aa) (export w) (define w 2)")
	wantExports(t, "the second one", w, "aa: w")
	w.Libs[0].Ver, w.Libs[0].Inst, w.Libs[0].Src = 1, 1, source(t, "(library aa) (export v) (define v 1)")
	wantExports(t, "the first one once more", w, "aa: v")
	// neither the session's names nor its Links
	w = saidAfter(t, w, "(import aa) (define x 1)")
	wantExports(t, "a session", w, "aa: v")
}

func TestExportsOfWorldsThatAreNotRight(t *testing.T) {
	asked := 0
	for _, w := range wrongWorlds(t) {
		libs := names("aa bb cc x0 x1 zz if")
		for _, e := range w.Libs {
			libs = append(libs, e.Src.Name)
			asked += len(e.Src.Exports)
		}
		for _, lib := range append(libs, "") {
			if got := impl.Exports(w, lib); len(got) != 0 {
				t.Fatalf("Exports(%s, %q) = %q", shown(w), lib, got)
			}
		}
	}
	if asked < 100 {
		t.Error("hardly a name was there", asked)
	}
	wantExports(t, "nothing", impl.World{}, "")
}

// What is exported is what an import of the session takes, and each of it tells a value then.
func TestExportsAreWhatIsImported(t *testing.T) {
	w := worldOf(t, aBase, aMiddle, aTop, "(library dd)", exporting("ee", namesUpTo(30)))
	for _, e := range w.Libs {
		exports := impl.Exports(w, e.Src.Name)
		z := wantSaid(t, w, "(import "+e.Src.Name+")", "ok")
		var links []impl.Link
		for _, name := range exports {
			links = append(links, link(name, e.Inst, name))
			if _, answers := impl.Say(z, name); len(answers) != 1 || answers[0] == "unbound" {
				t.Errorf("%s of %s is answered %q", name, e.Src.Name, answers)
			}
		}
		wantSession(t, z, "", links...)
		lines := strings.Split(strings.TrimSuffix(strings.TrimPrefix(impl.Portrait(z), impl.Portrait(w)), "\n"), "\n")
		for i, name := range exports {
			if !strings.HasPrefix(lines[i], name+" ") || len(lines) != len(exports) {
				t.Errorf("%s exports %q, and seen are %q", e.Src.Name, exports, lines)
			}
		}
	}
}

// A name that has no value is not seen, and no library exports it; where it comes to have one it is seen in its place.
func TestNamesWithoutAValue(t *testing.T) {
	w := byHand(t)
	w.Sys.Out, w.Tasks = nil, nil
	w.Sys.Insts[0].Names, w.Sys.Insts[0].Vals = names("a b c"), vals(numVal(1), impl.Value{}, numVal(3))
	w.Sys.Insts[0].Links = []impl.Link{link("u", 1, "u"), link("v", 1, "v"), link("no", 1, "nobody"), link("mine", 0, "b"), link("far", 2, "a"), link("last", 0, "c")}
	wantPortrait(t, "the session has one without", w, "aa 1|bb 1000|a 1|c 3|v 4|last 3")
	wantExports(t, "u of aa is without", w, "aa: p v bb: r")
	wantSaid(t, w, "b u no mine far", "unbound|unbound|unbound|unbound|unbound")
	wantPortrait(t, "it has one now", saidAfter(t, w, "(define b 'two)"), "aa 1|bb 1000|a 1|b two|c 3|v 4|mine two|last 3")
	z := wantSaid(t, w, "(define c nobody) (define d (car 1)) (define b b) (define no u)", "unbound|type|unbound|unbound")
	wantPortrait(t, "what comes to nothing", z, "aa 1|bb 1000|a 1|c 3|v 4|last 3")
	z = saidAfter(t, w, "(define u 5) (define no 6)")
	wantPortrait(t, "Links that are names now", z, "aa 1|bb 1000|a 1|c 3|u 5|no 6|v 4|last 3")
	// the one that aa has without a value may not be exported
	for _, place := range []int{0, 1, 2} {
		z := deepWorld(w)
		z.Libs[0].Src.Defs = append(z.Libs[0].Src.Defs, defOf(t, "u", "1"))
		wantExports(t, "u is defined", z, "aa: p v bb: r")
		z.Libs[0].Src.Exports = slices.Insert(names("p v"), place, "u")
		wantWorld(t, "u is exported", z, false)
		wantExports(t, "u is exported", z, "")
		if seen := impl.Portrait(z); seen != "" {
			t.Errorf("u is exported, and seen is %q", seen)
		}
		z.Sys.Insts[1].Vals[1] = boolVal(0)
		wantExports(t, "u has a value", z, "aa: "+strings.Join(slices.Insert(names("p v"), place, "u"), " ")+" bb: r")
		wantPortrait(t, "u has a value", z, "aa 1|bb 1000|a 1|c 3|u #f|v 4|last 3")
	}
	// what has none any more
	for i, name := range w.Sys.Insts[1].Names {
		z := deepWorld(w)
		z.Sys.Insts[1].Vals[i] = impl.Value{}
		if is := slices.Contains(w.Libs[0].Src.Exports, name); impl.WorldOk(z) == is || (len(impl.Exports(z, "aa")) == 0) != is || (len(impl.Exports(z, "bb")) == 0) != is || (impl.Portrait(z) == "") != is {
			t.Errorf("without a value of %s aa exports %q", name, impl.Exports(z, "aa"))
		}
	}
}

// A name that is exported no more is none of the session's, and not seen any more.
func TestNamesThatAreGone(t *testing.T) {
	w := saidAfter(t, worldOf(t, "(library aa) (export v f w) (define v 1) (define (f) v) (define w 3)"), "(import aa) (define x f) (define w 'mine)")
	wantPortrait(t, "all of them", w, "aa 1|x fn|w mine|v 1|f fn")
	w = upgraded(t, w, "(library aa) (export f w) (define v 2) (define (f) v) (define w 4)")
	wantPortrait(t, "v is not exported", w, "aa 2|x fn|w mine|f fn")
	wantExports(t, "v is not exported", w, "aa: f w")
	wantSaid(t, w, "v (x) (f)", "unbound|1|2")
	w = upgraded(t, w, "(library aa) (export v) (define v 5)")
	wantPortrait(t, "v alone, and not taken", w, "aa 3|x fn|w mine")
	wantExports(t, "v alone", w, "aa: v")
	w = saidAfter(t, w, "(import aa)")
	wantPortrait(t, "taken", w, "aa 3|x fn|w mine|v 5")
}

// A task that has ended with no value, as none does that was begun here.
func TestPortraitOfTasksThatToldNothing(t *testing.T) {
	w := impl.NewWorld()
	w.Sys.Units = someUnits()[:1]
	w.Next = 9
	for i, code := range []int{impl.EnDone, impl.EnUnbound, impl.EnType, impl.EnRange, impl.EnUser, impl.EnArity} {
		w.Tasks = append(w.Tasks, impl.Task{Id: i + 1, Mac: impl.Machine{Mode: impl.MoEnd, End: code}})
	}
	wantPortrait(t, "ended", w, "1 |2 unbound|3 type|4 range|5 error |6 arity")
	w.Tasks = w.Tasks[:2]
	w.Tasks[0].Mac.End, w.Tasks[1].Mac.End = impl.EnDepth, impl.EnFull
	wantPortrait(t, "ended", w, "1 depth|2 full")
}

// A text is as long as Text lets it be, and the others are as they are.
func TestPortraitAtTheEndOfTexts(t *testing.T) {
	for _, long := range []int{impl.MaxTell - 2, impl.MaxTell - 1, impl.MaxTell, 2 * impl.MaxTell} {
		word := strings.Repeat("x", long)
		cut := ("#" + word)[:min(1+long, impl.MaxTell)]
		w := worldOf(t, "(library aa) (export v) (define v 0)")
		w.Sys.Heap = append(w.Sys.Heap, recCell(word, 0))
		w.Sys.Insts[1].Vals[0] = recVal(0)
		w = saidAfter(t, w, "(import aa) (define x v)")
		w = posted(t, posted(t, w, "x", 9), "(error v)", 9)
		w.Sys.Out = []string{word, "y"}
		wantPortrait(t, fmt.Sprint(long), w, strings.Join([]string{"aa 1", "x " + cut, "v " + cut, "1 " + cut, "2 error " + cut, word, "y"}, "|"))
		w.Sys.Out = []string{"", ""}
		w.Sys.Insts[0].Vals[0] = numVal(0)
		wantPortrait(t, fmt.Sprint(long), w, strings.Join([]string{"aa 1", "x 0", "v " + cut, "1 " + cut, "2 error " + cut, "", ""}, "|"))
	}
	// the longest names, each of them whole
	long := strings.Repeat("x", impl.MaxSym)
	w := saidAfter(t, worldOf(t, "(library "+long+") (export "+long+") (define "+long+" '"+long+")"), "(import "+long+") (define y"+long[1:]+" "+long+")")
	wantPortrait(t, "names", w, long+" 1|y"+long[1:]+" "+long+"|"+long+" "+long)
}

// As many lines as there may be, each of them in its place.
func TestPortraitOfAsManyAsThereMayBe(t *testing.T) {
	w := impl.NewWorld()
	var libs, own, links, tasks []string
	for i := range impl.MaxLibs {
		w = upgraded(t, w, exporting("lib"+impl.Dec(9-i), namesUpTo(30)[5*i:5*i+5]))
		libs = slices.Insert(libs, 0, "lib"+impl.Dec(9-i)+" 1")
	}
	w = withTasks(t, w, names("1 'two nobody")...)
	w = withTasks(t, w, "(car 1)", "(error '(1 2))", "(print 1)")
	w = wantRounded(t, w, 20)
	tasks = []string{"1 1", "2 two", "3 unbound", "4 type", "5 error (1 2)", "6 1"}
	for i := range impl.MaxLibs {
		w = saidAfter(t, w, "(import lib"+impl.Dec(9-i)+")")
		for k := range 5 {
			links = append(links, namesUpTo(30)[5*i+k]+" "+impl.Dec(k))
		}
	}
	for i := range 30 {
		// more units than there may be, were they not swept
		w = impl.Sweep(saidAfter(t, w, "(define own"+impl.Dec(30-i)+" '("+impl.Dec(i)+"))"))
		own = append(own, "own"+impl.Dec(30-i)+" ("+impl.Dec(i)+")")
	}
	wantSaid(t, w, "(define more 1)", "full")
	for len(w.Sys.Out) < impl.MaxOut {
		w = impl.Sweep(saidAfter(t, w, "(print "+impl.Dec(len(w.Sys.Out)+1)+")"))
	}
	wantSaid(t, w, "(print 41)", "full")
	all := slices.Concat(libs, own, links, tasks)
	for i := range impl.MaxOut {
		all = append(all, impl.Dec(i+1))
	}
	if len(all) != 6+30+30+6+40 {
		t.Error("lines", len(all))
	}
	wantPortrait(t, "as many as there may be", w, strings.Join(all, "|"))
}

// view is a portrait in its parts.
type view struct{ libs, own, links, tasks, out []string }

// viewOf takes the portrait apart, where no line of Out has a byte 10.
func viewOf(t *testing.T, w impl.World) view {
	t.Helper()
	lines := strings.Split(impl.Portrait(w), "\n")
	lines = lines[:len(lines)-1]
	ends := []int{len(w.Libs), len(lines) - len(w.Sys.Out) - len(w.Tasks), len(lines) - len(w.Sys.Out)}
	if !slices.IsSorted(ends) {
		t.Fatalf("the portrait of %s has %d lines", shown(w), len(lines))
	}
	v := view{libs: lines[:ends[0]], tasks: slices.Clone(lines[ends[1]:ends[2]]), out: lines[ends[2]:]}
	for _, line := range lines[ends[0]:ends[1]] {
		name, _, _ := strings.Cut(line, " ")
		if slices.Contains(w.Sys.Insts[0].Names, name) && len(v.links) == 0 {
			v.own = append(v.own, line)
		} else {
			v.links = append(v.links, line)
		}
	}
	return v
}

// wantParts asks whether a part is the same, and whether what was printed has only grown.
func (v view) wantParts(t *testing.T, what string, after view, parts string) {
	t.Helper()
	for _, part := range names(parts) {
		same := map[string]bool{
			"libs": alike(v.libs, after.libs), "own": alike(v.own, after.own), "links": alike(v.links, after.links), "tasks": alike(v.tasks, after.tasks), "out": alike(v.out, after.out),
			"grown": len(after.out) >= len(v.out) && alike(v.out, after.out[:len(v.out)]),
		}[part]
		if !same {
			t.Fatalf("%s: %s are another part: %q; it was %q", what, part, after, v)
		}
	}
}

// Each of these does something to w, by chance, and asks whether just that part of the portrait changes which it is about.
func (m maker) changeSeen(t *testing.T, w impl.World) (impl.World, string) {
	t.Helper()
	before := viewOf(t, w)
	text := m.pick(m.change(names("aa bb cc dd"), libsOf(w)), m.carrying(m.pick("aa", "bb"), nil))
	z, report := impl.Upgrade(w, text)
	if report.Code != impl.UpOk {
		before.wantParts(t, "a change refused", viewOf(t, z), "libs own links tasks out")
		return z, "a change refused"
	}
	before.wantParts(t, "a change", viewOf(t, z), "own tasks grown")
	now := viewOf(t, z).libs
	for _, e := range z.Libs {
		line := e.Src.Name + " " + impl.Dec(e.Ver)
		if !slices.Contains(now, line) || slices.Contains(before.libs, line) == slices.Contains(report.Made, e.Src.Name) {
			t.Fatalf("%v were made, and libraries are %q; they were %q", report.Made, now, before.libs)
		}
	}
	return z, "a change"
}

func (m maker) sayingSeen(t *testing.T, w impl.World) (impl.World, string) {
	t.Helper()
	z, _ := impl.Say(w, m.taken(w)+m.sayings(w, 3))
	viewOf(t, w).wantParts(t, "a saying", viewOf(t, z), "libs tasks grown")
	return z, "a saying"
}

func (m maker) taskSeen(t *testing.T, w impl.World) (impl.World, string) {
	t.Helper()
	before, what := viewOf(t, w), "a task refused"
	z, id := impl.Post(w, m.pick("(f 1)", "(g 'a)", "(cons v w)", "(begin (f 1) (print 2))", "(set! x 2)", "(error 'e)", "(if)"))
	if id > 0 {
		before.tasks, what = append(before.tasks, impl.Dec(id)+" running"), "a task"
	}
	before.wantParts(t, what, viewOf(t, z), "libs own links tasks out")
	return z, what
}

func (m maker) sliceSeen(t *testing.T, w impl.World) (impl.World, string) {
	t.Helper()
	if len(w.Tasks) == 0 {
		return w, "nothing"
	}
	before, at := viewOf(t, w), m.r.Intn(len(w.Tasks))
	z, answer := impl.Slice(w, w.Tasks[at].Id, m.r.Intn(12))
	before.tasks[at] = impl.Dec(w.Tasks[at].Id) + " " + answer
	before.wantParts(t, "a slice", viewOf(t, z), "libs tasks grown")
	return z, "a slice"
}

func (m maker) taskGoneSeen(t *testing.T, w impl.World) (impl.World, string) {
	t.Helper()
	if len(w.Tasks) < 4 {
		return w, "nothing"
	}
	before, at := viewOf(t, w), m.r.Intn(len(w.Tasks))
	z, _ := impl.Cancel(w, w.Tasks[at].Id)
	before.tasks = slices.Delete(before.tasks, at, at+1)
	before.wantParts(t, "a task gone", viewOf(t, z), "libs own links tasks out")
	return z, "a task gone"
}

func (m maker) sweepSeen(t *testing.T, w impl.World) (impl.World, string) {
	t.Helper()
	z := impl.Sweep(w)
	viewOf(t, w).wantParts(t, "a sweep", viewOf(t, z), "libs own links tasks out")
	return z, "a sweep"
}

// Each thing that is done changes that part of the portrait which it is about.
func TestPortraitByWhatIsDone(t *testing.T) {
	t.Parallel()
	m, seen := maker{rand.New(rand.NewSource(202))}, map[string]int{}
	do := []func(maker, *testing.T, impl.World) (impl.World, string){maker.changeSeen, maker.changeSeen, maker.sayingSeen, maker.taskSeen, maker.taskSeen, maker.sliceSeen, maker.taskGoneSeen, maker.sweepSeen}
	for range 60 {
		w, what := impl.NewWorld(), ""
		for range 30 {
			w, what = do[m.r.Intn(len(do))](m, t, w)
			seen[what]++
		}
	}
	wantAll(t, seen, 40, "a change|a change refused|a saying|a task|a task refused|a slice|a task gone|a sweep")
}

// wantAll asks for so many of each of these.
func wantAll(t *testing.T, seen map[string]int, least int, all string) {
	t.Helper()
	for _, sort := range strings.Split(all, "|") {
		if seen[sort] < least {
			t.Errorf("%s was hardly there: %v", sort, seen)
		}
	}
}

func TestExportsByChance(t *testing.T) {
	t.Parallel()
	r := rand.New(rand.NewSource(203))
	counts := map[string]int{}
	for range 300 {
		s, w := worldByChance(r)
		counts["names"] += wantValued(t, "by chance", w)
		for _, lib := range names("aa bb a cc dd ee ff gg x") {
			if got, want := impl.Exports(w, lib), modelExports(w, lib); !alike(got, want) {
				t.Fatalf("Exports(%s, %q) = %q; want %q", shown(w), lib, got, want)
			}
		}
		s.spoilWorld(&w)
		counts[fmt.Sprint(rightWorld(w))]++
		for _, e := range w.Libs {
			if got, want := impl.Exports(w, e.Src.Name), modelExports(w, e.Src.Name); !alike(got, want) {
				t.Fatalf("Exports(%s, %q) = %q; want %q", shown(w), e.Src.Name, got, want)
			}
		}
	}
	if counts["names"] < 600 || counts["true"] < 50 || counts["false"] < 50 {
		t.Error("one sort was hardly there", counts)
	}
}

// anything is w behind something that a session can do, by chance, and what that was.
func (m maker) anything(w impl.World) (impl.World, string) {
	if len(w.Sys.Units) > impl.MaxUnits-8 || len(w.Sys.Insts) > impl.MaxInsts-3 || m.r.Intn(20) == 0 {
		return impl.Sweep(w), "swept"
	}
	if len(w.Libs) == impl.MaxLibs-1 && m.r.Intn(9) == 0 || len(w.Tasks) == impl.MaxTasks {
		id := 0
		for _, task := range w.Tasks {
			id = task.Id
		}
		z, _ := impl.Cancel(w, id)
		return z, "taken away"
	}
	switch m.r.Intn(10) {
	case 0, 1, 2:
		text := m.pick(m.edition(), m.change(names("aa bb cc dd ee"), libsOf(w)), m.carrying(m.pick("aa", "bb"), libsOf(w)))
		if m.r.Intn(20) == 0 {
			text = m.spoilt(text)
		}
		z, report := impl.Upgrade(w, text)
		if report.Code != impl.UpOk {
			return z, "refused"
		}
		return z, "put in"
	case 3, 4, 5:
		z, _ := impl.Say(w, m.taken(w)+m.sayings(w, 3))
		return z, "said"
	case 6, 7:
		z, _ := impl.Post(w, m.pick("(f 1)", "(set! f 1)", "(g (f 2))", "(f (lambda () g))", "(begin (f 1) (g 2) (h 3) (k 4))", "(cons rec (rec))", "(error v)"))
		return z, "posted"
	case 8:
		z, _ := impl.Slice(w, m.r.Intn(w.Next+1), m.r.Intn(30))
		return z, "sliced"
	}
	return impl.Round(w, m.r.Intn(20)), "gone round"
}

// Each library exports what has a value, whatever was done before.
func TestWhatIsExportedHasAValue(t *testing.T) {
	t.Parallel()
	m, seen, asked, versions, anew := maker{rand.New(rand.NewSource(204))}, map[string]int{}, 0, map[int]int{}, 0
	for range 40 {
		w := impl.NewWorld()
		for range 50 {
			z, what := m.anything(w)
			seen[what]++
			asked += wantValued(t, what, z)
			for _, e := range z.Libs {
				versions[min(e.Ver, 9)]++
				at := slices.IndexFunc(w.Libs, func(was impl.Ent) bool { return was.Src.Name == e.Src.Name })
				if at == -1 || what == "put in" && alike(w.Libs[at].Src, e.Src) && w.Libs[at].Ver < e.Ver {
					anew++
				}
				// it is the source that says what is exported: only a change of just that one changes it
				if at != -1 && what != "put in" && !alike(impl.Exports(w, e.Src.Name), impl.Exports(z, e.Src.Name)) {
					t.Fatalf("%s: %s exports %q; it was %q", what, e.Src.Name, impl.Exports(z, e.Src.Name), impl.Exports(w, e.Src.Name))
				}
			}
			w = z
		}
		// what is taken by the session has a value, too
		for _, e := range w.Libs {
			z, _ := impl.Say(w, "(import "+e.Src.Name+")")
			session := z.Sys.Insts[0]
			for _, name := range impl.Exports(z, e.Src.Name) {
				if _, ok := impl.Lookup(z.Sys, 0, name); !ok && len(session.Links) < 30 {
					t.Fatalf("%s of %s is imported, and has no value: %s", name, e.Src.Name, shown(session))
				}
			}
		}
	}
	wantAll(t, seen, 40, "put in|refused|said|posted|sliced|gone round|taken away|swept")
	if asked < 4000 || versions[1] < 1000 || versions[2] < 700 || versions[5] < 50 || anew < 50 {
		t.Error("one sort was hardly there", asked, versions, anew)
	}
}

// asExports is what Exports is handed.
type asExports struct {
	World impl.World
	Lib   string
}

func TestExportsLeaveWhatIsHandedIn(t *testing.T) {
	asked := 0
	for _, w := range worldsOfAllSorts(t) {
		for _, lib := range append(libsOf(w), "zz", "") {
			given := roomyOf(asExports{w, strings.Clone(lib)})
			before := wholeOf(given)
			told := impl.Exports(given.World, given.Lib)
			if !alike(wholeOf(given), before) {
				t.Fatalf("Exports(%s, %q) changes what is handed in", shown(w), lib)
			}
			if !shareNone([]any{given}, []any{told}) {
				t.Fatalf("Exports(%s, %q) shares memory", shown(w), lib)
			}
			// nothing is kept, and what stands in the spare room is not looked at
			again := impl.Exports(w, lib)
			if !alike(again, told) || !shareNone([]any{told}, []any{again}) {
				t.Fatalf("Exports(%s, %q) = %q; %q the second time", shown(w), lib, told, again)
			}
			for i := range again {
				again[i] = "changed"
			}
			if once := impl.Exports(w, lib); !alike(once, told) {
				t.Fatalf("Exports(%s, %q) = %q; %q behind a change of what was told", shown(w), lib, told, once)
			}
			asked += len(told)
		}
	}
	if asked < 100 {
		t.Error("hardly a name was told", asked)
	}
}
