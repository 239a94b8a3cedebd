package tests

import (
	"fmt"
	"math/rand"
	"slices"
	"strings"
	"testing"

	"loop.example/g00765/impl"
)

// modelPortrait says it in the document's own words, of a right world.
func modelPortrait(w impl.World) string {
	var lines []string
	for _, e := range w.Libs {
		lines = append(lines, fmt.Sprintf("%s %d", e.Src.Name, e.Ver))
	}
	session := w.Sys.Insts[0]
	for i, name := range session.Names {
		if session.Vals[i] != (impl.Value{}) {
			lines = append(lines, name+" "+impl.Text(w.Sys.Heap, session.Vals[i]))
		}
	}
	for _, l := range session.Links {
		if v, ok := impl.Lookup(w.Sys, 0, l.Name); ok {
			lines = append(lines, l.Name+" "+impl.Text(w.Sys.Heap, v))
		}
	}
	for _, task := range w.Tasks {
		lines = append(lines, fmt.Sprintf("%d %s", task.Id, modelAnswer(w.Sys, task.Mac)))
	}
	return each(slices.Concat(lines, w.Sys.Out), "", "\n")
}

func wantPortraitAsModelled(t *testing.T, what string, w impl.World) string {
	t.Helper()
	got, want := impl.Portrait(w), modelPortrait(w)
	if got != want {
		t.Fatalf("%s: Portrait(%s) = %.900q; want %.900q", what, shown(w), got, want)
	}
	return got
}

// wantPortrait asks for these lines, with a | between.
func wantPortrait(t *testing.T, what string, w impl.World, want string) {
	t.Helper()
	if !impl.WorldOk(w) {
		t.Fatalf("%s: the world is not right: %s", what, shown(w))
	}
	lines := ""
	if want != "" {
		lines = each(strings.Split(want, "|"), "", "\n")
	}
	if got := wantPortraitAsModelled(t, what, w); got != lines {
		t.Errorf("%s: Portrait = %.900q; want %.900q", what, got, lines)
	}
}

func TestPortraitOfLibraries(t *testing.T) {
	wantPortrait(t, "new", impl.NewWorld(), "")
	w := worldOf(t, "(library zz)", "(library mm) (export v) (define v 1)", "(library aa) (import zz)")
	wantPortrait(t, "by Name", w, "aa 1|mm 1|zz 1")
	w = upgraded(t, upgraded(t, w, "(library zz)"), "(library mm)")
	wantPortrait(t, "as they are now", w, "aa 2|mm 2|zz 2")
	w = upgraded(t, w, "(library aa)")
	wantPortrait(t, "as they are now", w, "aa 3|mm 2|zz 2")
	w = manyLibs(t, impl.MaxLibs)
	w.Libs[3].Ver, w.Sys.Insts[4].Ver = 1000, 1000
	wantPortrait(t, "six", w, "x0 7|x1 7|x2 7|x3 1000|x4 7|x5 7")
	// an Inst is no library
	w.Libs = w.Libs[2:4]
	wantPortrait(t, "two of six Insts", w, "x2 7|x3 1000")
}

func TestPortraitOfNames(t *testing.T) {
	w := saidAfter(t, impl.NewWorld(), "(define z 5) (define l '(1 (2 . x) #t)) (define f (lambda () 1)) (define a #f) (define none '()) (define s 'z)")
	wantPortrait(t, "values of all sorts", w, "z 5|l (1 (2 . x) #t)|f fn|a #f|none ()|s z")
	w = saidAfter(t, w, "(define f -7) (define more f)")
	wantPortrait(t, "in their places", w, "z 5|l (1 (2 . x) #t)|f -7|a #f|none ()|s z|more -7")
	y := someSys()
	y.Insts[0].Names, y.Insts[0].Vals, y.Insts[0].Links = names("u p v r w"), vals(impl.Value{}, pairVal(0), impl.Value{}, recVal(4), impl.Value{}), nil
	y.Out = nil
	wantPortrait(t, "some without a value", talking(y), "p "+impl.Text(y.Heap, pairVal(0))+"|r #"+y.Heap[4].S)
	y.Insts[0].Vals = vals(impl.Value{}, impl.Value{}, impl.Value{}, impl.Value{}, numVal(0))
	wantPortrait(t, "the last one alone", talking(y), "w 0")
	y.Insts[0].Vals = make([]impl.Value, 5)
	wantPortrait(t, "none has one", talking(y), "")
	all := impl.NewSys()
	var want []string
	for i, name := range namesUpTo(30) {
		all.Insts[0].Names, all.Insts[0].Vals = append(all.Insts[0].Names, name), append(all.Insts[0].Vals, numVal(i))
		want = append(want, name+" "+impl.Dec(i))
	}
	wantPortrait(t, "as many as there may be", talking(all), strings.Join(want, "|"))
}

// A Link is seen by its Name, where it leads to a value; it may lead to one that another Link has not.
func TestPortraitOfLinks(t *testing.T) {
	w := worldOf(t, "(library aa) (export v f) (define v '(1)) (define (f) 1)", "(library bb) (import aa) (export w) (define w 2)")
	w = saidAfter(t, w, "(import bb) (define x 1) (import aa)")
	wantPortrait(t, "imported", w, "aa 1|bb 1|x 1|w 2|v (1)|f fn")
	w = saidAfter(t, w, "(define v 'mine)")
	wantPortrait(t, "one is the session's own", w, "aa 1|bb 1|x 1|v mine|w 2|f fn")
	w = upgraded(t, w, "(library aa) (export v more f) (define v 7) (define more 8) (define f 9)")
	wantPortrait(t, "changed", w, "aa 2|bb 2|x 1|v mine|w 2|f 9")
	// where a Link leads to nothing
	y := impl.NewSys()
	y.Insts[0] = impl.Inst{Names: names("a e"), Vals: vals(numVal(1), impl.Value{}), Links: []impl.Link{
		link("b", 1, "x"), link("c", 1, "u"), link("d", 1, "nobody"), link("x", 1, "far"), link("far", 2, "far"), link("u", 0, "a"), link("g", 0, "e"), link("h", 0, "b"), link("k", 2, "far"),
	}}
	y.Insts = append(y.Insts,
		impl.Inst{Lib: "aa", Ver: 1, Names: names("x u"), Vals: vals(symVal("of-aa"), impl.Value{}), Links: []impl.Link{link("far", 2, "far")}},
		impl.Inst{Lib: "bb", Ver: 1, Names: names("far"), Vals: vals(boolVal(0))},
	)
	wantPortrait(t, "by hand", talking(y), "a 1|b of-aa|far #f|u 1|k #f")
	y.Insts[0].Links = y.Insts[0].Links[1:3]
	wantPortrait(t, "none leads to a value", talking(y), "a 1")
}

func TestPortraitOfTasks(t *testing.T) {
	w := impl.NewWorld()
	for text, want := range map[string]string{
		"7": "7", "'(1 2)": "(1 2)", "nobody": "unbound", "(car 1)": "type", "(* 1000 (* 1000 1000))": "range", "(error '(a))": "error (a)", "((lambda (x) x))": "arity",
		"((lambda (f) (cons 1 (f f))) (lambda (f) (cons 1 (f f))))": "depth", "(begin (print 1) (lambda () 1))": "fn", endless[0]: "running",
	} {
		z := posted(t, w, text, impl.MaxSteps)
		z.Sys.Out = nil
		wantPortrait(t, text, z, "1 "+want)
		z.Tasks[0].Id, z.Next = 99999, 100000
		wantPortrait(t, text, z, "99999 "+want)
		if z = posted(t, w, text, 0); impl.Portrait(z) != "1 running\n" {
			t.Errorf("%s: at its beginning it is %q", text, impl.Portrait(z))
		}
	}
	z := w
	z.Sys = filled(z.Sys, impl.MaxHeap)
	wantPortrait(t, "full", posted(t, z, "(cons 1 2)", 99), "1 full")
	w.Next = 5
	w = posted(t, posted(t, posted(t, w, "(cons 1 2)", 99), "2", 1), "'c", 5)
	wantPortrait(t, "three", w, "5 (1 . 2)|6 running|7 c")
	w.Tasks = slices.Delete(w.Tasks, 1, 2)
	wantPortrait(t, "two of them", w, "5 (1 . 2)|7 c")
}

// What was printed may have any bytes.
func TestPortraitOfWhatWasPrinted(t *testing.T) {
	w := saidAfter(t, impl.NewWorld(), "(print 1) (print '(a b)) (print 1)")
	wantPortrait(t, "printed", w, "1|(a b)|1")
	w.Sys.Out = []string{"", "a\nb", "\xff\x00", "", " x ", "|"}
	if got, want := wantPortraitAsModelled(t, "any bytes", w), "\na\nb\n\xff\x00\n\n x \n|\n"; got != want {
		t.Errorf("Portrait = %q; want %q", got, want)
	}
	w.Sys.Out = slices.Repeat([]string{"x"}, impl.MaxOut)
	wantPortrait(t, "as much as may be printed", w, strings.TrimSuffix(strings.Repeat("x|", impl.MaxOut), "|"))
	w.Sys.Out = []string{""}
	if got := wantPortraitAsModelled(t, "an empty text", w); got != "\n" {
		t.Errorf("Portrait = %q", got)
	}
}

func TestWholePortraits(t *testing.T) {
	w := worldOf(t, aBase, aMiddle, "(library dd)")
	w = saidAfter(t, w, "(import bb) (import aa) (define x '(1)) (print 'hello)")
	w = posted(t, posted(t, w, "(mk 5)", 99), "(begin (print 'there) base)", 3)
	wantPortrait(t, "all of it", w, "aa 1|bb 1|dd 1|x (1)|pt? fn|mk fn|base 7|bump fn|1 #bb:pt|2 running|hello")
	w = upgraded(t, sliced(w, 1, 99), strings.ReplaceAll(aBase, "7", "70"))
	wantPortrait(t, "later", w, "aa 2|bb 2|dd 1|x (1)|pt? fn|mk fn|base 70|bump fn|1 #bb:pt|2 7|hello|there")
	w = fullWorld(t)
	wantPortrait(t, "full", w, "aa 1|bb 1|cc 1|dd 1|twice fn|base 8|bump fn|1 running|2 running|3 (#bb:pt 7)|4 error 8|5 unbound|(#bb:pt 7)")
}

// Texts are cut as Text cuts them, each for itself.
func TestLongPortraits(t *testing.T) {
	w := saidAfter(t, impl.NewWorld(), "(define x '(abcdefgh)) (define (twice n) (if (= n 0) 'ok (begin (set! x (cons x x)) (twice (- n 1))))) (twice 14) (define y x)")
	w = posted(t, posted(t, w, "x", 9), "(error x)", 9)
	got := strings.Split(wantPortraitAsModelled(t, "long", w), "\n")
	for i, ahead := range []string{"x ", "", "y ", "1 ", "2 error "} {
		if ahead != "" && (!strings.HasPrefix(got[i], ahead+"((") || len(got[i]) != impl.MaxTell+len(ahead)) {
			t.Errorf("line %d has %d bytes: %.50q", i, len(got[i]), got[i])
		}
	}
}

func TestPortraitOfWorldsThatAreNotRight(t *testing.T) {
	for _, w := range wrongWorlds(t) {
		if got := impl.Portrait(w); got != "" {
			t.Fatalf("Portrait(%s) = %q", shown(w), got)
		}
	}
}

func TestPortraitsByChance(t *testing.T) {
	t.Parallel()
	r := rand.New(rand.NewSource(201))
	lines := map[string]int{}
	for range 400 {
		s, w := worldByChance(r)
		wantPortraitAsModelled(t, "by chance", w)
		lines["libs"] += len(w.Libs)
		lines["tasks"] += len(w.Tasks)
		lines["links"] += len(w.Sys.Insts[0].Links)
		lines["names"] += len(w.Sys.Insts[0].Names)
		lines["out"] += len(w.Sys.Out)
		if s.spoilWorld(&w); rightWorld(w) {
			wantPortraitAsModelled(t, "spoilt", w)
		} else if got := impl.Portrait(w); got != "" {
			t.Fatalf("Portrait(%s) = %q", shown(w), got)
		}
	}
	m, codes := maker{r}, map[int]int{}
	for range 40 {
		w := impl.NewWorld()
		for range 20 {
			w = m.done(t, w, codes)
			w, _ = impl.Say(w, m.sayings(w, 3))
			wantPortraitAsModelled(t, "gone on", w)
		}
	}
	for _, sort := range names("libs tasks links names out") {
		if lines[sort] < 300 {
			t.Error("one sort was hardly there", lines)
		}
	}
}

func TestPortraitLeavesWhatIsHandedIn(t *testing.T) {
	for _, w := range worldsOfAllSorts(t) {
		given := roomyOf(w)
		before := wholeOf(given)
		seen := impl.Portrait(given)
		if !alike(wholeOf(given), before) {
			t.Fatalf("Portrait(%s) changes what is handed in", shown(w))
		}
		if !shareNone([]any{given}, []any{seen}) {
			t.Fatalf("Portrait(%s) shares memory", shown(w))
		}
		// nothing is kept, and what stands in the spare room is not looked at
		if again := impl.Portrait(w); again != seen {
			t.Fatalf("Portrait(%s) = %q; %q the second time", shown(w), seen, again)
		}
	}
}
