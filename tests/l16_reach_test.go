package tests

import (
	"fmt"
	"math/rand"
	"slices"
	"strconv"
	"strings"
	"testing"

	"loop.example/g00765/impl"
)

// thing is a cell, an Inst or a unit; the world is one, too: on it hangs what is live from the start.
type thing struct {
	sort string
	at   int
}

// hangs is what hangs on what.
type hangs map[thing][]thing

func (h hangs) tie(on thing, sort string, at int) {
	h[on] = append(h[on], thing{sort, at})
}

func (h hangs) values(on thing, all []impl.Value) {
	for _, v := range all {
		if v.Kind >= impl.VaPair {
			h.tie(on, "cell", v.N)
		}
	}
}

func (h hangs) binds(on thing, env []impl.Bind) {
	for _, b := range env {
		h.values(on, vals(b.Val))
	}
}

// hanging says it in the document's own words, of a right world.
func hanging(w impl.World) hangs {
	h, world := hangs{}, thing{"world", 0}
	h.tie(world, "inst", 0)
	for _, e := range w.Libs {
		h.tie(world, "inst", e.Inst)
	}
	for _, task := range w.Tasks {
		h.tie(world, "unit", task.Mac.Unit)
		h.values(world, vals(task.Mac.Val))
		h.binds(world, task.Mac.Env)
		for _, f := range task.Mac.Stack {
			h.tie(world, "unit", f.Unit)
			h.values(world, f.Vals)
			h.binds(world, f.Env)
		}
	}
	for i, in := range w.Sys.Insts {
		h.values(thing{"inst", i}, in.Vals)
		for _, l := range in.Links {
			h.tie(thing{"inst", i}, "inst", l.Inst)
		}
	}
	for i, c := range w.Sys.Heap {
		h.values(thing{"cell", i}, c.Vals)
		if c.Kind == impl.CeFn {
			h.tie(thing{"cell", i}, "unit", c.A)
		}
	}
	for i, u := range w.Sys.Units {
		h.tie(thing{"unit", i}, "inst", u.Home)
	}
	return h
}

// modelReach goes through all that hangs on something, until nothing more is live.
func modelReach(w impl.World) impl.Live {
	live := map[thing]int{{"world", 0}: 1}
	h := hanging(w)
	for count := 0; count < len(live); {
		count = len(live)
		for on, all := range h {
			for _, one := range all {
				if live[on] == 1 {
					live[one] = 1
				}
			}
		}
	}
	flags := func(sort string, count int) []bool {
		l := make([]bool, count)
		for i := range l {
			l[i] = live[thing{sort, i}] == 1
		}
		return l
	}
	return impl.Live{Cells: flags("cell", len(w.Sys.Heap)), Insts: flags("inst", len(w.Sys.Insts)), Units: flags("unit", len(w.Sys.Units))}
}

// modelAlive counts each version up.
func modelAlive(w impl.World, lib string) []int {
	var all []int
	l := modelReach(w)
	for ver := range 1001 {
		if slices.ContainsFunc(w.Sys.Insts, func(in impl.Inst) bool { return in.Lib == lib && in.Ver == ver }) {
			for i, in := range w.Sys.Insts {
				if in.Lib == lib && in.Ver == ver && l.Insts[i] {
					all = append(all, ver)
					break
				}
			}
		}
	}
	return all
}

// wantReachAsModelled holds Reach, and Alive of each library and of some that are not there, against the model.
func wantReachAsModelled(t *testing.T, what string, w impl.World) impl.Live {
	t.Helper()
	got, want := impl.Reach(w), modelReach(w)
	if !alike(got, want) {
		t.Fatalf("%s: Reach(%s) = %s; want %s", what, shown(w), shownLive(got), shownLive(want))
	}
	asked := map[string]int{}
	for _, lib := range append(names("zz aa bb a if %t AA"), "", "aa ", "a\x00", strings.Repeat("aa", 99)) {
		asked[lib]++
	}
	for _, in := range w.Sys.Insts {
		asked[in.Lib]++
	}
	for lib := range asked {
		if a, want := impl.Alive(w, lib), modelAlive(w, lib); !slices.Equal(a, want) {
			t.Fatalf("%s: Alive(%s, %q) = %v; want %v", what, shown(w), lib, a, want)
		}
	}
	return got
}

// which are the numbers of what is live, with blanks between.
func which(flags []bool) string {
	var all []string
	for i, live := range flags {
		if live {
			all = append(all, strconv.Itoa(i))
		}
	}
	return strings.Join(all, " ")
}

func shownLive(l impl.Live) string {
	return "cells " + which(l.Cells) + " | insts " + which(l.Insts) + " | units " + which(l.Units)
}

// wantLive asks for the numbers of what is live, of each sort.
func wantLive(t *testing.T, what string, w impl.World, cells, insts, units string) {
	t.Helper()
	if !impl.WorldOk(w) {
		t.Fatalf("%s: the world is not right: %s", what, shown(w))
	}
	if got, want := shownLive(impl.Reach(w)), "cells "+cells+" | insts "+insts+" | units "+units; got != want {
		t.Errorf("%s: Reach tells %s; want %s", what, got, want)
	}
	wantReachAsModelled(t, what, w)
}

// wantAlive asks for the versions of a library, with blanks between.
func wantAlive(t *testing.T, what string, w impl.World, lib, want string) {
	t.Helper()
	var all []string
	for _, ver := range impl.Alive(w, lib) {
		all = append(all, strconv.Itoa(ver))
	}
	if got := strings.Join(all, " "); got != want {
		t.Errorf("%s: Alive(.., %q) = %q; want %q", what, lib, got, want)
	}
}

// upTo are the numbers from 0 to n less 1, with blanks between.
func upTo(n int) string {
	return which(slices.Repeat([]bool{true}, n))
}

// saidAfter is w behind a text, none of whose data is refused.
func saidAfter(t *testing.T, w impl.World, text string) impl.World {
	t.Helper()
	z, answers := impl.Say(w, text)
	for _, answer := range answers {
		if slices.Contains(names("no form full running unbound type range arity depth"), answer) {
			t.Fatalf("Say(.., %q) answers %q", text, answers)
		}
	}
	return z
}

func TestReachOfANewWorld(t *testing.T) {
	wantLive(t, "new", impl.NewWorld(), "", "0", "")
	wantAlive(t, "new", impl.NewWorld(), "", "0")
	wantAlive(t, "new", impl.NewWorld(), "aa", "")
}

func TestReachOfLibraries(t *testing.T) {
	w := worldOf(t, "(library aa)")
	wantLive(t, "an empty one", w, "", "0 1", "")
	wantAlive(t, "an empty one", w, "aa", "1")
	// a unit is live by a function alone, whether that is exported or not
	w = worldOf(t, "(library aa) (export v) (define v 1) (define w 'w) (define (f) 1) (define u '()) (define t #t) (define (g x) x)")
	wantLive(t, "one", w, "0 1", "0 1", "2 5")
	w = worldOf(t, "(library aa) (record pt 2) (define v '(1 2)) (define p (make pt v v)) (define q (make pt (cons 1 2) 3)) (define n (field pt 1 q))")
	wantLive(t, "pairs and records", w, "0 1 2 3 4", "0 1", "")
	w = worldOf(t, "(library aa) (define v '(1 2)) (define w (cdr v)) (define u (begin (set! v 5) (cons v w) (set! w 6)))")
	wantLive(t, "nothing of it is kept", w, "", "0 1", "")
	w = worldOf(t, aBase, aMiddle, aTop, "(library dd)")
	wantLive(t, "four", w, "0 1 2 3 4", "0 1 2 3 4", "1 2 3 5")
	for _, lib := range names("aa bb cc dd") {
		wantAlive(t, "four", w, lib, "1")
	}
	wantAlive(t, "four", w, "ee", "")
	wantAlive(t, "four", w, "", "0")
	wantLive(t, "six", manyLibs(t, impl.MaxLibs), "", upTo(impl.MaxLibs+1), "")
}

// Once it is changed the old version goes, with all that hung on it, unless something is left of it elsewhere.
func TestReachBehindChanges(t *testing.T) {
	w := worldOf(t, aBase, aMiddle, aTop)
	z := upgraded(t, w, aBase)
	wantLive(t, "the first one", z, "5 6 7 8 9", "0 4 5 6", "7 8 9 11")
	z = upgraded(t, w, aTop)
	wantLive(t, "the last one", z, "0 1 2 3 5", "0 1 2 4", "1 2 3 6")
	for ver, cells := range []string{"5", "6", "7", "8"} {
		wantAlive(t, "the last one", z, "cc", impl.Dec(ver+2))
		wantAlive(t, "the last one", z, "bb", "1")
		if got := which(impl.Reach(z).Cells); got != "0 1 2 3 "+cells {
			t.Error("cells", got)
		}
		z = upgraded(t, z, aTop)
	}
	// what the session imports leads to the new one
	w = saidAfter(t, w, "(import cc) (import aa)")
	z = upgraded(t, w, aBase)
	wantLive(t, "with Links", z, "5 6 7 8 9", "0 4 5 6", "7 8 9 11")
}

func TestReachOfTheSession(t *testing.T) {
	w := saidAfter(t, impl.NewWorld(), "(define x 5) (define y '(1 (2) 3)) (define f (lambda (z) z)) (define q y) (define s 'y)")
	wantLive(t, "names", w, "0 1 2 3 4", "0", "2")
	w = saidAfter(t, w, "(define y 1)")
	wantLive(t, "another one has it", w, "0 1 2 3 4", "0", "2")
	w = saidAfter(t, w, "(set! q (cdr q))")
	wantLive(t, "the rest of it", w, "0 1 2 4", "0", "2")
	w = saidAfter(t, w, "(define q (car q)) (car q)")
	wantLive(t, "a part of it", w, "0 4", "0", "2")
	w = saidAfter(t, w, "(define q 0)")
	wantLive(t, "none of it", w, "4", "0", "2")
	w = saidAfter(t, w, "(define (f) 'more)")
	wantLive(t, "another function", w, "5", "0", "10")
	w = saidAfter(t, w, "(define f #f) (lambda () x) '(1 2) (cons f f)")
	wantLive(t, "what is told is not kept", w, "", "0", "")
	if w.Sys.Insts[0].Types = []impl.Type{{Name: "pt", Size: 1}}; len(w.Sys.Heap) != 10 {
		t.Error("cells", len(w.Sys.Heap))
	}
	w = saidAfter(t, w, "(define p (make pt (make pt '(7)))) (make pt p)")
	wantLive(t, "a record", w, "10 11 12", "0", "")
	w = saidAfter(t, w, "(set! p (field pt 0 p))")
	wantLive(t, "a record of it", w, "10 11", "0", "")
	w = saidAfter(t, w, "(set! p (is pt p))")
	wantLive(t, "no record", w, "", "0", "")
}

// A function has what it closes over, and its unit; a unit may have several.
func TestReachOfFunctions(t *testing.T) {
	w := saidAfter(t, impl.NewWorld(), "(define add (lambda (x) (lambda (y) (cons x y)))) (define one (add '(1))) (define two (add one)) (define no (add 5))")
	wantLive(t, "four", w, "0 1 2 3 4", "0", "0")
	w = saidAfter(t, w, "(define add 1)")
	wantLive(t, "without the outer one", w, "1 2 3 4", "0", "0")
	w = saidAfter(t, w, "(define one 1)")
	wantLive(t, "closed over", w, "1 2 3 4", "0", "0")
	w = saidAfter(t, w, "(define two 1)")
	wantLive(t, "a number is closed over", w, "4", "0", "0")
	w = saidAfter(t, w, "(define no 1)")
	wantLive(t, "none", w, "", "0", "")
	// a name of the session that a function asks for is the session's, not the function's
	w = saidAfter(t, impl.NewWorld(), "(define l '(1)) (define (f) l) (define (g) (f)) (define f 1) (define l 2)")
	wantLive(t, "what was asked for by name", w, "2", "0", "2")
}

// A number is no cell, whatever cells there are; nor is a version a unit or an Inst.
func TestWhatNamesNoCell(t *testing.T) {
	y := filled(impl.NewSys(), 9)
	y.Units = slices.Repeat([]impl.Unit{{Home: 1, Prog: program(variable("x"))}}, 4)
	y.Insts = append(y.Insts, impl.Inst{Lib: "aa", Ver: 1}, impl.Inst{Lib: "aa", Ver: 2})
	y.Insts[0].Names = names("a b c d e f g h")
	y.Insts[0].Vals = vals(numVal(0), numVal(3), numVal(8), boolVal(0), boolVal(1), nilVal(), symVal("a"), impl.Value{})
	wantLive(t, "no cells", talking(y), "", "0", "")
	y.Insts[0].Vals[0] = pairVal(4)
	wantLive(t, "one pair", talking(y), "4", "0", "")
	y.Heap[4] = recCell("aa:pt", 2, numVal(1), boolVal(1), nilVal(), symVal("aa"), pairVal(7))
	y.Insts[0].Vals[0] = recVal(4)
	wantLive(t, "one record", talking(y), "4 7", "0", "")
	wantAlive(t, "one record", talking(y), "aa", "")
	y.Heap[4] = recCell("aa:pt", 1)
	y.Insts[0].Types = []impl.Type{{Name: "aa", Size: 1}}
	wantLive(t, "an empty record", talking(y), "4", "0", "")
	w := talking(y)
	w.Tasks, w.Next = []impl.Task{{Id: 1, Mac: impl.Machine{Mode: impl.MoEnd, Unit: 3, Val: numVal(5)}}}, 9
	wantLive(t, "a task with a number", w, "4", "0 1", "3")
}

func TestReachOfFunctionsFromOldVersions(t *testing.T) {
	lib := "(library aa) (export f v) (define v 1) (define (f) v)"
	w := worldOf(t, lib)
	w = saidAfter(t, w, "(import aa) (define old f)")
	wantLive(t, "taken", w, "0", "0 1", "1")
	w = upgraded(t, w, lib)
	wantLive(t, "changed once", w, "0 1", "0 1 2", "1 4")
	wantAlive(t, "changed once", w, "aa", "1 2")
	w = upgraded(t, w, lib)
	wantLive(t, "changed twice", w, "0 2", "0 1 3", "1 6")
	wantAlive(t, "changed twice", w, "aa", "1 3")
	w = saidAfter(t, w, "(define third f)")
	w = upgraded(t, upgraded(t, w, lib), lib)
	wantAlive(t, "two taken", w, "aa", "1 3 5")
	w = saidAfter(t, w, "(define old (cons old 1))")
	wantAlive(t, "in a pair", w, "aa", "1 3 5")
	w = saidAfter(t, w, "(define old ((lambda (g) (lambda () g)) (car old)))")
	wantAlive(t, "closed over", w, "aa", "1 3 5")
	w = saidAfter(t, w, "(define third 1)")
	wantAlive(t, "one left", w, "aa", "1 5")
	w = saidAfter(t, w, "(define old (old))")
	wantLive(t, "one left, bare", w, "0 4", "0 1 5", "1 11")
	w = saidAfter(t, w, "(define old 1)")
	wantLive(t, "none left", w, "4", "0 5", "11")
	wantAlive(t, "none left", w, "aa", "5")
	// a value that is no function leads to no version
	w = saidAfter(t, worldOf(t, "(library aa) (export p l) (record pt 1) (define p (make pt 1)) (define l '(1))"), "(import aa) (define p p) (define k l)")
	w = upgraded(t, w, "(library aa)")
	wantLive(t, "records and pairs", w, "0 1", "0 2", "")
	wantAlive(t, "records and pairs", w, "aa", "2")
	// all of them
	w = worldOf(t, lib)
	for ver := range 5 {
		w = saidAfter(t, upgraded(t, w, lib), "(import aa) (define f"+impl.Dec(ver)+" f)")
	}
	wantAlive(t, "each one", w, "aa", "2 3 4 5 6")
}

// What is taken into another library's names hangs on that library.
func TestReachOfWhatALibraryKeeps(t *testing.T) {
	lib, keeper := "(library aa) (export f) (define (f) 1)", "(library bb) (export put) (define kept 0) (define (put x) (set! kept x))"
	w := worldOf(t, lib, keeper)
	w = saidAfter(t, w, "(import aa) (import bb) (put f)")
	w = upgraded(t, w, lib)
	wantAlive(t, "kept", w, "aa", "1 2")
	w = upgraded(t, w, "(library aa) (export f) (record pt 1) (define (f) (make pt f))")
	wantAlive(t, "kept longer", w, "aa", "1 3")
	z := upgraded(t, w, keeper)
	wantAlive(t, "the keeper is another one", z, "aa", "3")
	wantAlive(t, "the keeper is another one", z, "bb", "2")
	z = upgraded(t, saidAfter(t, w, "(define keep put)"), keeper)
	wantAlive(t, "the old keeper is kept", z, "aa", "1 3")
	wantAlive(t, "the old keeper is kept", z, "bb", "1 2")
	z = saidAfter(t, w, "(put (f))")
	wantAlive(t, "in a record", upgraded(t, z, lib), "aa", "3 4")
	z = saidAfter(t, w, "(put 1)")
	wantAlive(t, "not kept", z, "aa", "3")
}

// An old version that another old one imports hangs on its Links alone.
func TestReachByLinks(t *testing.T) {
	aa, bb, cc := "(library aa) (export f) (define (f) 1)", "(library bb) (import aa) (export g) (define (g) 2)", "(library cc) (import bb) (export h) (define (h) 3)"
	w := saidAfter(t, worldOf(t, aa, bb, cc, "(library dd) (export k) (define (k) 4)"), "(import cc) (import bb) (import dd) (define old h) (define other k)")
	z := upgraded(t, w, aa)
	for _, lib := range names("aa bb cc") {
		wantAlive(t, "all of them", z, lib, "1 2")
	}
	wantAlive(t, "all of them", z, "dd", "1")
	wantLive(t, "all of them", z, upTo(7), upTo(8), "0 1 2 3 6 7 8")
	z = saidAfter(t, w, "(define old g)")
	z = upgraded(t, z, aa)
	for lib, want := range map[string]string{"aa": "1 2", "bb": "1 2", "cc": "2", "dd": "1"} {
		wantAlive(t, "those that it imports", z, lib, want)
	}
	wantAlive(t, "none", saidAfter(t, z, "(define old 1)"), "aa", "2")
	// one imports the other no more: then nothing of that is kept
	z = upgraded(t, w, "(library bb) (export g) (define (g) 2)")
	z = upgraded(t, z, aa)
	wantAlive(t, "the old one imports it", z, "aa", "1 2")
	z = upgraded(t, saidAfter(t, z, "(define old h)"), aa)
	wantAlive(t, "the new one does not", z, "aa", "3")
	// an import without a name leaves no Link
	z = worldOf(t, "(library aa) (define (f) 1)", "(library bb) (import aa) (export g) (define (g) 2)")
	z = upgraded(t, saidAfter(t, z, "(import bb) (define old g)"), "(library aa)")
	wantAlive(t, "no name", z, "aa", "2")
	wantAlive(t, "no name", z, "bb", "1 2")
}

// Links of the session count as those of any other, and as they stand: no one asks whether there is such a name.
func TestReachByLinksOfTheSession(t *testing.T) {
	y := impl.NewSys()
	for _, ver := range []int{5, 3, 3, 1000, 1} {
		y.Insts = append(y.Insts, impl.Inst{Lib: "aa", Ver: ver})
	}
	wantLive(t, "no Links", talking(y), "", "0", "")
	wantAlive(t, "no Links", talking(y), "aa", "")
	y.Insts[0].Links = []impl.Link{link("x", 4, "nobody")}
	wantLive(t, "one", talking(y), "", "0 4", "")
	wantAlive(t, "one", talking(y), "aa", "1000")
	y.Insts[4].Links = []impl.Link{link("x", 0, "x"), link("y", 4, "y"), link("z", 2, "z")}
	wantLive(t, "one by another", talking(y), "", "0 2 4", "")
	wantAlive(t, "one by another", talking(y), "aa", "3 1000")
	y.Insts[2].Links = []impl.Link{link("x", 3, "x"), link("y", 3, "y")}
	y.Insts[3].Links = []impl.Link{link("x", 2, "x"), link("y", 1, "y")}
	wantLive(t, "round and round", talking(y), "", "0 1 2 3 4", "")
	// rising, each once, in whatever order they stand
	wantAlive(t, "round and round", talking(y), "aa", "3 5 1000")
	y.Insts[0].Links[0].Inst = 5
	wantLive(t, "another one", talking(y), "", "0 5", "")
	y.Insts[5].Links = []impl.Link{link("x", 1, "x")}
	wantAlive(t, "falling", talking(y), "aa", "1 5")
}

// What hangs on each other round and round is live only where one of it hangs on something else.
func TestReachRoundAndRound(t *testing.T) {
	y := someSys()
	y.Insts = y.Insts[:1]
	y.Insts[0] = impl.Inst{Names: names("x y"), Vals: vals(nilVal(), impl.Value{})}
	y.Units = []impl.Unit{{Home: 0, Prog: program(variable("x"), binding(0, "x"))}}
	f := fnCell(names("r l"), recVal(0), pairVal(2))
	f.B = 1
	y.Heap = []impl.Cell{
		recCell("aa:pt", 1, recVal(1)), recCell("aa:pt", 1, fnVal(3)), pairCell(recVal(0), nilVal()), f, // 0, 1, 2 and 3 have each other
		recCell("q", 0, recVal(4)), // itself
		recCell("q", 0, pairVal(6), numVal(1)), pairCell(recVal(5), recVal(4)),
		pairCell(fnVal(3), pairVal(6)),
		pairCell(numVal(1), numVal(2)),
	}
	wantLive(t, "none", talking(y), "", "0", "")
	for v, want := range map[impl.Value]string{
		recVal(0): "0 1 2 3", recVal(1): "0 1 2 3", pairVal(2): "0 1 2 3", fnVal(3): "0 1 2 3",
		recVal(4): "4", recVal(5): "4 5 6", pairVal(6): "4 5 6", pairVal(7): upTo(8), pairVal(8): "8",
	} {
		units := ""
		if strings.HasPrefix(want, "0") {
			units = "0"
		}
		y.Insts[0].Vals[1] = v
		wantLive(t, fmt.Sprint("one by ", v), talking(y), want, "0", units)
	}
	y.Insts[0].Vals = vals(recVal(4), pairVal(8))
	wantLive(t, "two", talking(y), "4 8", "0", "")
	// said: a record that has the function which makes it
	w := worldOf(t, "(library aa) (export mk put) (record pt 1) (define last 0) (define (mk x) (set! last (make pt (cons x last)))) (define (put x) (set! last x))")
	w = saidAfter(t, w, "(import aa) (define a (mk mk)) (define b (mk (cons a put))) (put 0)")
	wantLive(t, "said", w, upTo(7), "0 1", "1 2")
	w = saidAfter(t, w, "(define b 0)")
	wantLive(t, "said, one is left", w, "0 1 2 3", "0 1", "1 2")
	w = upgraded(t, w, "(library aa)")
	wantLive(t, "said, and changed", w, "0 1 2 3", "0 1 2", "1 2")
	w = saidAfter(t, w, "(define a 0)")
	wantLive(t, "said, none is left", w, "", "0 2", "")
}

// ofTasks has a library for each place in a task where something may hang: unit i is at home in Inst i and has the
// function in cell i; pair 12 and i has that, and each Inst has a pair of its own, 6 and i.
func ofTasks() impl.World {
	y := impl.NewSys()
	y.Units = []impl.Unit{{Home: 0, Prog: program(variable("x"), binding(0, "x"))}}
	for i := 1; i < 6; i++ {
		y.Insts = append(y.Insts, impl.Inst{Lib: "aa", Ver: i, Names: names("p"), Vals: vals(pairVal(6 + i))})
		p := program(variable("x"), binding(0, "x"), variable("y"), variable("z"), impl.Node{Kind: impl.NdCall, Args: []int{1, 2, 3}})
		y.Units = append(y.Units, impl.Unit{Home: i, Prog: p})
	}
	for i := range 6 {
		f := fnCell(nil)
		f.A, f.B = i, 1
		y.Heap = append(y.Heap, f)
	}
	for i := range 6 {
		y.Heap = append(y.Heap, pairCell(numVal(i), nilVal()))
	}
	for i := range 6 {
		y.Heap = append(y.Heap, pairCell(symVal("a"), fnVal(i)))
	}
	return talking(y)
}

// wantOnTask asks for what hangs on a task with that machine, and on nothing else.
func wantOnTask(t *testing.T, what string, m impl.Machine, cells, insts, units []int) {
	t.Helper()
	w := ofTasks()
	wantLive(t, "without tasks", w, "", "0", "")
	w.Tasks, w.Next = []impl.Task{{Id: 3, Mac: m}}, 9
	wantLive(t, what, w, numbers(cells...), numbers(insts...), numbers(units...))
	// the last of several, and the first
	bare := impl.Machine{Mode: impl.MoEnd}
	w.Tasks = []impl.Task{{Id: 1, Mac: bare}, {Id: 2, Mac: bare}, {Id: 3, Mac: m}}
	wantLive(t, what+", the last task", w, numbers(cells...), numbers(insts...), numbers(append(units, 0)...))
	w.Tasks = []impl.Task{{Id: 1, Mac: m}, {Id: 2, Mac: bare}}
	wantLive(t, what+", the first task", w, numbers(cells...), numbers(insts...), numbers(append(units, 0)...))
	w.Tasks = nil
	wantLive(t, what+", without it", w, "", "0", "")
	wantAlive(t, what+", without it", w, "aa", "")
}

// numbers are these, rising, each once, with blanks between.
func numbers(l ...int) string {
	flags := make([]bool, impl.MaxHeap)
	for _, i := range l {
		flags[i] = true
	}
	return which(flags)
}

func TestReachOfTasks(t *testing.T) {
	t.Parallel()
	for _, mode := range []int{impl.MoEval, impl.MoBack, impl.MoEnd} {
		for i := 1; i < 6; i++ {
			wantEachPlaceOfTasks(t, mode, i)
		}
	}
}

// wantEachPlaceOfTasks asks of each place of a machine with that Mode what hangs on it alone, where the function i,
// the pair with that, or the unit i stands there. A Frame needs a unit that can wait: that is 1.
func wantEachPlaceOfTasks(t *testing.T, mode, i int) {
	on := func(what string, cells, insts, units []int, change func(m *impl.Machine)) {
		t.Helper()
		m := impl.Machine{Mode: mode}
		if mode == impl.MoBack {
			m.Val = nilVal()
		}
		change(&m)
		wantOnTask(t, fmt.Sprint(what, " ", i, " with mode ", mode), m, cells, insts, units)
	}
	waits := func(f impl.Frame) impl.Frame {
		f.Unit, f.Node = 1, 4
		return f
	}
	own, pair := 6+i, 12+i
	on("nothing", nil, []int{0}, []int{0}, func(m *impl.Machine) {})
	on("the unit", []int{own}, []int{0, i}, []int{i}, func(m *impl.Machine) { m.Unit = i })
	on("the unit, at another node", []int{own}, []int{0, i}, []int{i}, func(m *impl.Machine) { m.Unit, m.Node = i, 4 })
	on("Env", []int{i, own}, []int{0, i}, []int{0, i}, func(m *impl.Machine) { m.Env = binds("a", numVal(2), "b", fnVal(i)) })
	on("the first of three of one name", []int{i, own}, []int{0, i}, []int{0, i}, func(m *impl.Machine) { m.Env = binds("b", fnVal(i), "b", numVal(2), "b", nilVal()) })
	on("a pair in Env", []int{i, own, pair}, []int{0, i}, []int{0, i}, func(m *impl.Machine) { m.Env = binds("a", pairVal(pair)) })
	on("the unit of a frame", []int{own}, []int{0, i}, []int{0, i}, func(m *impl.Machine) { m.Stack = []impl.Frame{{Unit: i, Node: 4}} })
	on("Vals of a frame", []int{i, 7, own}, []int{0, 1, i}, []int{0, 1, i}, func(m *impl.Machine) {
		m.Stack = []impl.Frame{waits(impl.Frame{Vals: vals(numVal(3), fnVal(i))})}
	})
	on("Env of a frame", []int{i, 7, own}, []int{0, 1, i}, []int{0, 1, i}, func(m *impl.Machine) {
		m.Stack = []impl.Frame{waits(impl.Frame{Env: binds("a", symVal("a"), "b", fnVal(i), "c", nilVal())})}
	})
	for at := range 3 {
		on(fmt.Sprint("frame ", at, " of three"), []int{i, 7, own, pair}, []int{0, 1, i}, []int{0, 1, i}, func(m *impl.Machine) {
			m.Stack = slices.Repeat([]impl.Frame{waits(impl.Frame{})}, 3)
			m.Stack[at].Vals = vals(pairVal(pair))
		})
	}
	if mode != impl.MoEval {
		on("Val", []int{i, own}, []int{0, i}, []int{0, i}, func(m *impl.Machine) { m.Val = fnVal(i) })
		on("a pair as Val", []int{i, own, pair}, []int{0, i}, []int{0, i}, func(m *impl.Machine) { m.Val = pairVal(pair) })
		on("Val with a code", []int{i, own}, []int{0, i}, []int{0, i}, func(m *impl.Machine) { m.Val, m.End = fnVal(i), impl.EnUser })
	}
}

// Several tasks, each with something of its own.
func TestReachOfSeveralTasks(t *testing.T) {
	w := ofTasks()
	w.Next = 9
	w.Tasks = []impl.Task{
		{Id: 1, Mac: impl.Machine{Mode: impl.MoEval, Unit: 1, Stack: []impl.Frame{{Unit: 2, Node: 4}}}},
		{Id: 2, Mac: impl.Machine{Mode: impl.MoBack, Unit: 0, Val: fnVal(3)}},
		{Id: 4, Mac: impl.Machine{Mode: impl.MoEnd, Unit: 0, Val: pairVal(12 + 4)}},
	}
	wantLive(t, "three", w, "3 4 7 8 9 10 16", "0 1 2 3 4", "0 1 2 3 4")
	wantAlive(t, "three", w, "aa", "1 2 3 4")
	for gone, want := range []string{"3 4", "1 2 4", "1 2 3"} {
		z := deepWorld(w)
		z.Tasks = slices.Delete(z.Tasks, gone, gone+1)
		wantReachAsModelled(t, "two", z)
		wantAlive(t, "two", z, "aa", want)
	}
}

// A task keeps the version in which it runs, until it leaves it; at its end it stands where it was last.
func TestReachWhileTasksRun(t *testing.T) {
	lib := "(library aa) (export f) (define v '(1)) (define (f) (cons v (begin 1 2)))"
	start := saidAfter(t, worldOf(t, lib), "(import aa)")
	for text, end := range map[string]string{"(cons (f) 5)": "2", "(cons 5 (f))": "1 2", "(f)": "1 2", "(begin (f) (car 5))": "2"} {
		for steps := range 30 {
			w := posted(t, start, text, steps)
			wantReachAsModelled(t, text, w)
			wantAlive(t, text, w, "aa", "1")
			w = upgraded(t, w, lib)
			live := wantReachAsModelled(t, text, w)
			m := w.Tasks[0].Mac
			inside := m.Unit == 1 || slices.ContainsFunc(m.Stack, func(f impl.Frame) bool { return f.Unit == 1 }) || slices.ContainsFunc(m.Stack, func(f impl.Frame) bool { return slices.Contains(f.Vals, fnVal(1)) }) || m.Val == fnVal(1)
			if inside != live.Insts[1] {
				t.Errorf("%s behind %d steps: the old one is live: %v; want %v", text, steps, live.Insts[1], inside)
			}
			if m.Mode == impl.MoEnd {
				wantAlive(t, text+" at its end", w, "aa", end)
			}
			w.Tasks = nil
			wantAlive(t, text+" without it", w, "aa", "2")
		}
	}
	// a task that has not yet asked for its function takes that of the new one
	w := upgraded(t, posted(t, start, "(cons 1 (f))", 0), lib)
	wantAlive(t, "not yet", w, "aa", "2")
	w = upgraded(t, posted(t, start, "((lambda (g) (cons (begin 1 2) (g))) f)", 6), lib)
	wantAlive(t, "bound", w, "aa", "1 2")
	// what a task has told is kept by it, and by no one else
	w = posted(t, start, "(begin 1 f)", impl.MaxSteps)
	wantAlive(t, "told", upgraded(t, w, lib), "aa", "1 2")
	w = posted(t, start, "(pair? f)", impl.MaxSteps)
	wantAlive(t, "not told", upgraded(t, w, lib), "aa", "2")
	w = posted(t, start, "(cons f 1)", impl.MaxSteps)
	wantAlive(t, "told in a pair", upgraded(t, w, lib), "aa", "1 2")
	w = posted(t, start, "(error (cons 1 f))", impl.MaxSteps)
	wantAlive(t, "told with an error", upgraded(t, w, lib), "aa", "1 2")
	w.Tasks = nil
	wantAlive(t, "forgotten", upgraded(t, w, lib), "aa", "2")
}

// The world with tasks of all sorts, step by step.
func TestReachStepByStep(t *testing.T) {
	w := fullWorld(t)
	wantReachAsModelled(t, "full", w)
	wantReachAsModelled(t, "by hand", byHand(t))
	for task := range w.Tasks {
		z := w
		for range 60 {
			z = sliced(z, task, 1)
			wantReachAsModelled(t, "a step on", z)
		}
	}
}

// A row of cells as long as there may be, each hanging on the next.
func TestReachOfLongRows(t *testing.T) {
	t.Parallel()
	for _, n := range []int{0, 1, 2, 17, impl.MaxHeap - 1, impl.MaxHeap} {
		y := impl.NewSys()
		y.Units = []impl.Unit{{Home: 0, Prog: program(variable("x"), binding(0))}}
		down, up, closed := deepSys(y), deepSys(y), deepSys(y)
		for i := range n {
			pair, rec, fn := pairCell(numVal(i), nilVal()), recCell("q", 0), fnCell(nil)
			fn.B = 1
			if i > 0 {
				pair.Vals[i%2] = pairVal(i - 1)
				fn.Names, fn.Vals = names("x"), vals(fnVal(i-1))
			}
			if i < n-1 {
				rec.Vals = vals(symVal("a"), recVal(i+1))
			}
			down.Heap, up.Heap, closed.Heap = append(down.Heap, pair), append(up.Heap, rec), append(closed.Heap, fn)
		}
		wantLive(t, "nothing is held", talking(down), "", "0", "")
		wantLive(t, "nothing is held", talking(up), "", "0", "")
		for _, at := range []int{0, 1, n / 2, n - 2, n - 1} {
			if at < 0 || at >= n {
				continue
			}
			z := deepWorld(talking(down))
			z.Sys.Insts[0].Names, z.Sys.Insts[0].Vals = names("x"), vals(pairVal(at))
			wantLive(t, fmt.Sprint(n, " pairs held at ", at), z, upTo(at+1), "0", "")
			z = deepWorld(talking(closed))
			z.Sys.Insts[0].Names, z.Sys.Insts[0].Vals = names("x"), vals(fnVal(at))
			wantLive(t, fmt.Sprint(n, " functions held at ", at), z, upTo(at+1), "0", "0")
			z = deepWorld(talking(up))
			z.Sys.Insts[0].Names, z.Sys.Insts[0].Vals = names("x"), vals(recVal(at))
			flags := slices.Repeat([]bool{true}, n)
			clear(flags[:at])
			wantLive(t, fmt.Sprint(n, " records held at ", at), z, which(flags), "0", "")
		}
	}
}

// All pairs share the one ahead: there are far more ways than cells.
func TestReachOfManyWays(t *testing.T) {
	y := impl.NewSys()
	y.Heap = []impl.Cell{pairCell(nilVal(), nilVal())}
	for i := range impl.MaxHeap - 1 {
		y.Heap = append(y.Heap, pairCell(pairVal(i), pairVal(i)))
	}
	y.Insts[0].Names, y.Insts[0].Vals = names("x"), vals(pairVal(impl.MaxHeap-1))
	wantLive(t, "pairs", talking(y), upTo(impl.MaxHeap), "0", "")
	for i := range y.Heap {
		y.Heap[i] = recCell("q", 1)
		for k := range 8 {
			y.Heap[i].Vals = append(y.Heap[i].Vals, recVal((i+k)%impl.MaxHeap))
		}
	}
	y.Insts[0].Vals[0] = recVal(99)
	wantLive(t, "records", talking(y), upTo(impl.MaxHeap), "0", "")
}

func TestReachOfAsManyInstsAsThereMayBe(t *testing.T) {
	y := impl.NewSys()
	for i := range impl.MaxInsts - 1 {
		y.Insts = append(y.Insts, impl.Inst{Lib: "aa", Ver: 1000 - i})
	}
	wantLive(t, "none is linked", talking(y), "", "0", "")
	for i := range impl.MaxInsts - 1 {
		y.Insts[i].Links = []impl.Link{link("x", i+1, "x")}
	}
	wantLive(t, "a row", talking(y), "", upTo(impl.MaxInsts), "")
	wantAlive(t, "a row", talking(y), "aa", "990 991 992 993 994 995 996 997 998 999 1000")
	y.Insts[5].Links = nil
	wantLive(t, "a row that is cut", talking(y), "", upTo(6), "")
	// the other way up
	for i := range y.Insts {
		y.Insts[i].Links = []impl.Link{link("x", (i+impl.MaxInsts-1)%impl.MaxInsts, "x")}
	}
	wantLive(t, "a row from the last one", talking(y), "", upTo(impl.MaxInsts), "")
	// the last one by Libs alone
	for i := range y.Insts {
		y.Insts[i].Links = nil
	}
	w := talking(y)
	w.Libs = []impl.Ent{{Src: impl.Src{Name: "aa"}, Ver: 1000 - (impl.MaxInsts - 2), Inst: impl.MaxInsts - 1}}
	wantLive(t, "the last one", w, "", "0 11", "")
	wantAlive(t, "the last one", w, "aa", "990")
}

func TestReachOfAsManyUnitsAndTasksAsThereMayBe(t *testing.T) {
	y := impl.NewSys()
	for i := range impl.MaxUnits {
		y.Units = append(y.Units, impl.Unit{Home: 0, Prog: program(variable("x"), binding(0))})
		f := fnCell(nil)
		f.A, f.B = impl.MaxUnits-1-i, 1
		y.Heap = append(y.Heap, f)
	}
	wantLive(t, "no function is held", talking(y), "", "0", "")
	for i := range 30 {
		y.Insts[0].Names, y.Insts[0].Vals = append(y.Insts[0].Names, "x"+impl.Dec(i)), append(y.Insts[0].Vals, fnVal(i))
	}
	flags := slices.Repeat([]bool{true}, impl.MaxUnits)
	clear(flags[:30])
	wantLive(t, "half of them", talking(y), upTo(30), "0", which(flags))
	w := talking(y)
	w.Next = 100000
	for i := range impl.MaxTasks {
		w.Tasks = append(w.Tasks, impl.Task{Id: 99999 - impl.MaxTasks + i + 1, Mac: impl.Machine{Mode: impl.MoEval, Unit: i * 5}})
		flags[i*5] = true
	}
	wantLive(t, "by tasks, too", w, upTo(30), "0", which(flags))
	// as much as can wait: each frame has a unit of its own
	w.Tasks = w.Tasks[:1]
	for i := range impl.MaxStack {
		w.Sys.Units[i%impl.MaxUnits].Prog = program(variable("x"), binding(0), impl.Node{Kind: impl.NdCall, Args: []int{1}})
		w.Tasks[0].Mac.Stack = append(w.Tasks[0].Mac.Stack, impl.Frame{Unit: i % impl.MaxUnits, Node: 2})
	}
	wantLive(t, "by frames", w, upTo(30), "0", upTo(impl.MaxUnits))
	w.Tasks[0].Mac.Stack[impl.MaxStack-1].Env = binds("x", fnVal(impl.MaxUnits-1))
	wantLive(t, "by the last frame", w, upTo(30)+" 59", "0", upTo(impl.MaxUnits))
}

// A row through all sorts: each Inst has a function, whose unit is at home in the next one.
func TestReachThroughAllSorts(t *testing.T) {
	y := impl.NewSys()
	for i := range impl.MaxInsts {
		f := fnCell(nil)
		f.A, f.B = i, 1
		y.Heap = append(y.Heap, f)
		y.Units = append(y.Units, impl.Unit{Home: min(i+1, impl.MaxInsts-1), Prog: program(variable("x"), binding(0))})
		if i > 0 {
			y.Insts = append(y.Insts, impl.Inst{Lib: "x" + impl.Dec(i), Ver: i, Names: names("f"), Vals: vals(fnVal(i))})
		}
	}
	wantLive(t, "the session has nothing", talking(y), "", "0", "")
	y.Insts[0].Names, y.Insts[0].Vals = names("f"), vals(fnVal(0))
	wantLive(t, "from the session", talking(y), upTo(impl.MaxInsts), upTo(impl.MaxInsts), upTo(impl.MaxInsts))
	y.Insts[0].Vals[0] = fnVal(9)
	wantLive(t, "from the session, not far from the end", talking(y), "9 10 11", "0 10 11", "9 10 11")
	w := talking(y)
	w.Sys.Insts[0].Vals[0] = nilVal()
	w.Tasks, w.Next = []impl.Task{{Id: 1, Mac: impl.Machine{Mode: impl.MoEval, Unit: 7}}}, 2
	wantLive(t, "from a task", w, "8 9 10 11", "0 8 9 10 11", "7 8 9 10 11")
	w.Tasks = nil
	w.Libs = []impl.Ent{{Src: impl.Src{Name: "x6"}, Ver: 6, Inst: 6}}
	wantLive(t, "from a library", w, "6 7 8 9 10 11", "0 6 7 8 9 10 11", "6 7 8 9 10 11")
}

func TestReachOfWorldsThatAreNotRight(t *testing.T) {
	for _, w := range wrongWorlds(t) {
		if l := impl.Reach(w); !alike(l, impl.Live{}) {
			t.Fatalf("Reach(%s) = %s; want nothing", shown(w), shown(l))
		}
		for _, lib := range append(names("aa bb zz"), "") {
			if a := impl.Alive(w, lib); len(a) != 0 {
				t.Fatalf("Alive(%s, %q) = %v; want nothing", shown(w), lib, a)
			}
		}
	}
}

// An Inst that nobody comes to is of none of the libraries, though it stands there still.
func TestAliveOfWhatIsNoMore(t *testing.T) {
	w := saidAfter(t, worldOf(t, "(library aa) (export f) (define (f) 1)", "(library bb)"), "(import aa) (define old f)")
	w.Libs = w.Libs[1:]
	wantAlive(t, "no library any more, but linked", w, "aa", "1")
	w.Sys.Insts[0].Links = nil
	wantAlive(t, "no library any more, but held", w, "aa", "1")
	w = saidAfter(t, w, "(define old 1)")
	wantAlive(t, "no library any more", w, "aa", "")
	wantLive(t, "no library any more", w, "", "0 2", "")
	for _, lib := range append(names("a aaa AA zz if bb: b"), "aa ", " aa", "bb\x00") {
		wantAlive(t, "nobody's", w, lib, "")
	}
	wantAlive(t, "the other one", w, "bb", "1")
	wantAlive(t, "the session", w, "", "0")
	// a new one of that Name begins anew
	w = upgraded(t, w, "(library aa)")
	wantAlive(t, "a new one", w, "aa", "1")
	wantLive(t, "a new one", w, "", "0 2 3", "")
}

// wantHanging asks of each thing that it is live just where something live has it.
func wantHanging(t *testing.T, w impl.World, l impl.Live, counts map[string]int) {
	t.Helper()
	isLive := func(x thing) bool {
		switch x.sort {
		case "cell":
			return l.Cells[x.at]
		case "inst":
			return l.Insts[x.at]
		case "unit":
			return l.Units[x.at]
		}
		return true
	}
	held := map[thing]int{}
	for on, all := range hanging(w) {
		for _, one := range all {
			if isLive(on) && !isLive(one) {
				t.Fatalf("%v hangs on %v, but is not live in %s", one, on, shown(w))
			}
			if isLive(on) && on != one {
				held[one]++
			}
		}
	}
	for sort, flags := range map[string][]bool{"cell": l.Cells, "inst": l.Insts, "unit": l.Units} {
		for i, live := range flags {
			if live != (held[thing{sort, i}] > 0) {
				t.Fatalf("%s %d is live: %v, and so many that are live have it: %d in %s", sort, i, live, held[thing{sort, i}], shown(w))
			}
			counts[fmt.Sprint(sort, " ", live)]++
		}
	}
}

func wantOften(t *testing.T, counts map[string]int, least int) {
	t.Helper()
	for _, sort := range names("cell inst unit") {
		for _, live := range []bool{true, false} {
			if what := fmt.Sprint(sort, " ", live); counts[what] < least {
				t.Errorf("%s was hardly there: %v", what, counts)
			}
		}
	}
}

// sparse is w without most of what holds something: so there is more that is not live.
func (s scene) sparse(w impl.World) impl.World {
	w = deepWorld(w)
	for i := range w.Sys.Insts {
		in := &w.Sys.Insts[i]
		in.Links = slices.DeleteFunc(in.Links, func(impl.Link) bool { return s.r.Intn(4) > 0 })
	}
	w.Libs = w.Libs[:s.r.Intn(len(w.Libs)+1)]
	for i := range w.Libs {
		w.Libs[i].Src.Imports = nil
	}
	w.Tasks = w.Tasks[:min(s.r.Intn(3), len(w.Tasks))]
	for i := range w.Tasks {
		m := &w.Tasks[i].Mac
		m.Stack = m.Stack[:min(s.r.Intn(4), len(m.Stack))]
		m.Env = m.Env[:min(s.r.Intn(3), len(m.Env))]
	}
	return w
}

func TestReachByChance(t *testing.T) {
	t.Parallel()
	r := rand.New(rand.NewSource(161))
	counts := map[string]int{}
	for range 500 {
		s, w := worldByChance(r)
		for _, z := range []impl.World{w, s.sparse(w)} {
			wantHanging(t, z, wantReachAsModelled(t, "by chance", z), counts)
		}
	}
	wantOften(t, counts, 300)
}

// edition is a library with functions, which may import another one.
func (m maker) edition() string {
	return m.pick("(library aa)", "(library bb) (import aa)", "(library cc) (import bb)", "(library cc) (import aa)") +
		" (export f g) (define (f x) " + m.pick("x", "g", "(cons g x)") + ") (define g " + m.pick("1", "'(1 2)", "(lambda (x) f)", "(lambda () (f f))") + ")"
}

// taken are sayings that mostly hold what a library exports.
func (m maker) taken(w impl.World) string {
	if len(w.Libs) == 0 || m.r.Intn(3) == 0 {
		return ""
	}
	s := w.Libs[m.r.Intn(len(w.Libs))].Src
	if len(s.Exports) == 0 {
		return ""
	}
	name := m.pick(s.Exports...)
	return "(import " + s.Name + ") (define " + m.pick("x", "y", "x0", "a") + " " + m.pick(name, name, "(cons "+name+" x)", "(lambda () "+name+")") + ") "
}

// Worlds that are spoken to, changed, and whose tasks go on.
func TestReachOfWorldsThatGoOn(t *testing.T) {
	t.Parallel()
	m := maker{rand.New(rand.NewSource(162))}
	counts, codes, versions := map[string]int{}, map[int]int{}, map[int]int{}
	for range 60 {
		w := impl.NewWorld()
		for range 24 {
			if m.r.Intn(2) == 0 {
				w = m.done(t, w, codes)
			} else {
				w, _ = impl.Upgrade(w, m.edition())
			}
			w, _ = impl.Say(w, m.taken(w)+m.sayings(w, 2))
			wantHanging(t, w, wantReachAsModelled(t, "gone on", w), counts)
			for _, e := range w.Libs {
				all := impl.Alive(w, e.Src.Name)
				if len(all) == 0 || all[len(all)-1] != e.Ver {
					t.Fatalf("%s is version %d, and alive are %v", e.Src.Name, e.Ver, all)
				}
				versions[len(all)]++
			}
		}
	}
	wantOften(t, counts, 100)
	if versions[1] < 100 || versions[2] < 100 || versions[3] < 10 {
		t.Error("hardly one had several versions", versions)
	}
}

// onward is something that can be done to a world, by chance. No converter is in it: that is handed what is not live, too.
func (m maker) onward(t *testing.T, w impl.World) func(w impl.World) (impl.World, string) {
	switch what := m.r.Intn(10); {
	case what < 3:
		text := m.change(names("aa bb cc dd"), libsOf(w))
		return func(w impl.World) (impl.World, string) {
			z, report := impl.Upgrade(w, text)
			return z, fmt.Sprint(report)
		}
	case what < 5 && len(w.Tasks) < impl.MaxTasks && len(w.Sys.Units) < impl.MaxUnits:
		text, steps := m.pick("(f 1)", "(g 'a)", "(cons v w)", "(h (k 1))", "((lambda (x) (cons (f x) (g x))) 3)", "(cons f (g 1))", "(begin (f 1) (g 2) (h 3))"), m.r.Intn(9)
		return func(w impl.World) (impl.World, string) { return posted(t, w, text, steps), "" }
	case what < 7 && len(w.Tasks) > 0:
		task, steps := m.r.Intn(len(w.Tasks)), m.r.Intn(12)
		return func(w impl.World) (impl.World, string) {
			z := sliced(w, task, steps)
			return z, impl.Answer(z.Sys, z.Tasks[task].Mac)
		}
	}
	text := m.sayings(w, 4)
	return func(w impl.World) (impl.World, string) {
		z, answers := impl.Say(w, text)
		return z, strings.Join(answers, "|")
	}
}

// wiped is w with nothing of what is not live, in its place.
func wiped(w impl.World) impl.World {
	l, z := impl.Reach(w), deepWorld(w)
	for i, live := range l.Cells {
		if !live {
			z.Sys.Heap[i] = pairCell(symVal("wiped"), numVal(9))
		}
	}
	for i, live := range l.Insts {
		if in := z.Sys.Insts[i]; !live {
			z.Sys.Insts[i] = impl.Inst{Lib: in.Lib, Ver: in.Ver}
		}
	}
	for i, live := range l.Units {
		if !live {
			z.Sys.Units[i] = impl.Unit{Home: 0, Prog: program(impl.Node{Kind: impl.NdNum, N: 9})}
		}
	}
	return z
}

// Whatever is done then, nobody comes to what is not live any more, and nobody sees it when that is another thing.
func TestNobodyComesToWhatIsNotLive(t *testing.T) {
	t.Parallel()
	m := maker{rand.New(rand.NewSource(163))}
	dead, seen := 0, map[string]int{}
	for range 80 {
		w := impl.NewWorld()
		for range 25 {
			z := wiped(w)
			if !impl.WorldOk(z) {
				t.Fatal("it is not right any more", shown(z))
			}
			before := impl.Reach(w)
			if !alike(impl.Reach(z), before) {
				t.Fatalf("Reach of %s is another one when all else is wiped", shown(w))
			}
			next := m.onward(t, w)
			after, answer := next(w)
			z, other := next(z)
			if answer != other || !alike(z.Sys.Out, after.Sys.Out) {
				t.Fatalf("it answers %q; %q when what is not live is wiped in %s", answer, other, shown(w))
			}
			live := impl.Reach(after)
			for _, two := range [][2][]bool{{before.Cells, live.Cells}, {before.Insts, live.Insts}, {before.Units, live.Units}} {
				for i, was := range two[0] {
					if !was {
						dead++
					}
					if !was && two[1][i] {
						t.Fatalf("number %d is live again in %s", i, shown(after))
					}
				}
			}
			if answer != "" && !strings.HasPrefix(answer, "{") { // no report
				countAnswers(seen, strings.Split(answer, "|"))
			}
			w = after
		}
	}
	if dead < 1000 || seen["told"] < 150 || seen["ok"] < 150 {
		t.Error("hardly anything was done", dead, seen)
	}
}

func TestReachLeavesWhatIsHandedIn(t *testing.T) {
	t.Parallel()
	for _, w := range worldsOfAllSorts(t) {
		for _, lib := range append(names("aa bb a zz"), "") {
			given := roomyOf(spoken{w, lib})
			before := wholeOf(given)
			l, a := impl.Reach(given.World), impl.Alive(given.World, given.Text)
			if !alike(wholeOf(given), before) {
				t.Fatalf("Reach(%s) changes what is handed in", shown(w))
			}
			if !shareNone([]any{given}, []any{l, a}) {
				t.Fatalf("Reach(%s) shares memory", shown(w))
			}
			// nothing is kept, and what stands in the spare room is not looked at
			for range 2 {
				again, other := impl.Reach(w), impl.Alive(w, lib)
				if !alike(again, l) || !slices.Equal(other, a) {
					t.Fatalf("Reach(%s) is another one when it is asked again", shown(w))
				}
				if !shareNone([]any{l, a}, []any{again, other}) {
					t.Fatalf("two answers of Reach(%s) share memory", shown(w))
				}
				for _, flags := range [][]bool{again.Cells, again.Insts, again.Units} {
					for i := range flags {
						flags[i] = !flags[i]
					}
				}
				clear(other)
			}
		}
	}
}
