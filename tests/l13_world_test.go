package tests

import (
	"fmt"
	"math"
	"math/rand"
	"slices"
	"strings"
	"testing"

	"loop.example/g00765/impl"
)

func deepWorld(w impl.World) impl.World {
	w.Sys, w.Libs, w.Tasks = deepSys(w.Sys), slices.Clone(w.Libs), slices.Clone(w.Tasks)
	for i := range w.Libs {
		w.Libs[i].Src = deepSrc(w.Libs[i].Src)
	}
	for i := range w.Tasks {
		w.Tasks[i].Mac = deepMachine(w.Tasks[i].Mac)
	}
	return w
}

// wantWorld asks WorldOk, and Current of each library and of some that are not there.
func wantWorld(t *testing.T, what string, w impl.World, want bool) {
	t.Helper()
	if ok := impl.WorldOk(w); ok != want {
		t.Errorf("%s: WorldOk(%s) = %v; want %v", what, shown(w), ok, want)
	}
	for _, e := range w.Libs {
		at := e.Inst
		if !want {
			at = -1
		}
		wantCurrent(t, what, w, e.Src.Name, at)
	}
	for _, lib := range []string{"", "a", "zz", "if", "%t", "aa ", "AA", "a\x00", strings.Repeat("aa", 99)} {
		if !slices.ContainsFunc(w.Libs, func(e impl.Ent) bool { return e.Src.Name == lib }) {
			wantCurrent(t, what, w, lib, -1)
		}
	}
}

func wantCurrent(t *testing.T, what string, w impl.World, lib string, want int) {
	t.Helper()
	if at := impl.Current(w, lib); at != want {
		t.Errorf("%s: Current(.., %q) = %d; want %d", what, lib, at, want)
	}
}

// worldOf makes a world of libraries, each of which is taken.
func worldOf(t *testing.T, texts ...string) impl.World {
	t.Helper()
	w := impl.NewWorld()
	for _, text := range texts {
		w = upgraded(t, w, text)
	}
	return w
}

func upgraded(t *testing.T, w impl.World, text string) impl.World {
	t.Helper()
	z, report := impl.Upgrade(w, text)
	if report.Code != impl.UpOk {
		t.Fatalf("Upgrade of %s: %+v", text, report)
	}
	wantWorld(t, text, z, true)
	return z
}

// posted is w with a task more, which has taken so many steps.
func posted(t *testing.T, w impl.World, text string, steps int) impl.World {
	t.Helper()
	w = deepWorld(w)
	w.Sys.Units = append(w.Sys.Units, impl.Unit{Home: 0, Prog: meant(t, text)})
	m, ok := impl.Start(w.Sys, len(w.Sys.Units)-1)
	if !ok {
		t.Fatal("no start of", text)
	}
	w.Tasks = append(w.Tasks, impl.Task{Id: w.Next, Mac: m})
	w.Next++
	return sliced(w, len(w.Tasks)-1, steps)
}

// sliced is w behind so many steps of a task.
func sliced(w impl.World, task int, steps int) impl.World {
	w = deepWorld(w)
	w.Sys, w.Tasks[task].Mac, _ = impl.Run(w.Sys, w.Tasks[task].Mac, steps)
	return w
}

// linked is w with what that library exports as Links of the session.
func linked(w impl.World, lib string) impl.World {
	w = deepWorld(w)
	for _, e := range w.Libs {
		if e.Src.Name == lib {
			for _, name := range e.Src.Exports {
				w.Sys.Insts[0].Links = append(w.Sys.Insts[0].Links, link(name, e.Inst, name))
			}
		}
	}
	return w
}

// aBase, aMiddle and aTop each import the one ahead.
const (
	aBase   = "(library aa) (export base bump) (define base 7) (define (bump) (set! base (+ base 1)))"
	aMiddle = "(library bb) (import aa) (export pt? mk) (record pt 2) (define (mk x) (make pt x base)) (define (pt? x) (is pt x)) (define own (mk 1))"
	aTop    = "(library cc) (export twice) (import bb aa) (define (twice) (cons (mk 1) (cons base '())))"
)

// fullWorld has libraries that import others, one that does not, and tasks that
// have begun, go on, and have ended.
func fullWorld(t *testing.T) impl.World {
	t.Helper()
	w := worldOf(t, aBase, aMiddle, aTop, "(library dd)")
	w = linked(linked(w, "cc"), "aa")
	w = posted(t, w, "(twice)", 0)
	w = posted(t, w, "(begin (bump) (twice))", 7)
	w = posted(t, w, "(print (twice))", impl.MaxSteps)
	w = posted(t, w, "(error (bump))", impl.MaxSteps)
	return posted(t, w, "nobody", 1)
}

func TestWorldLimits(t *testing.T) {
	if impl.MaxTasks != 6 || impl.MaxLibs != 6 {
		t.Error("limits of a world", impl.MaxTasks, impl.MaxLibs)
	}
}

func TestNewWorlds(t *testing.T) {
	w := impl.NewWorld()
	if want := (impl.World{Sys: impl.NewSys(), Next: 1}); !alike(w, want) {
		t.Errorf("NewWorld() = %s; want %s", shown(w), shown(want))
	}
	wantWorld(t, "new", w, true)
	wantWorld(t, "nothing", impl.World{}, false)
	wantWorld(t, "a session alone", impl.World{Sys: impl.NewSys()}, false)
	wantWorld(t, "no session", impl.World{Next: 1}, false)
	w.Libs, w.Tasks = []impl.Ent{}, []impl.Task{}
	wantWorld(t, "empty lists", w, true)
	// what is done to one changes nothing of the next
	w.Sys.Insts[0].Lib, w.Next = "aa", 9
	wantWorld(t, "another", impl.NewWorld(), true)
}

func TestWorldsAsTheyAreMade(t *testing.T) {
	w := worldOf(t, aBase)
	wantCurrent(t, "one", w, "aa", 1)
	w = worldOf(t, aBase, aMiddle)
	wantCurrent(t, "two", w, "bb", 2)
	w = worldOf(t, "(library zz)", "(library mm)", "(library aa)")
	for i, lib := range []string{"zz", "mm", "aa"} {
		wantCurrent(t, "falling", w, lib, i+1)
		wantCurrent(t, "falling", w, lib[:1], -1)
	}
	w = fullWorld(t)
	wantWorld(t, "full", w, true)
	for i, lib := range []string{"aa", "bb", "cc", "dd"} {
		wantCurrent(t, "full", w, lib, i+1)
	}
	modes := []int{}
	for _, task := range w.Tasks {
		modes = append(modes, task.Mac.Mode)
	}
	if !slices.Contains(modes, impl.MoEval) || !slices.Contains(modes, impl.MoEnd) || len(modes) != 5 {
		t.Error("tasks are not of each sort", modes)
	}
}

// byHand is a world of a system with something of each sort: two libraries, an
// older Inst of one of them, and a machine in each mode.
func byHand(t *testing.T) impl.World {
	t.Helper()
	y := withUnit(t, 0, aRow)
	aa := impl.Src{Name: "aa", Exports: names("p v"), Types: []impl.Type{{Name: "pt", Size: 2}}, Defs: []impl.Def{defOf(t, "v", "4"), defOf(t, "p", "'(1)")}, Convs: []impl.Def{defOf(t, "pt", "(lambda (r) '(1 2))")}}
	bb := impl.Src{Name: "bb", Imports: names("aa"), Exports: names("r"), Defs: []impl.Def{defOf(t, "f", "(lambda () v)"), defOf(t, "r", "#f")}}
	w := impl.World{Sys: y, Libs: []impl.Ent{{Src: aa, Ver: 1, Inst: 1}, {Src: bb, Ver: 1000, Inst: 2}}, Next: 12}
	for i, m := range eachMode(y) {
		w.Tasks = append(w.Tasks, impl.Task{Id: []int{1, 3, 4, 11}[i], Mac: m})
	}
	return w
}

// worldBut asks of the world by hand, but for one thing.
func worldBut(t *testing.T, what string, want bool, change func(w *impl.World)) {
	t.Helper()
	w := byHand(t)
	change(&w)
	wantWorld(t, what, w, want)
}

func TestWorldByHand(t *testing.T) {
	worldBut(t, "as it is", true, func(w *impl.World) {})
	worldBut(t, "no tasks", true, func(w *impl.World) { w.Tasks = nil })
	worldBut(t, "no libraries", true, func(w *impl.World) { w.Libs = nil })
	worldBut(t, "one library", true, func(w *impl.World) { w.Libs = w.Libs[:1] })
	worldBut(t, "another Inst of that Lib and Ver", true, func(w *impl.World) { w.Libs[0].Inst, w.Libs[0].Src.Exports = 3, names("v") })
	worldBut(t, "an Export that this one has not", false, func(w *impl.World) { w.Libs[0].Inst = 3 })
}

func TestWorldsOfSystemsThatAreNotRight(t *testing.T) {
	for what, spoil := range spoilers() {
		worldBut(t, what, false, func(w *impl.World) { spoil(&w.Sys) })
		worldBut(t, what+", nothing else", false, func(w *impl.World) {
			spoil(&w.Sys)
			w.Libs, w.Tasks = nil, nil
		})
	}
	worldBut(t, "no system", false, func(w *impl.World) { w.Sys = impl.Sys{} })
	worldBut(t, "a new one", false, func(w *impl.World) { w.Sys = impl.NewSys() })
}

// manyLibs is a world of so many, without tasks.
func manyLibs(t *testing.T, count int) impl.World {
	t.Helper()
	w := impl.NewWorld()
	for i, name := range slices.Sorted(slices.Values(namesUpTo(count))) {
		w.Sys.Insts = append(w.Sys.Insts, impl.Inst{Lib: name, Ver: 7})
		w.Libs = append(w.Libs, impl.Ent{Src: impl.Src{Name: name}, Ver: 7, Inst: i + 1})
	}
	return w
}

func TestHowManyLibs(t *testing.T) {
	for count := range impl.MaxInsts {
		wantWorld(t, fmt.Sprint(count, " libraries"), manyLibs(t, count), count <= impl.MaxLibs)
	}
	w := manyLibs(t, impl.MaxLibs)
	w.Libs = append(w.Libs, w.Libs[5])
	wantWorld(t, "the last one twice", w, false)
}

func TestLibsRise(t *testing.T) {
	worldBut(t, "falling", false, func(w *impl.World) { slices.Reverse(w.Libs) })
	worldBut(t, "one twice", false, func(w *impl.World) { w.Libs = slices.Insert(w.Libs, 1, w.Libs[0]) })
	worldBut(t, "one Name twice", false, func(w *impl.World) {
		again := w.Libs[0]
		again.Inst, again.Src.Exports = 3, names("v")
		w.Libs = slices.Insert(w.Libs, 0, again)
	})
	w := manyLibs(t, impl.MaxLibs)
	for i := range impl.MaxLibs {
		for k := range impl.MaxLibs {
			z := deepWorld(w)
			z.Libs[i], z.Libs[k] = z.Libs[k], z.Libs[i]
			wantWorld(t, fmt.Sprint(i, " and ", k, " in each other's place"), z, i == k)
		}
	}
	// by their bytes, and a beginning is less
	for _, two := range [][2]string{{"a", "aa"}, {"aa", "b"}, {"x10", "x9"}, {"!", "a"}, {"%t", "a"}, {"a", "a!"}} {
		w := manyLibs(t, 2)
		for i, name := range two {
			w.Libs[i].Src.Name, w.Sys.Insts[i+1].Lib = name, name
		}
		wantWorld(t, fmt.Sprint(two), w, true)
		slices.Reverse(w.Libs)
		wantWorld(t, fmt.Sprint(two, " falling"), w, false)
	}
}

func TestSourcesOfAWorld(t *testing.T) {
	right := deepSrc(wholeSrc(t))
	right.Imports = nil
	withWhole := func(s impl.Src) impl.World {
		w := impl.NewWorld()
		w.Sys.Insts = append(w.Sys.Insts, impl.Inst{Lib: s.Name, Ver: 1}, impl.Inst{Lib: "bb", Ver: 1}, impl.Inst{Lib: "cc", Ver: 1})
		for _, name := range s.Exports {
			w.Sys.Insts[1].Names = append(w.Sys.Insts[1].Names, name)
			w.Sys.Insts[1].Vals = append(w.Sys.Insts[1].Vals, numVal(1))
		}
		w.Libs = []impl.Ent{{Src: s, Ver: 1, Inst: 1}, {Src: impl.Src{Name: "bb"}, Ver: 1, Inst: 2}, {Src: impl.Src{Name: "cc"}, Ver: 1, Inst: 3}}
		return w
	}
	wantWorld(t, "right", withWhole(right), true)
	right.Imports = names("cc bb")
	wantWorld(t, "right, with Imports", withWhole(right), true)
	for what, s := range wrongSources(t) {
		wantWorld(t, what, withWhole(s), false)
	}
	worldBut(t, "no source", false, func(w *impl.World) { w.Libs[0].Src = impl.Src{} })
	worldBut(t, "a source without a Name", false, func(w *impl.World) { w.Libs[0] = impl.Ent{} })
}

// Nothing but what is exported is asked for: what stands in the source and in the
// Inst besides need not be the same.
func TestWhatIsNotAskedOfLibs(t *testing.T) {
	worldBut(t, "Defs without a name in the Inst", true, func(w *impl.World) {
		w.Libs[0].Src.Defs = append(w.Libs[0].Src.Defs, defOf(t, "q", "1"))
	})
	worldBut(t, "other Types", true, func(w *impl.World) { w.Libs[0].Src.Types[0].Size = 7 })
	worldBut(t, "no Types", true, func(w *impl.World) { w.Libs[0].Src.Types, w.Libs[0].Src.Convs = nil, nil })
	worldBut(t, "converters that are no functions", true, func(w *impl.World) { w.Libs[0].Src.Convs = []impl.Def{defOf(t, "pt", "1")} })
	worldBut(t, "no Exports", true, func(w *impl.World) { w.Libs[0].Src.Exports = nil })
	worldBut(t, "no Exports and no names", true, func(w *impl.World) {
		w.Libs[0].Src.Exports = nil
		w.Sys.Insts[1].Names, w.Sys.Insts[1].Vals = nil, nil
	})
	worldBut(t, "no Links to what is imported", true, func(w *impl.World) { w.Sys.Insts[2].Links = nil })
	worldBut(t, "an Import more", true, func(w *impl.World) {
		w.Libs[0].Src.Imports, w.Libs[1].Src.Imports = names("bb"), nil
	})
}

func TestVersionsOfLibs(t *testing.T) {
	for _, ver := range []int{math.MinInt, -1, 0, 1, 2, 999, 1000, 1001, math.MaxInt} {
		ok := ver >= 1 && ver <= 1000
		worldBut(t, fmt.Sprint("Ver ", ver, " of both"), ok, func(w *impl.World) { w.Libs[0].Ver, w.Sys.Insts[1].Ver = ver, ver })
		worldBut(t, fmt.Sprint("Ver ", ver, " of the library"), ver == 1, func(w *impl.World) { w.Libs[0].Ver = ver })
		worldBut(t, fmt.Sprint("Ver ", ver, " of the Inst"), ver == 1, func(w *impl.World) { w.Sys.Insts[1].Ver = ver })
		worldBut(t, fmt.Sprint("Ver ", ver, " of the other library"), ver == 1000, func(w *impl.World) { w.Libs[1].Ver = ver })
	}
}

func TestInstsOfLibs(t *testing.T) {
	for _, at := range []int{math.MinInt, -2, -1, 0, 1, 2, 3, 4, 5, 12, 1 << 32, 1<<32 + 1, math.MaxInt} {
		worldBut(t, fmt.Sprint("aa as Inst ", at), at == 1, func(w *impl.World) { w.Libs[0].Inst = at })
		worldBut(t, fmt.Sprint("bb as Inst ", at), at == 2, func(w *impl.World) { w.Libs[1].Inst = at })
	}
	worldBut(t, "of another Lib", false, func(w *impl.World) { w.Sys.Insts[1].Lib = "ab" })
	worldBut(t, "of another Lib's Ver", false, func(w *impl.World) { w.Libs[0].Ver = 1000 })
	worldBut(t, "each other's", false, func(w *impl.World) { w.Libs[0].Inst, w.Libs[1].Inst = 2, 1 })
	worldBut(t, "each other's, of one Ver", false, func(w *impl.World) {
		w.Sys.Insts[2].Ver, w.Libs[1].Ver = 1, 1
		w.Libs[0].Inst, w.Libs[1].Inst = 2, 1
		w.Libs[0].Src.Exports, w.Libs[1].Src.Exports = nil, nil
	})
	// the last one there can be
	w := manyLibs(t, impl.MaxLibs)
	for len(w.Sys.Insts) < impl.MaxInsts {
		w.Sys.Insts = append(w.Sys.Insts, impl.Inst{Lib: "x5", Ver: 7})
	}
	w.Libs[5].Inst = impl.MaxInsts - 1
	wantWorld(t, "the last Inst", w, true)
	w.Libs[5].Inst++
	wantWorld(t, "one past the last Inst", w, false)
}

func TestExportsOfLibs(t *testing.T) {
	withExport := func(what string, want bool, name string) {
		t.Helper()
		worldBut(t, what, want, func(w *impl.World) {
			for i := range w.Libs {
				s := &w.Libs[i].Src
				s.Exports, s.Defs = []string{name}, []impl.Def{defOf(t, name, "1")}
			}
			w.Libs = w.Libs[:1]
		})
	}
	withExport("one with a value", true, "v")
	withExport("a pair", true, "p")
	withExport("one without a value", false, "u")
	withExport("one that the Inst has not", false, "w")
	worldBut(t, "the last one has no value", false, func(w *impl.World) {
		s := &w.Libs[0].Src
		s.Exports, s.Defs = append(s.Exports, "u"), append(s.Defs, defOf(t, "u", "1"))
	})
	worldBut(t, "the first one has no value", false, func(w *impl.World) { w.Sys.Insts[1].Vals[2] = impl.Value{} })
	worldBut(t, "one that it has only by a Link", false, func(w *impl.World) {
		s := &w.Libs[1].Src
		s.Exports, s.Defs = append(s.Exports, "a"), append(s.Defs, defOf(t, "a", "1"))
	})
	for _, v := range []impl.Value{numVal(0), boolVal(0), boolVal(1), nilVal(), symVal("a"), pairVal(0), fnVal(2), recVal(4), {}} {
		worldBut(t, fmt.Sprint("of value ", v), v.Kind != impl.VaNone, func(w *impl.World) { w.Sys.Insts[1].Vals[0] = v })
	}
	// what is not exported may be without one
	worldBut(t, "not exported", true, func(w *impl.World) {
		w.Sys.Insts[1].Vals[1] = impl.Value{}
		w.Sys.Insts[2].Vals[0] = impl.Value{}
	})
	// as many as there can be
	many := manyLibs(t, 1)
	all := namesUpTo(30)
	for _, name := range all {
		many.Libs[0].Src.Defs = append(many.Libs[0].Src.Defs, defOf(t, name, "1"))
		many.Sys.Insts[1].Vals = append(many.Sys.Insts[1].Vals, numVal(1))
	}
	many.Sys.Insts[1].Names, many.Libs[0].Src.Exports = all, backwards(all)
	wantWorld(t, "30 Exports", many, true)
	for i := range all {
		z := deepWorld(many)
		z.Sys.Insts[1].Vals[i] = impl.Value{}
		wantWorld(t, fmt.Sprint("30 Exports, without a value at ", i), z, false)
	}
}

func TestImportsOfLibs(t *testing.T) {
	w := manyLibs(t, 4)
	tie := func(what string, want bool, imports ...string) {
		t.Helper()
		z := deepWorld(w)
		for i, l := range imports {
			z.Libs[i].Src.Imports = names(l)
		}
		wantWorld(t, what, z, want)
	}
	a, b, c, d := w.Libs[0].Src.Name, w.Libs[1].Src.Name, w.Libs[2].Src.Name, w.Libs[3].Src.Name
	tie("none", true)
	tie("each the next one", true, b, c, d)
	tie("each all behind", true, b+" "+c+" "+d, d+" "+c, d)
	tie("each the one ahead", true, "", a, b, c)
	tie("one that is no library", false, "zz")
	tie("one that is no library, at the end", false, b, c, d, "zz")
	tie("two each other", false, b, a)
	tie("three each other", false, b, c, a)
	tie("all each other", false, b, c, d, a)
	tie("two each other, and one of them another", false, b, a+" "+c, "", "")
	tie("itself", false, a)
	tie("one twice", false, b+" "+b)
	z := deepWorld(w)
	z.Libs[0].Src.Imports = []string{""}
	wantWorld(t, "a text without a byte", z, false)
	// an Inst is no library: it must be among Libs
	z = deepWorld(w)
	z.Libs[0].Src.Imports = []string{d}
	wantWorld(t, "the last one", z, true)
	z.Libs = z.Libs[:3]
	wantWorld(t, "the last one, which is no library any more", z, false)
}

func TestHowManyTasks(t *testing.T) {
	one := byHand(t).Tasks[0]
	for count := range impl.MaxTasks + 4 {
		worldBut(t, fmt.Sprint(count, " tasks"), count <= impl.MaxTasks, func(w *impl.World) {
			w.Tasks, w.Next = nil, count+1
			for i := range count {
				w.Tasks = append(w.Tasks, impl.Task{Id: i + 1, Mac: deepMachine(one.Mac)})
			}
		})
	}
}

// Each row of Ids stands ahead of what Next is.
func TestNumbersOfTasks(t *testing.T) {
	for _, c := range []struct {
		next int
		ids  []int
		want bool
	}{
		{1, nil, true}, {2, []int{1}, true}, {3, []int{1}, true}, {3, []int{2}, true}, {3, []int{1, 2}, true},
		{0, nil, false}, {-1, nil, false}, {math.MinInt, nil, false},
		{1, []int{1}, false}, {1, []int{0}, false}, {2, []int{0}, false}, {2, []int{-1}, false}, {2, []int{2}, false}, {2, []int{3}, false},
		{3, []int{1, 1}, false}, {3, []int{2, 2}, false}, {3, []int{2, 1}, false}, {3, []int{1, 3}, false}, {3, []int{0, 1}, false}, {3, []int{0, 2}, false},
		{7, []int{1, 2, 3, 4, 5, 6}, true}, {7, []int{1, 2, 3, 4, 5, 7}, false}, {7, []int{0, 1, 2, 3, 4, 5}, false},
		{7, []int{1, 2, 3, 3, 5, 6}, false}, {7, []int{1, 2, 4, 3, 5, 6}, false}, {7, []int{6, 5, 4, 3, 2, 1}, false}, {7, []int{1, 2, 3, 4, 5, 5}, false},
		{9, []int{2, 3, 5, 8}, true}, {8, []int{2, 3, 5, 8}, false}, {9, []int{2, 5, 3, 8}, false},
		{100000, nil, true}, {100000, []int{99999}, true}, {100000, []int{100000}, false}, {100000, []int{1, 50000, 99998, 99999}, true},
		{99999, []int{99998}, true}, {99999, []int{99999}, false},
		{100001, nil, false}, {100001, []int{1}, false}, {100001, []int{100000}, false}, {200000, nil, false}, {math.MaxInt, nil, false},
		{math.MaxInt, []int{1}, false}, {5, []int{math.MinInt}, false}, {5, []int{math.MaxInt}, false}, {5, []int{math.MinInt, 1}, false},
	} {
		worldBut(t, fmt.Sprint("Ids ", c.ids, " and Next ", c.next), c.want, func(w *impl.World) {
			mac := w.Tasks[0].Mac
			w.Tasks, w.Next = nil, c.next
			for _, id := range c.ids {
				w.Tasks = append(w.Tasks, impl.Task{Id: id, Mac: deepMachine(mac)})
			}
		})
	}
}

// wrongMachines are none in the system of the world by hand.
func wrongMachines(t *testing.T) map[string]impl.Machine {
	wrong := map[string]impl.Machine{"nothing": {}}
	change := func(what string, f func(m *impl.Machine)) {
		m := deepMachine(byHand(t).Tasks[0].Mac)
		f(&m)
		wrong[what] = m
	}
	change("no Mode", func(m *impl.Machine) { m.Mode = 0 })
	change("Mode 4", func(m *impl.Machine) { m.Mode = 4 })
	change("a unit that is none", func(m *impl.Machine) { m.Unit = 4 })
	change("a unit below", func(m *impl.Machine) { m.Unit = -1 })
	change("a node that is none", func(m *impl.Machine) { m.Node = 1000 })
	change("End 8", func(m *impl.Machine) { m.End = 8 })
	change("End -1", func(m *impl.Machine) { m.End = -1 })
	change("a Val ahead of its time", func(m *impl.Machine) { m.Val = numVal(1) })
	change("no Val to hand back", func(m *impl.Machine) { m.Mode = impl.MoBack })
	change("a cell that is none", func(m *impl.Machine) { m.Mode, m.Val = impl.MoBack, pairVal(99) })
	change("a Bind without a name", func(m *impl.Machine) { m.Env[0].Name = "if" })
	change("a Bind without a value", func(m *impl.Machine) { m.Env[1].Val = impl.Value{} })
	change("a Frame of no unit", func(m *impl.Machine) { m.Stack[0].Unit = 9 })
	change("a Frame that waits for nothing", func(m *impl.Machine) { m.Stack[0].Vals = vals(numVal(1), numVal(2)) })
	change("a Frame with a Bind of no value", func(m *impl.Machine) { m.Stack[1].Env[0].Val = recVal(0) })
	change("too much that waits", func(m *impl.Machine) { m.Stack = slices.Repeat(m.Stack[:1], impl.MaxStack+1) })
	return wrong
}

func TestTasksWhoseMachinesAreNotRight(t *testing.T) {
	for what, m := range wrongMachines(t) {
		for at := range 4 {
			worldBut(t, fmt.Sprint(what, ", in task ", at), false, func(w *impl.World) { w.Tasks[at].Mac = m })
		}
	}
	for at := range 4 {
		worldBut(t, "as much as can wait", true, func(w *impl.World) {
			w.Tasks[at].Mac.Stack = slices.Repeat(w.Tasks[at].Mac.Stack[:1], impl.MaxStack)
		})
	}
	// what is right in one system need not be so in another
	w := fullWorld(t)
	w.Sys.Units = w.Sys.Units[:len(w.Sys.Units)-1]
	wantWorld(t, "without the unit of a task", w, false)
	w = fullWorld(t)
	w.Tasks = w.Tasks[:1]
	wantWorld(t, "one task of several", w, true)
	w.Sys = impl.NewSys()
	wantWorld(t, "in another system", w, false)
}

// wrongWorlds are not right.
func wrongWorlds(t *testing.T) []impl.World {
	t.Helper()
	wrong := []impl.World{{}, {Next: 1}, {Sys: impl.NewSys()}, manyLibs(t, impl.MaxLibs+1)}
	for _, spoil := range spoilers() {
		w := byHand(t)
		spoil(&w.Sys)
		wrong = append(wrong, w)
	}
	for _, m := range wrongMachines(t) {
		w := byHand(t)
		w.Tasks[2].Mac = m
		wrong = append(wrong, w)
	}
	r := rand.New(rand.NewSource(150))
	for range 300 {
		s, w := worldByChance(r)
		if s.spoilWorld(&w); !rightWorld(w) {
			wrong = append(wrong, w)
		}
	}
	for _, over := range []func(w *impl.World){
		func(w *impl.World) { w.Sys = filled(w.Sys, impl.MaxHeap+1) },
		func(w *impl.World) {
			w.Sys.Units = slices.Concat(w.Sys.Units, slices.Repeat(w.Sys.Units[:1], impl.MaxUnits+1-len(w.Sys.Units)))
		},
		func(w *impl.World) {
			w.Sys.Insts = slices.Concat(w.Sys.Insts, slices.Repeat(w.Sys.Insts[1:2], impl.MaxInsts+1-len(w.Sys.Insts)))
		},
		func(w *impl.World) {
			w.Next = 99
			for id := 12; len(w.Tasks) <= impl.MaxTasks; id++ {
				w.Tasks = append(w.Tasks, impl.Task{Id: id, Mac: w.Tasks[0].Mac})
			}
		},
	} {
		w := byHand(t)
		over(&w)
		wrong = append(wrong, w)
	}
	if len(wrong) < 100 {
		t.Error("hardly one is wrong", len(wrong))
	}
	return wrong
}

// rightWorld says it in the document's own words.
func rightWorld(w impl.World) bool {
	if !rightSys(w.Sys) || len(w.Libs) > 6 || len(w.Tasks) > 6 || w.Next < 1 || w.Next > 100000 {
		return false
	}
	var libs []string
	var sources []impl.Src
	for _, e := range w.Libs {
		libs, sources = append(libs, e.Src.Name), append(sources, e.Src)
		if !rightSrc(e.Src) || e.Ver < 1 || e.Ver > 1000 || e.Inst < 0 || e.Inst >= len(w.Sys.Insts) {
			return false
		}
		in := w.Sys.Insts[e.Inst]
		if in.Lib != e.Src.Name || in.Ver != e.Ver {
			return false
		}
		valued := map[string]bool{}
		for i, name := range in.Names {
			valued[name] = in.Vals[i] != impl.Value{}
		}
		for _, name := range e.Src.Exports {
			if !valued[name] {
				return false
			}
		}
	}
	ids := []int{0}
	for _, task := range w.Tasks {
		ids = append(ids, task.Id)
		if !rightMachine(w.Sys, task.Mac) {
			return false
		}
	}
	ids = append(ids, w.Next)
	for i := range ids[1:] {
		if ids[i] > ids[i+1] || ids[i] == ids[i+1] {
			return false
		}
	}
	_, ok := modelOrder(sources)
	return ok && slices.IsSorted(libs)
}

// worldByChance is a right one of a system by chance: some of its Insts are
// libraries as they are now.
func worldByChance(r *rand.Rand) (scene, impl.World) {
	s := sceneByChance(r)
	for i := range s.y.Insts[1:] {
		s.y.Insts[i+1].Lib = s.pick("aa", "bb", "a", "cc", "dd", "ee", "ff")
	}
	w := impl.World{Sys: s.y, Next: 1 + r.Intn(9)}
	insts := map[string]int{}
	for _, i := range r.Perm(len(s.y.Insts) - 1) {
		insts[s.y.Insts[i+1].Lib] = i + 1
	}
	among := []string{}
	for _, lib := range s.names(insts) {
		if len(w.Libs) == impl.MaxLibs || r.Intn(5) == 0 {
			continue
		}
		w.Libs = append(w.Libs, s.entOf(insts[lib], among))
		among = append(among, lib)
	}
	slices.SortFunc(w.Libs, func(a, b impl.Ent) int { return strings.Compare(a.Src.Name, b.Src.Name) })
	for range r.Intn(impl.MaxTasks + 1) {
		w.Tasks = append(w.Tasks, impl.Task{Id: w.Next, Mac: s.machine()})
		w.Next += 1 + r.Intn(3)
	}
	return s, w
}

// names tells them in any order.
func (s scene) names(all map[string]int) []string {
	var l []string
	for name := range all {
		l = append(l, name)
	}
	slices.Sort(l)
	s.r.Shuffle(len(l), func(i, k int) { l[i], l[k] = l[k], l[i] })
	return l
}

// entOf is a library of that Inst, which may import those.
func (s scene) entOf(at int, among []string) impl.Ent {
	in := s.y.Insts[at]
	e := impl.Ent{Src: impl.Src{Name: in.Lib}, Ver: in.Ver, Inst: at}
	for _, k := range s.r.Perm(len(in.Names)) {
		e.Src.Defs = append(e.Src.Defs, impl.Def{Name: in.Names[k], Prog: program(variable("x"))})
		if in.Vals[k].Kind != impl.VaNone && s.r.Intn(2) == 0 {
			e.Src.Exports = append(e.Src.Exports, in.Names[k])
		}
	}
	for _, name := range among {
		if s.r.Intn(3) == 0 {
			e.Src.Imports = append(e.Src.Imports, name)
		}
	}
	return e
}

// spoilWorld makes one thing of w another.
func (s scene) spoilWorld(w *impl.World) {
	n := []int{-1, 0, 1, 2, 3, 8, 12, 1000, 1001, 99999, 100000, 100001}[s.r.Intn(12)]
	what := s.r.Intn(15)
	if len(w.Libs) > 0 && what < 8 {
		at := s.r.Intn(len(w.Libs))
		e := &w.Libs[at]
		switch what {
		case 0:
			e.Ver = n
		case 1:
			e.Inst = s.r.Intn(len(w.Sys.Insts)+2) - 1
		case 2:
			s.spoilSrc(&e.Src)
		case 3:
			e.Src.Imports = append(e.Src.Imports, w.Libs[s.r.Intn(len(w.Libs))].Src.Name)
		case 4:
			e.Src.Exports = append(e.Src.Exports, s.pick(append(namesOfDefs(e.Src.Defs), "w")...))
		case 5:
			other := &w.Libs[s.r.Intn(len(w.Libs))]
			*e, *other = *other, *e
		case 6:
			w.Libs = slices.Delete(w.Libs, at, at+1)
		case 7:
			vals := w.Sys.Insts[e.Inst].Vals
			if len(vals) > 0 {
				vals[s.r.Intn(len(vals))] = impl.Value{}
			}
		}
		return
	}
	if len(w.Tasks) > 0 && what < 12 {
		at := s.r.Intn(len(w.Tasks))
		switch what {
		case 8:
			w.Tasks[at].Id += s.r.Intn(7) - 3
		case 9:
			w.Tasks[at].Id = n
		case 10:
			s.spoilMachine(&w.Tasks[at].Mac)
		default:
			w.Tasks = append(w.Tasks, w.Tasks[:at]...)
		}
		return
	}
	switch what {
	case 12:
		w.Next = n
	case 13:
		w.Next += s.r.Intn(5) - 2
	default:
		spoil(s.r, &w.Sys)
	}
}

func TestWorldsByChance(t *testing.T) {
	t.Parallel()
	r := rand.New(rand.NewSource(130))
	counts := map[bool]int{}
	libs := map[int]int{}
	tasks := map[int]int{}
	for range 1500 {
		s, w := worldByChance(r)
		if !rightWorld(w) {
			t.Fatal("a world by chance is not right", shown(w))
		}
		wantWorld(t, "by chance", w, true)
		libs[len(w.Libs)]++
		tasks[len(w.Tasks)]++
		s.spoilWorld(&w)
		want := rightWorld(w)
		wantWorld(t, "spoilt", w, want)
		counts[want]++
	}
	if counts[true] < 200 || counts[false] < 200 || len(libs) != impl.MaxLibs+1 || len(tasks) != impl.MaxTasks+1 {
		t.Error("one sort was hardly there", counts, libs, tasks)
	}
}

// done is w behind something that can be done to it, by chance.
func (m maker) done(t *testing.T, w impl.World, codes map[int]int) impl.World {
	t.Helper()
	libs := names("aa bb cc dd ee ff gg")
	switch what := m.r.Intn(12); {
	case what < 4:
		there := libsOf(w)
		if m.r.Intn(20) == 0 {
			there = libs
		}
		text := m.change(libs, there)
		if m.r.Intn(3) == 0 {
			text += " (convert pt " + m.converter(1+m.r.Intn(2)) + ")"
		}
		if m.r.Intn(20) == 0 {
			text = m.spoilt(text)
		}
		return changeAsModelled(t, w, text, codes)
	case what < 6 && len(w.Libs) > 0:
		z := linked(w, w.Libs[m.r.Intn(len(w.Libs))].Src.Name)
		if !impl.WorldOk(z) { // two Links of one Name
			return w
		}
		return z
	case what < 8 && len(w.Tasks) < impl.MaxTasks && len(w.Sys.Units) < impl.MaxUnits:
		return posted(t, w, m.pick("(f 1)", "(g 'a)", "(cons v w)", "(h (k 1))", "(print v)", "((lambda (x) (cons (f x) (g x))) 3)", "(error v)", "(begin (f 1) (g 2) (h 3))"), m.r.Intn(9))
	case what < 11 && len(w.Tasks) > 0:
		return sliced(w, m.r.Intn(len(w.Tasks)), m.r.Intn(20))
	case len(w.Tasks) > 0:
		w = deepWorld(w)
		at := m.r.Intn(len(w.Tasks))
		w.Tasks = slices.Delete(w.Tasks, at, at+1)
	}
	return w
}

// A world stays right by whatever is done to it.
func TestWorldsStayRight(t *testing.T) {
	t.Parallel()
	m := maker{rand.New(rand.NewSource(132))}
	codes := map[int]int{}
	ends := map[int]int{}
	versions := map[int]int{}
	for range 250 {
		w := impl.NewWorld()
		for range 30 {
			w = m.done(t, w, codes)
			if !impl.WorldOk(w) {
				t.Fatal("it is not right any more", shown(w))
			}
		}
		for _, task := range w.Tasks {
			ends[task.Mac.Mode]++
		}
		for _, e := range w.Libs {
			versions[e.Ver]++
			if at := impl.Current(w, e.Src.Name); at != e.Inst {
				t.Errorf("Current of %s is %d; want %d", e.Src.Name, at, e.Inst)
			}
		}
	}
	for _, code := range []int{impl.UpOk, impl.UpParse, impl.UpMissing, impl.UpCycle, impl.UpMake} {
		if codes[code] < 30 {
			t.Error("one sort of change was hardly there", codes)
		}
	}
	if len(ends) < 3 || versions[1] < 100 || versions[2] < 100 || versions[3] < 30 {
		t.Error("one sort of world was hardly there", ends, versions)
	}
}

// worldsOfAllSorts are right ones and wrong ones.
func worldsOfAllSorts(t *testing.T) []impl.World {
	t.Helper()
	r := rand.New(rand.NewSource(131))
	all := []impl.World{{}, impl.NewWorld(), fullWorld(t), byHand(t), manyLibs(t, impl.MaxLibs), manyLibs(t, impl.MaxLibs+1)}
	for range 60 {
		s, w := worldByChance(r)
		all = append(all, deepWorld(w))
		s.spoilWorld(&w)
		all = append(all, w)
	}
	return all
}

func TestWorldsAreLeftAsTheyAre(t *testing.T) {
	for _, w := range worldsOfAllSorts(t) {
		roomy := roomyOf(w)
		before := wholeOf(roomy)
		// what stands in the spare room is not looked at
		wantWorld(t, "with room behind", roomy, rightWorld(w))
		for _, text := range []string{aBase, aMiddle, "(library zz) (define z (nobody))", "(library dd) (import aa)", ")"} {
			impl.Upgrade(roomy, text)
		}
		if !alike(wholeOf(roomy), before) {
			t.Errorf("what is handed in is changed: %s", shown(w))
		}
	}
}

func TestWorldsAreNewMemory(t *testing.T) {
	one, other := impl.NewWorld(), impl.NewWorld()
	if !shareNone([]any{one}, []any{other}) || !shareNone(nil, []any{one, other}) {
		t.Error("two new worlds share memory")
	}
	seen := map[int]int{}
	for _, w := range worldsOfAllSorts(t) {
		for _, text := range []string{aBase, aMiddle, "(library zz) (export z) (define z 'zz)", "(library dd) (import aa)", "(library dd) (define d (cons nobody d))", "(library", "(library gg) (import hh)"} {
			text = strings.Clone(text)
			z, report := impl.Upgrade(w, text)
			if !shareNone([]any{w, text}, []any{z, report}) {
				t.Errorf("Upgrade(%s, %q) shares memory", shown(w), text)
			}
			seen[report.Code]++
		}
	}
	for _, code := range []int{impl.UpOk, impl.UpParse, impl.UpMissing, impl.UpMake, impl.UpFull} {
		if seen[code] < 3 {
			t.Error("one sort was hardly there", seen)
		}
	}
}

// Nothing is kept: one world changes nothing of what is told of another.
func TestWorldsKeepNothing(t *testing.T) {
	wantAgain(t, worldsOfAllSorts(t), func(w impl.World) string {
		z, report := impl.Upgrade(w, aBase)
		return fmt.Sprint(impl.WorldOk(w), impl.Current(w, "aa"), impl.Current(w, "dd"), impl.NewWorld(), z, report)
	})
}
