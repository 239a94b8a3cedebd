package tests

import (
	"fmt"
	"math/rand"
	"slices"
	"strings"
	"testing"

	"loop.example/g00765/impl"
)

// numbersOf are those of what is live, in order: which number is left in which place.
func numbersOf(flags []bool) []int {
	var all []int
	for i, live := range flags {
		if live {
			all = append(all, i)
		}
	}
	return all
}

// backer writes into a swept world the numbers that its things had ahead of the sweep.
type backer struct {
	t                   *testing.T
	cells, insts, units []int
}

func (b backer) back(had []int, n *int) {
	b.t.Helper()
	if *n < 0 || *n >= len(had) {
		b.t.Fatalf("there is no number %d among %v", *n, had)
	}
	*n = had[*n]
}

func (b backer) values(all []impl.Value) {
	for i := range all {
		if all[i].Kind >= impl.VaPair {
			b.back(b.cells, &all[i].N)
		}
	}
}

func (b backer) binds(env []impl.Bind) {
	for i := range env {
		one := vals(env[i].Val)
		b.values(one)
		env[i].Val = one[0]
	}
}

func (b backer) machine(m *impl.Machine) {
	b.back(b.units, &m.Unit)
	one := vals(m.Val)
	b.values(one)
	m.Val = one[0]
	b.binds(m.Env)
	for i := range m.Stack {
		b.back(b.units, &m.Stack[i].Unit)
		b.values(m.Stack[i].Vals)
		b.binds(m.Stack[i].Env)
	}
}

func (b backer) world(w *impl.World) {
	for i := range w.Sys.Heap {
		b.values(w.Sys.Heap[i].Vals)
		if w.Sys.Heap[i].Kind == impl.CeFn {
			b.back(b.units, &w.Sys.Heap[i].A)
		}
	}
	for i := range w.Sys.Insts {
		b.values(w.Sys.Insts[i].Vals)
		for k := range w.Sys.Insts[i].Links {
			b.back(b.insts, &w.Sys.Insts[i].Links[k].Inst)
		}
	}
	for i := range w.Sys.Units {
		b.back(b.insts, &w.Sys.Units[i].Home)
	}
	for i := range w.Libs {
		b.back(b.insts, &w.Libs[i].Inst)
	}
	for i := range w.Tasks {
		b.machine(&w.Tasks[i].Mac)
	}
}

// among tells those of a row that have these numbers.
func among[T any](row []T, at []int) []T {
	var all []T
	for _, i := range at {
		all = append(all, row[i])
	}
	return all
}

// wantSwept asks of a right world that just what is not live goes: what is left stands in its order, and each number in
// it leads to what it led to. It tells the world behind the sweep.
func wantSwept(t *testing.T, what string, w impl.World) impl.World {
	t.Helper()
	live := modelReach(w)
	b := backer{t, numbersOf(live.Cells), numbersOf(live.Insts), numbersOf(live.Units)}
	want := deepWorld(w)
	want.Sys.Heap, want.Sys.Insts, want.Sys.Units = among(want.Sys.Heap, b.cells), among(want.Sys.Insts, b.insts), among(want.Sys.Units, b.units)
	z := impl.Sweep(w)
	back := deepWorld(z)
	b.world(&back)
	if !alike(back, want) {
		t.Fatalf("%s: Sweep(%s) = %s, with the numbers as they were %s; want %s", what, shown(w), shown(z), shown(back), shown(want))
	}
	dead := len(live.Cells) + len(live.Insts) + len(live.Units) - len(b.cells) - len(b.insts) - len(b.units)
	if n := impl.Waste(w); n != dead {
		t.Fatalf("%s: Waste(%s) = %d; want %d", what, shown(w), n, dead)
	}
	wantNotSeen(t, what, w, z)
	return z
}

// wantNotSeen asks of z, which is w swept, what P16 and P17 promise.
func wantNotSeen(t *testing.T, what string, w, z impl.World) {
	t.Helper()
	if !impl.WorldOk(z) || impl.Size(z.Sys) != impl.Size(w.Sys)-impl.Waste(w) {
		t.Fatalf("%s: Sweep(%s) = %s", what, shown(w), shown(z))
	}
	if n := impl.Waste(z); n != 0 || !alike(impl.Sweep(z), z) {
		t.Fatalf("%s: behind a sweep %d are not live, and it is not the same swept again: %s", what, n, shown(z))
	}
	if seen, was := impl.Portrait(z), impl.Portrait(w); seen != was {
		t.Fatalf("%s: Portrait is %q; %q ahead of the sweep of %s", what, seen, was, shown(w))
	}
	for _, flags := range [][]bool{impl.Reach(z).Cells, impl.Reach(z).Insts, impl.Reach(z).Units} {
		if slices.Contains(flags, false) {
			t.Fatalf("%s: not all is live in %s", what, shown(z))
		}
	}
	for _, in := range w.Sys.Insts {
		var left []int
		for _, other := range z.Sys.Insts {
			if other.Lib == in.Lib {
				left = append(left, other.Ver)
			}
		}
		slices.Sort(left)
		if alive := impl.Alive(w, in.Lib); !slices.Equal(alive, slices.Compact(left)) || !slices.Equal(alive, impl.Alive(z, in.Lib)) {
			t.Fatalf("%s: of %q versions %v are alive, and %v are left", what, in.Lib, alive, left)
		}
	}
}

// wantAsItIs asks of a world of which all is live that nothing goes.
func wantAsItIs(t *testing.T, what string, w impl.World) {
	t.Helper()
	if z := wantSwept(t, what, w); !alike(z, w) || impl.Waste(w) != 0 {
		t.Errorf("%s: Sweep(%s) = %s, Waste %d", what, shown(w), shown(z), impl.Waste(w))
	}
}

// wantLeft asks how many cells, Insts and units are left, and how many went.
func wantLeft(t *testing.T, what string, w impl.World, cells, insts, units, waste int) impl.World {
	t.Helper()
	z := wantSwept(t, what, w)
	if y := z.Sys; len(y.Heap) != cells || len(y.Insts) != insts || len(y.Units) != units || impl.Waste(w) != waste {
		t.Errorf("%s: %d cells, %d Insts and %d units are left of %s, and the waste was %d", what, len(y.Heap), len(y.Insts), len(y.Units), shown(w), impl.Waste(w))
	}
	return z
}

func TestSweepOfNothing(t *testing.T) {
	wantAsItIs(t, "new", impl.NewWorld())
	w := impl.NewWorld()
	w.Next = 100000
	w.Sys.Out = []string{"a", "", "\n\xff"}
	wantAsItIs(t, "with what was printed", w)
	w = saidAfter(t, w, "(define (f) 1) (define (g) 2)")
	wantAsItIs(t, "functions", w)
	w = saidAfter(t, worldOf(t, "(library aa) (export f) (define (f) 1)", "(library bb) (import aa) (define (g) f)"), "(import aa)")
	wantAsItIs(t, "libraries", w)
	wantAsItIs(t, "with a task", posted(t, w, "(cons (f) (f))", 9))
	wantAsItIs(t, "six", manyLibs(t, impl.MaxLibs))
}

// What is said and not kept goes, and nothing else.
func TestSweepOfWhatWasSaid(t *testing.T) {
	w := saidAfter(t, impl.NewWorld(), "'(1 2 3) (define l '(a (b) c)) (lambda () 1) (define f (lambda (x) (lambda (y) (cons x (cons y l))))) (define g (f 'first)) 7")
	z := wantLeft(t, "said", w, 6, 1, 1, 4+5)
	want := []impl.Cell{
		pairCell(symVal("b"), nilVal()), pairCell(symVal("c"), nilVal()), pairCell(pairVal(0), pairVal(1)), pairCell(symVal("a"), pairVal(2)),
		{Kind: impl.CeFn, A: 0, B: z.Sys.Heap[4].B}, {Kind: impl.CeFn, A: 0, B: z.Sys.Heap[5].B, Names: names("x"), Vals: vals(symVal("first"))},
	}
	if !alike(z.Sys.Heap, want) || !alike(z.Sys.Insts[0].Vals, vals(pairVal(3), fnVal(4), fnVal(5))) || !alike(z.Sys.Units, w.Sys.Units[3:4]) {
		t.Errorf("it is left %s; want the cells %s", shown(z), shown(want))
	}
	z = wantSaid(t, z, "l (g 'second) ((f l) g)", "(a (b) c)|(first second a (b) c)|((a (b) c) fn a (b) c)")
	z = saidAfter(t, z, "(define l 0) (define f 0)")
	z = wantLeft(t, "less is kept", z, 1, 1, 1, 10+5) // f, the list, what was told; and the units
	wantSaid(t, z, "(g 1)", "(first 1 . 0)")
	z = wantLeft(t, "nothing is kept", saidAfter(t, z, "(define g 0)"), 0, 1, 0, 1+2)
	wantPortrait(t, "nothing is kept", z, "l 0|f 0|g 0")
}

// One behind the other goes, until just the last one and what is held is there.
func TestSweepOfOldVersions(t *testing.T) {
	lib := func(ver string) string {
		return "(library aa) (export f v) (define v '" + ver + ") (define (f) v)"
	}
	w := saidAfter(t, worldOf(t, lib("one")), "(import aa) (define first f)")
	w = upgraded(t, w, lib("two"))
	z := wantLeft(t, "changed once", w, 2, 3, 2, 3)
	w = upgraded(t, upgraded(t, w, lib("three")), lib("four"))
	z = wantLeft(t, "changed thrice", w, 2, 3, 2, 2+2+7)
	if z.Libs[0].Inst != 2 || z.Libs[0].Ver != 4 || z.Sys.Insts[1].Ver != 1 || impl.Current(z, "aa") != 2 || !alike(z.Sys.Insts[0].Links, []impl.Link{link("f", 2, "f"), link("v", 2, "v")}) {
		t.Error("numbers of Insts", shown(z))
	}
	if !alike(z.Sys.Heap[0].A, 0) || z.Sys.Heap[1].A != 1 || z.Sys.Units[0].Home != 1 || z.Sys.Units[1].Home != 2 {
		t.Error("numbers of units", shown(z.Sys))
	}
	z = wantSaid(t, z, "(f) (first) v (eq? f first)", "four|one|four|#f")
	z = upgraded(t, z, lib("five"))
	z = wantSaid(t, z, "(f) (first) v (define first 1)", "five|one|five|ok")
	z = wantSwept(t, "nothing is held", z)
	if len(z.Sys.Insts) != 2 || z.Sys.Insts[1].Ver != 5 || z.Libs[0].Inst != 1 {
		t.Error("Insts", shown(z.Sys.Insts))
	}
	wantSaid(t, z, "(f) v", "five|five")
}

// A record, or a pair, of an old version is kept without it.
func TestSweepOfRecordsOfOldVersions(t *testing.T) {
	w := worldOf(t, "(library aa) (export mk x) (record pt 1) (define (mk x) (make pt x)) (define (x p) (field pt 0 p))")
	w = saidAfter(t, w, "(import aa) (define a (mk '(1))) (mk 2) (define b (mk a)) (define c (mk 4)) (define c 0)")
	w = upgraded(t, w, "(library aa) (export mk x) (record pt 2) (define (mk x y) (make pt x y)) (define (x p) (field pt 0 p))")
	wantAlive(t, "records", w, "aa", "2")
	z := wantLeft(t, "records", w, 3+2, 2, 2, 4+1+7)
	z = wantSaid(t, z, "a (x a) (x (x b)) (x (mk 5 6)) c", "#aa:pt|(1)|(1)|5|0")
	// it is still one of version 1, and is carried over as such
	if z.Sys.Heap[1].A != 1 || z.Sys.Heap[2].A != 1 {
		t.Error("versions of records", shown(z.Sys.Heap))
	}
	third := "(library aa) (export mk x) (record pt 1) (define (mk x) (make pt x)) (define (x p) (field pt 0 p)) (convert pt (lambda (r) (cons (cons 'was (field pt 0 r)) '())))"
	z = wantSaid(t, upgraded(t, z, third), "(x a) (x b)", "(was 1)|(was . #aa:pt)")
	z = wantSwept(t, "carried over", z)
	wantSaid(t, z, "(x a) (x b) (x (cdr (x b))) (x (mk 5))", "(was 1)|(was . #aa:pt)|(was 1)|5")
	// what nobody comes to is handed to a converter, too, as long as it is there
	once := saidAfter(t, worldOf(t, "(library aa) (export mk) (record pt 1) (define (mk x) (make pt x))"), "(import aa) (define p (mk 1)) (mk 'nobodys)")
	second := "(library aa) (record pt 1) (convert pt (lambda (r) (cons (+ 1 (field pt 0 r)) '())))"
	wantRefusal(t, once, second, impl.UpConv, 0)
	wantSaid(t, upgraded(t, wantSwept(t, "ahead of a converter", once), second), "p", "#aa:pt")
}

// What runs in an old version goes on there, behind the sweep, too.
func TestSweepWhileTasksRun(t *testing.T) {
	t.Parallel()
	lib := "(library aa) (export f) (define v '(1)) (define (f) (cons v (begin 1 (cons 2 v))))"
	start := saidAfter(t, worldOf(t, lib), "(import aa) '(some pairs) (define k '(and 1))")
	for _, text := range []string{"(cons (f) k)", "(cons k (f))", "(f)", "(begin (f) (car 5))", "((lambda (g) (cons (begin 1 2) (g))) f)", "(begin (print (f)) (set! k (f)) (error k))"} {
		for steps := range 40 {
			w := posted(t, start, text, steps)
			z := wantSwept(t, text, w)
			w = upgraded(t, w, strings.ReplaceAll(lib, "1", "8"))
			y := wantSwept(t, text, w)
			if again := upgraded(t, z, strings.ReplaceAll(lib, "1", "8")); !alike(impl.Sweep(again), y) {
				t.Errorf("%s behind %d steps: swept ahead of the change and behind it, it is another one", text, steps)
			}
			for left := range 40 {
				if left%7 == 3 {
					y = wantSwept(t, text, y)
				}
				var one, other string
				w, one = impl.Slice(w, 1, 1)
				if y, other = impl.Slice(y, 1, 1); one != other {
					t.Fatalf("%s behind %d steps and %d more tells %q; %q when it is swept", text, steps, left, one, other)
				}
			}
			wantNotSeen(t, text, y, impl.Sweep(y))
			if seen, want := impl.Portrait(y), impl.Portrait(w); seen != want || strings.Contains(seen, "running") {
				t.Errorf("%s behind %d steps: at its end the portrait is %q; want %q", text, steps, seen, want)
			}
		}
	}
}

// holding is ofTasks with a session that holds nothing, some cells ahead of all others, and so with other numbers.
func holding(t *testing.T) impl.World {
	w := ofTasks()
	b := backer{t: t, cells: make([]int, len(w.Sys.Heap)), insts: make([]int, len(w.Sys.Insts)), units: make([]int, len(w.Sys.Units))}
	for i := range b.cells {
		b.cells[i] = i + 3
	}
	for i := range b.insts {
		b.insts[i] = i + min(i, 1)
	}
	for i := range b.units {
		b.units[i] = i + 1
	}
	b.world(&w)
	w.Sys.Heap = slices.Insert(w.Sys.Heap, 0, slices.Repeat([]impl.Cell{pairCell(numVal(0), nilVal())}, 3)...)
	w.Sys.Insts = slices.Insert(w.Sys.Insts, 1, impl.Inst{Lib: "dead", Ver: 1})
	w.Sys.Units = slices.Insert(w.Sys.Units, 0, impl.Unit{Home: 1, Prog: program(variable("dead"))})
	return w
}

// Each place in a machine has its number changed.
func TestSweepOfEachPlaceOfTasks(t *testing.T) {
	for _, mode := range []int{impl.MoEval, impl.MoBack, impl.MoEnd} {
		for i := 1; i < 6; i++ {
			m := impl.Machine{Mode: mode, Unit: i + 1, Node: 4, Env: binds("a", fnVal(i+3), "b", numVal(i), "c", pairVal(14+i)), Stack: []impl.Frame{
				{Unit: 2, Node: 4}, {Unit: i + 1, Node: 4, Vals: vals(pairVal(8+i), fnVal(4)), Env: binds("x", fnVal(i+3), "x", fnVal(5))}, {Unit: 4, Node: 4, Vals: vals(nilVal())},
			}}
			if mode != impl.MoEval {
				m.Val = pairVal(14 + i)
			}
			w := holding(t)
			w.Tasks, w.Next = []impl.Task{{Id: 2, Mac: m}, {Id: 5, Mac: deepMachine(m)}}, 8
			wantSwept(t, fmt.Sprint("mode ", mode, " and function ", i), w)
			// memory that two places share is changed once
			w.Tasks[1].Mac = m
			w.Tasks[0].Mac.Stack = slices.Repeat(m.Stack[1:2], 4)
			z := wantSwept(t, fmt.Sprint("mode ", mode, ", shared"), w)
			if n := z.Tasks[0].Mac.Stack[3].Vals[0].N; n >= len(z.Sys.Heap) || z.Sys.Heap[n].Vals[0] != w.Sys.Heap[8+i].Vals[0] {
				t.Error("a frame has another value", shown(z.Tasks[0]))
			}
		}
	}
	w := holding(t)
	w.Tasks, w.Next = []impl.Task{{Id: 1, Mac: impl.Machine{Mode: impl.MoEval, Unit: 4}}}, 2
	z := wantLeft(t, "by its unit alone", w, 1, 2, 1, 18+3-1+7-2+7-1)
	if z.Tasks[0].Mac.Unit != 0 || z.Sys.Units[0].Home != 1 || z.Sys.Insts[1].Ver != 3 || z.Sys.Insts[1].Vals[0].N != 0 {
		t.Error("numbers", shown(z))
	}
	wantLeft(t, "without it", holding(t), 0, 1, 0, 21+6+7)
}

// Links lead to the Insts to which they led, in whatever order they stand.
func TestSweepOfLinks(t *testing.T) {
	y := impl.NewSys()
	for i := range impl.MaxInsts - 1 {
		y.Insts = append(y.Insts, impl.Inst{Lib: "aa", Ver: i + 1})
	}
	y.Insts[0].Links = []impl.Link{link("x", 9, "x"), link("y", 4, "y"), link("z", 9, "z"), link("a", 0, "y")}
	y.Insts[4].Links = []impl.Link{link("x", 7, "x"), link("y", 4, "x")}
	y.Insts[5].Links = []impl.Link{link("x", 1, "x"), link("y", 9, "x")}
	y.Insts[7].Links = []impl.Link{link("x", 0, "x"), link("y", 4, "y")}
	z := wantLeft(t, "Links", talking(y), 0, 4, 0, 8)
	for i, want := range []string{
		"[{Name:x Inst:3 At:x} {Name:y Inst:1 At:y} {Name:z Inst:3 At:z} {Name:a Inst:0 At:y}]", "[{Name:x Inst:2 At:x} {Name:y Inst:1 At:x}]", "[{Name:x Inst:0 At:x} {Name:y Inst:1 At:y}]", "[]",
	} {
		if got := shown(z.Sys.Insts[i].Links); got != want || z.Sys.Insts[i].Ver != []int{0, 4, 7, 9}[i] {
			t.Errorf("Inst %d of version %d has %s; want %s", i, z.Sys.Insts[i].Ver, got, want)
		}
	}
	w := talking(y)
	w.Libs = []impl.Ent{{Src: impl.Src{Name: "aa"}, Ver: 5, Inst: 5}}
	z = wantLeft(t, "a library, too", w, 0, 6, 0, 6)
	if z.Libs[0].Inst != 3 {
		t.Error("its Inst is", z.Libs[0].Inst)
	}
}

// A version, a number and what stands in a program are no numbers of anything.
func TestSweepLeavesWhatIsNoNumber(t *testing.T) {
	y := filled(impl.NewSys(), 9)
	y.Units = slices.Repeat([]impl.Unit{{Home: 0, Prog: program(impl.Node{Kind: impl.NdNum, N: 8}, binding(0, "x"))}}, 4)
	y.Heap[8] = recCell("aa:pt", 7, numVal(7), boolVal(1), nilVal(), symVal("s"), pairVal(6), fnVal(7))
	y.Heap[7] = fnCell(names("x y"), numVal(3), pairVal(4))
	y.Heap[7].A, y.Heap[7].B = 3, 1
	y.Insts[0].Names, y.Insts[0].Vals = names("a b c d e f"), vals(numVal(8), boolVal(1), nilVal(), symVal("a"), impl.Value{}, recVal(8))
	y.Insts[0].Types = []impl.Type{{Name: "pt", Size: 8}}
	y.Out = names("8 7")
	z := wantLeft(t, "by hand", talking(y), 4, 1, 1, 5+3)
	fn := fnCell(names("x y"), numVal(3), pairVal(0))
	fn.B = 1
	want := deepSys(y)
	want.Heap = []impl.Cell{y.Heap[4], y.Heap[6], fn, recCell("aa:pt", 7, numVal(7), boolVal(1), nilVal(), symVal("s"), pairVal(1), fnVal(2))}
	want.Insts[0].Vals[5] = recVal(3)
	if want.Units = want.Units[:1]; !alike(z, talking(want)) {
		t.Errorf("it is left %s; want %s", shown(z), shown(talking(want)))
	}
}

// Full worlds, of which all is live, nothing, or each other thing.
func TestSweepOfAFullHeap(t *testing.T) {
	for _, n := range []int{1, 2, 127, 128, 129, 255, 256, 257, impl.MaxHeap - 1, impl.MaxHeap} {
		y := impl.NewSys()
		for i := range n {
			rest := nilVal()
			if i > 1 {
				rest = pairVal(i - 2)
			}
			y.Heap = append(y.Heap, pairCell(numVal(i), rest))
		}
		wantLeft(t, "nothing is live", talking(y), 0, 1, 0, n)
		y.Insts[0].Names, y.Insts[0].Vals = names("x"), vals(pairVal(n-1))
		z := wantLeft(t, "each other one", talking(y), (n+1)/2, 1, 0, n/2)
		for i, c := range z.Sys.Heap {
			if k := c.Vals[0].N; k != 2*i+(n+1)%2 || i > 0 && c.Vals[1] != pairVal(i-1) {
				t.Fatalf("of %d cells number %d is left as %s", n, i, shown(c))
			}
		}
		if n > 1 {
			y.Insts[0].Names, y.Insts[0].Vals = names("x y"), vals(pairVal(n-2), pairVal(n-1))
			wantAsItIs(t, "all of them", talking(y))
		}
		// the first ones go, and all numbers are less
		y.Insts[0].Names, y.Insts[0].Vals = names("x"), vals(recVal(n-1))
		for i := range y.Heap {
			y.Heap[i] = recCell("q", 3, numVal(i), recVal(n-1), recVal(max(i, n/2)))
		}
		z = wantLeft(t, "the last one", talking(y), 1, 1, 0, n-1)
		if !alike(z.Sys.Heap, []impl.Cell{recCell("q", 3, numVal(n-1), recVal(0), recVal(0))}) {
			t.Error("it is left", shown(z.Sys.Heap))
		}
		y.Heap[n-1].Vals[1] = recVal(0)
		y.Heap[0].Vals[2] = recVal(n / 2)
		wantSwept(t, "three of them", talking(y))
	}
}

// There is room again.
func TestRoomBehindASweep(t *testing.T) {
	full := func(w impl.World, text, want string) impl.World {
		t.Helper()
		w = wantSaid(t, w, text, "full")
		wantNotSeen(t, text, w, impl.Sweep(w))
		return impl.Sweep(w)
	}
	w := saidAfter(t, impl.NewWorld(), "(define l '(1 2))")
	w.Sys = filled(w.Sys, impl.MaxHeap)
	w = full(w, "(define l (cons 0 l))", "full")
	w = wantSaid(t, w, "(define l (cons 0 l)) l", "ok|(0 1 2)")
	w = withUnits(t, w, impl.MaxUnits)
	wantNotPosted(t, "all units", w, "1")
	w = full(w, "(car l)", "full")
	w = wantSaid(t, wantPosted(t, w, "(cdr l)", 1), "(car l)", "0")
	for len(w.Sys.Insts) < impl.MaxInsts {
		w.Sys.Insts = append(w.Sys.Insts, impl.Inst{Lib: "aa", Ver: 1})
	}
	wantRefusal(t, w, "(library bb)", impl.UpMake, impl.EnFull)
	w = upgraded(t, wantSwept(t, "all Insts", w), "(library bb)")
	w = wantSliced(t, w, 1, 9, "(1 2)")
	// what was printed is seen, and no sweep takes it
	w.Sys.Out = slices.Repeat([]string{"x"}, impl.MaxOut)
	w = full(w, "(print 1)", "full")
	wantSaid(t, w, "(print 1)", "full")
	// a library is changed as often as there are versions
	w = saidAfter(t, worldOf(t, "(library aa) (export f) (define (f) '(1))"), "(import aa) (define first f)")
	for ver := 2; ver <= 1000; ver++ {
		z, report := impl.Upgrade(w, "(library aa) (export f) (define v '("+impl.Dec(ver)+" x)) (define (f) (car v))")
		if report.Code != impl.UpOk {
			t.Fatal("version", ver, report)
		}
		if w = impl.Sweep(z); len(w.Sys.Insts) != 3 || len(w.Sys.Heap) != 4 || len(w.Sys.Units) != 2 || w.Libs[0].Ver != ver {
			t.Fatal("version", ver, shown(w))
		}
	}
	wantSaid(t, w, "(f) (first)", "1000|(1)")
	wantRefusal(t, w, "(library aa)", impl.UpFull, 0)
}

func TestSweepOfAsManyAsThereMayBe(t *testing.T) {
	y := impl.NewSys()
	for i := range impl.MaxInsts - 1 {
		y.Insts = append(y.Insts, impl.Inst{Lib: "aa", Ver: 1000 - i, Names: names("p"), Vals: vals(numVal(i))})
	}
	wantLeft(t, "no Inst but the session", talking(y), 0, 1, 0, impl.MaxInsts-1)
	for i := range impl.MaxInsts - 1 {
		y.Insts[i].Links = []impl.Link{link("x", i+1, "x")}
	}
	wantAsItIs(t, "all Insts", talking(y))
	y.Insts[0].Links[0].Inst = impl.MaxInsts - 1
	wantLeft(t, "the last Inst", talking(y), 0, 2, 0, impl.MaxInsts-2)
	// units
	y = impl.NewSys()
	for i := range impl.MaxUnits {
		y.Units = append(y.Units, impl.Unit{Home: 0, Prog: program(variable("x"+impl.Dec(i)), binding(0), impl.Node{Kind: impl.NdCall, Args: []int{1}})})
		f := fnCell(nil)
		f.A, f.B = impl.MaxUnits-1-i, 1
		y.Heap = append(y.Heap, f)
	}
	wantLeft(t, "no unit", talking(y), 0, 1, 0, 2*impl.MaxUnits)
	for i := range 30 {
		y.Insts[0].Names, y.Insts[0].Vals = append(y.Insts[0].Names, "x"+impl.Dec(i)), append(y.Insts[0].Vals, fnVal(2*i))
	}
	z := wantLeft(t, "each other unit", talking(y), 30, 1, 30, impl.MaxUnits)
	for i, c := range z.Sys.Heap {
		if c.A != 29-i || z.Sys.Units[c.A].Prog.Nodes[0].S != "x"+impl.Dec(59-2*i) {
			t.Errorf("function %d is %s", i, shown(c))
		}
	}
	// tasks, with as much as can wait
	w := talking(y)
	w.Next = 100000
	for i := range impl.MaxTasks {
		m := impl.Machine{Mode: impl.MoEval, Unit: 10 * i}
		for k := range impl.MaxStack {
			m.Stack = append(m.Stack, impl.Frame{Unit: (i + 3*k) % impl.MaxUnits, Node: 2, Env: binds("x", fnVal((i*k)%impl.MaxUnits))})
		}
		w.Tasks = append(w.Tasks, impl.Task{Id: 99999 - impl.MaxTasks + i + 1, Mac: m})
	}
	wantAsItIs(t, "all units", w)
	w.Tasks = append(w.Tasks[:1], w.Tasks[3])
	w.Sys.Insts[0].Names, w.Sys.Insts[0].Vals = nil, nil
	z = wantSwept(t, "each third unit", w)
	if len(z.Sys.Units) >= impl.MaxUnits || len(z.Tasks[1].Mac.Stack) != impl.MaxStack {
		t.Error("units and frames", len(z.Sys.Units), len(z.Tasks[1].Mac.Stack))
	}
}

func TestSweepOfWorldsThatAreNotRight(t *testing.T) {
	for _, w := range wrongWorlds(t) {
		if z, n := impl.Sweep(w), impl.Waste(w); n != 0 || !alike(z, impl.World{}) {
			t.Fatalf("Sweep(%s) = %s, Waste %d", shown(w), shown(z), n)
		}
	}
}

func TestSweepByChance(t *testing.T) {
	t.Parallel()
	r := rand.New(rand.NewSource(171))
	counts := map[string]int{}
	for range 200 {
		s, w := worldByChance(r)
		for _, z := range []impl.World{w, s.sparse(w)} {
			wantSwept(t, "by chance", z)
			wantHanging(t, z, impl.Reach(z), counts)
		}
		s.spoilWorld(&w)
		if rightWorld(w) {
			wantSwept(t, "spoilt", w)
		} else if z := impl.Sweep(w); impl.Waste(w) != 0 || !alike(z, impl.World{}) {
			t.Fatalf("Sweep(%s) = %s, Waste %d", shown(w), shown(z), impl.Waste(w))
		}
	}
	wantOften(t, counts, 200)
}

// answered is what was answered, and whether something was full.
type answered struct {
	text string
	full bool
}

// deed is something that can be done to a world of the libraries that w has, by chance. No converter is in it: that is
// handed what is not live, too.
func (m maker) deed(w impl.World) func(w impl.World) (impl.World, answered) {
	switch what := m.r.Intn(12); {
	case what < 3:
		text := m.edition()
		if what == 0 {
			text = m.change(names("aa bb cc dd"), libsOf(w))
		}
		return func(w impl.World) (impl.World, answered) {
			z, report := impl.Upgrade(w, text)
			return z, answered{fmt.Sprint(report), report.Code == impl.UpFull || report.Code == impl.UpMake && report.Detail == impl.EnFull}
		}
	case what < 5:
		text := m.pick("(f 1)", "(g 'a)", "(cons v w)", "(h (k 1))", "((lambda (x) (cons (f x) (g x))) 3)", "(cons f (g 1))", "(begin (f 1) (g 2) (print x))", "(if)")
		return func(w impl.World) (impl.World, answered) {
			z, id := impl.Post(w, text)
			return z, answered{impl.Dec(id), len(w.Sys.Units) == impl.MaxUnits}
		}
	case what < 8 && len(w.Tasks) > 0:
		id, fuel := w.Tasks[m.r.Intn(len(w.Tasks))].Id, m.r.Intn(15)
		return func(w impl.World) (impl.World, answered) {
			z, answer := impl.Slice(w, id, fuel)
			return z, answered{answer, answer == "full"}
		}
	case what == 8 && len(w.Tasks) > 0:
		at := m.r.Intn(len(w.Tasks))
		return func(w impl.World) (impl.World, answered) {
			z := deepWorld(w)
			z.Tasks = slices.Delete(z.Tasks, at, at+1)
			return z, answered{}
		}
	}
	text := m.taken(w) + m.sayings(w, 3)
	return func(w impl.World) (impl.World, answered) {
		z, answers := impl.Say(w, text)
		return z, answered{strings.Join(answers, "|"), slices.Contains(answers, "full")}
	}
}

// A sweep is not seen: one world that is swept now and then, and one that never is, are answered alike.
func TestASweepIsNotSeen(t *testing.T) {
	t.Parallel()
	m := maker{rand.New(rand.NewSource(172))}
	seen, went, full, versions := map[string]int{}, 0, 0, map[int]int{}
	for range 50 {
		w := impl.NewWorld()
		z := w
		for range 40 {
			if m.r.Intn(3) == 0 {
				went += impl.Waste(z)
				z = wantSwept(t, "now and then", z)
			}
			do := m.deed(w)
			var one, other answered
			w, one = do(w)
			z, other = do(z)
			if one.full || other.full {
				full++
				w = z
				continue
			}
			if one != other {
				t.Fatalf("%q is answered; %q when it was swept: %s", one.text, other.text, shown(z))
			}
			if seen, want := impl.Portrait(z), impl.Portrait(w); seen != want {
				t.Fatalf("the portrait is %q; %q without a sweep", seen, want)
			}
			if !alike(impl.Sweep(z), impl.Sweep(w)) {
				t.Fatalf("a sweep more and one less make another world: %s", shown(w))
			}
			for _, e := range w.Libs {
				versions[len(impl.Alive(z, e.Src.Name))]++
			}
			countAnswers(seen, strings.Split(one.text, "|"))
		}
	}
	if went < 2000 || full > 300 || versions[2] < 50 || versions[3] < 5 {
		t.Error("hardly anything went", went, full, versions)
	}
	for _, sort := range names("ok form running unbound type told") {
		if seen[sort] < 20 {
			t.Error("one sort was hardly there", seen)
		}
	}
}

func TestSweepLeavesWhatIsHandedIn(t *testing.T) {
	for _, w := range worldsOfAllSorts(t) {
		given := roomyOf(w)
		before := wholeOf(given)
		z, n := impl.Sweep(given), impl.Waste(given)
		if !alike(wholeOf(given), before) {
			t.Fatalf("Sweep(%s) changes what is handed in", shown(w))
		}
		if !shareNone([]any{given}, []any{z}) {
			t.Fatalf("Sweep(%s) shares memory", shown(w))
		}
		// nothing is kept, and what stands in the spare room is not looked at
		again := impl.Sweep(w)
		if !alike(again, z) || impl.Waste(w) != n {
			t.Fatalf("Sweep(%s) is another one when it is asked again", shown(w))
		}
		if !shareNone([]any{z}, []any{again}) {
			t.Fatalf("two answers of Sweep(%s) share memory", shown(w))
		}
	}
}
