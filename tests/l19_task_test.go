package tests

import (
	"fmt"
	"maps"
	"math"
	"math/rand"
	"slices"
	"strings"
	"testing"

	"loop.example/g00765/impl"
)

// modelPost says it in the document's own words, of a right world.
func modelPost(w impl.World, text string) (impl.World, int) {
	z := deepWorld(w)
	d, bad := impl.Read(text)
	if bad != -1 || len(d.Tops) != 1 {
		return z, 0
	}
	p, code := impl.Expand(d, 0)
	if code != impl.XpOk || len(z.Tasks) == 6 || len(z.Sys.Units) == 60 || z.Next == 100000 {
		return z, 0
	}
	z.Sys.Units = append(z.Sys.Units, impl.Unit{Home: 0, Prog: p})
	m, _ := impl.Start(z.Sys, len(z.Sys.Units)-1)
	z.Tasks = append(z.Tasks, impl.Task{Id: z.Next, Mac: m})
	z.Next++
	return z, z.Next - 1
}

// modelSlice likewise.
func modelSlice(w impl.World, id int, fuel int) (impl.World, string) {
	z := deepWorld(w)
	for i, task := range z.Tasks {
		if task.Id == id {
			z.Sys, z.Tasks[i].Mac, _ = impl.Run(z.Sys, task.Mac, fuel)
			return z, impl.Answer(z.Sys, z.Tasks[i].Mac)
		}
	}
	return z, ""
}

// wantPosted asks for that Id, and tells the world.
func wantPosted(t *testing.T, w impl.World, text string, want int) impl.World {
	t.Helper()
	z, id := impl.Post(w, text)
	if model, other := modelPost(w, text); id != other || !alike(z, model) {
		t.Fatalf("Post(%s, %.300q) = %s, %d; want %s, %d", shown(w), text, shown(z), id, shown(model), other)
	}
	if id != want || !impl.WorldOk(z) {
		t.Fatalf("Post(%s, %.300q) = %s, %d; want %d", shown(w), text, shown(z), id, want)
	}
	return z
}

// wantNotPosted asks for the world as it is, and 0.
func wantNotPosted(t *testing.T, what string, w impl.World, texts ...string) {
	t.Helper()
	for _, text := range texts {
		if z := wantPosted(t, w, text, 0); !alike(z, w) {
			t.Errorf("%s: Post of %.300q changes something: %s", what, text, shown(z))
		}
	}
}

// wantSliced asks for that answer, and tells the world.
func wantSliced(t *testing.T, w impl.World, id, fuel int, want string) impl.World {
	t.Helper()
	z, answer := impl.Slice(w, id, fuel)
	if model, other := modelSlice(w, id, fuel); answer != other || !alike(z, model) {
		t.Fatalf("Slice(%s, %d, %d) = %s, %.300q; want %s, %.300q", shown(w), id, fuel, shown(z), answer, shown(model), other)
	}
	if answer != want || !impl.WorldOk(z) {
		t.Fatalf("Slice(%s, %d, %d) = %s, %.300q; want %.300q", shown(w), id, fuel, shown(z), answer, want)
	}
	return z
}

func TestPostedTasks(t *testing.T) {
	w := wantPosted(t, impl.NewWorld(), "(+ 1 2)", 1)
	want := impl.NewWorld()
	want.Sys.Units = []impl.Unit{{Home: 0, Prog: meant(t, "(+ 1 2)")}}
	want.Tasks, want.Next = []impl.Task{{Id: 1, Mac: impl.Machine{Mode: impl.MoEval, Unit: 0, Node: 2}}}, 2
	if !alike(w, want) {
		t.Errorf("the first one makes %s; want %s", shown(w), shown(want))
	}
	w = wantPosted(t, w, " 'a ; a remark", 2)
	w = wantPosted(t, w, "(lambda (x) x)", 3)
	want.Sys.Units = append(want.Sys.Units, impl.Unit{Home: 0, Prog: meant(t, "'a")}, impl.Unit{Home: 0, Prog: meant(t, "(lambda (x) x)")})
	want.Tasks = append(want.Tasks, impl.Task{Id: 2, Mac: impl.Machine{Mode: impl.MoEval, Unit: 1}}, impl.Task{Id: 3, Mac: impl.Machine{Mode: impl.MoEval, Unit: 2, Node: 1}})
	if want.Next = 4; !alike(w, want) {
		t.Errorf("three make %s; want %s", shown(w), shown(want))
	}
	// nothing is run yet, whatever is asked for
	for _, text := range append(names("nobody 7 '() #f"), "(print 1)", "(nobody)", "(error 'a)", "(import aa)", "(set! x 1)", "(import)", "(lambda () (import aa))", "(begin 1 2)", endless[0]) {
		full := fullWorld(t)
		z := wantPosted(t, full, text, 6)
		if !alike(z.Sys.Heap, full.Sys.Heap) || !alike(z.Sys.Out, full.Sys.Out) || !alike(z.Sys.Insts, full.Sys.Insts) || !alike(z.Libs, full.Libs) || !alike(z.Tasks[:5], full.Tasks) {
			t.Errorf("%s: more is changed: %s", text, shown(z))
		}
		m := z.Tasks[5].Mac
		if m.Unit != len(full.Sys.Units) || m.Mode != impl.MoEval || !alike(z.Sys.Units[m.Unit], impl.Unit{Home: 0, Prog: meant(t, text)}) {
			t.Errorf("%s: the task is %s", text, shown(m))
		}
	}
}

// The Id is what Next was, whatever tasks there are.
func TestIdsOfPostedTasks(t *testing.T) {
	for _, next := range []int{1, 2, 77, 99998, 99999} {
		w := impl.NewWorld()
		w.Next = next
		if z := wantPosted(t, w, "1", next); z.Next != next+1 || z.Tasks[0].Id != next {
			t.Errorf("Next %d makes %s", next, shown(z))
		}
	}
	w := byHand(t) // Ids 1, 3, 4, 11
	w.Next = 50
	w = wantPosted(t, w, "1", 50)
	wantPosted(t, w, "2", 51)
	// one that has gone leaves its Id to nobody
	w.Tasks = w.Tasks[:2]
	w = wantPosted(t, w, "2", 51)
	w.Tasks = nil
	wantPosted(t, w, "2", 52)
	w.Next = 100000
	wantNotPosted(t, "Next 100000", w, "1", "(f)", "nobody")
	w.Next = 99999
	w = wantPosted(t, w, "1", 99999)
	wantNotPosted(t, "Next 100000 by the last one", w, "1")
}

func TestTextsThatAreNotPosted(t *testing.T) {
	for _, w := range []impl.World{impl.NewWorld(), fullWorld(t), byHand(t)} {
		wantNotPosted(t, "no datum", w, "", " ", "\n\t", "; a remark", "; (f 1)\n")
		wantNotPosted(t, "not read", w, "(", ")", "(f))", "(f", "'", "\"", "(1 . )", "1 (", "F", "1000001", "\x00", "(f 1) )")
		wantNotPosted(t, "two and more", w, "1 2", "(f) (g)", "1 (if)", "(if) 1", "a b c", "() ()", "'a 'b", "(+ 1 2) ; (+ 1 2)\n3", repeated("1", 100))
		wantNotPosted(t, "no form", w, append(wrongForms(), "()", "if", "else", "(if)", "(if 1 2)", "(f . 1)", "(lambda (x x) 1)", "(define x 1)", "(define (f) 1)", "define", "(import if)", "(car)", "(car 1 2)", "(quote)", "(set! 1 2)", "(let ((x)) x)", "(f 1 2 3 4 5 6 7 8 9)", "(lambda ())", "(make)")...)
		wantNotPosted(t, "too big", w, sized(impl.MaxNodes+1), "(begin "+repeated("1", impl.MaxNodes)+")")
	}
	if z := wantPosted(t, impl.NewWorld(), sized(impl.MaxNodes), 1); len(z.Sys.Units[0].Prog.Nodes) != impl.MaxNodes {
		t.Error("nodes", len(z.Sys.Units[0].Prog.Nodes))
	}
}

func TestHowManyArePosted(t *testing.T) {
	w := impl.NewWorld()
	for i := range impl.MaxTasks {
		w = wantPosted(t, w, "(cons "+impl.Dec(i)+" 'x)", i+1)
	}
	wantNotPosted(t, "all tasks", w, "1", "nobody", "(f)")
	// one that has ended counts as the others
	for i := range impl.MaxTasks {
		w = wantSliced(t, w, i+1, 99, "("+impl.Dec(i)+" . x)")
	}
	wantNotPosted(t, "all tasks, ended", w, "1")
	w.Tasks = slices.Delete(w.Tasks, 2, 3)
	w = wantPosted(t, w, "1", 7)
	wantNotPosted(t, "all tasks again", w, "1")
	for room := range 3 {
		w = withUnits(t, impl.NewWorld(), impl.MaxUnits-room)
		for i := range room {
			w = wantPosted(t, w, "(+ 1 2)", i+1)
		}
		if len(w.Sys.Units) != impl.MaxUnits {
			t.Error("units", len(w.Sys.Units))
		}
		wantNotPosted(t, "all units", w, "1", "(+ 1 2)")
		if room > 0 {
			wantSliced(t, w, room, 99, "3")
		}
	}
	// what else is full does not matter to it
	w = impl.NewWorld()
	w.Sys = filled(w.Sys, impl.MaxHeap)
	w.Sys.Out = slices.Repeat([]string{"x"}, impl.MaxOut)
	for len(w.Sys.Insts) < impl.MaxInsts {
		w.Sys.Insts = append(w.Sys.Insts, impl.Inst{Lib: "aa", Ver: 1})
	}
	wantPosted(t, w, "(cons 1 (print 2))", 1)
}

func TestSlicesOfATask(t *testing.T) {
	// 1, 2, +, done: each part is a step to go to it and one to tell it
	w := wantPosted(t, impl.NewWorld(), "(+ 1 2)", 1)
	for _, c := range []struct {
		fuel int
		want string
	}{{0, "running"}, {1, "running"}, {4, "running"}, {5, "running"}, {6, "3"}, {7, "3"}, {99, "3"}, {math.MaxInt, "3"}, {-1, "running"}, {math.MinInt, "running"}} {
		z := wantSliced(t, w, 1, c.fuel, c.want)
		if c.fuel <= 0 && !alike(z, w) {
			t.Errorf("a slice of %d steps does something", c.fuel)
		}
		if c.want == "3" {
			for _, fuel := range []int{0, 1, 99, -5} {
				if again := wantSliced(t, z, 1, fuel, "3"); !alike(again, z) {
					t.Errorf("a slice of one that has ended does something: %s", shown(again))
				}
			}
		}
	}
	for _, c := range asked {
		z := wantSliced(t, wantPosted(t, talking(sessionWith(0)), c.text, 1), 1, impl.MaxSteps, c.tells)
		if out := strings.Join(z.Sys.Out, "|"); out != c.out {
			t.Errorf("%s prints %q", c.text, out)
		}
	}
	for _, c := range gone {
		z := wantSliced(t, wantPosted(t, talking(sessionWith(0)), c.text, 1), 1, impl.MaxSteps, c.tells)
		if out, x := strings.Join(z.Sys.Out, "|"), impl.Text(z.Sys.Heap, z.Sys.Insts[0].Vals[0]); out != c.out || x != c.x {
			t.Errorf("%s prints %q, and x is %s", c.text, out, x)
		}
		if again := wantSliced(t, z, 1, 50, c.tells); !alike(again, z) {
			t.Errorf("%s: a slice of one that has ended does something", c.text)
		}
	}
}

// There is none of that Id, whatever its place would be.
func TestSlicesOfNoTask(t *testing.T) {
	for _, w := range []impl.World{impl.NewWorld(), fullWorld(t), byHand(t)} {
		for id := -3; id < 15; id++ {
			has := slices.ContainsFunc(w.Tasks, func(task impl.Task) bool { return task.Id == id })
			z, answer := impl.Slice(w, id, 3)
			if model, want := modelSlice(w, id, 3); answer != want || !alike(z, model) {
				t.Errorf("Slice(.., %d, 3) = %s, %q; want %q", id, shown(z), answer, want)
			}
			if !has && !alike(z, w) {
				t.Errorf("Slice of no task does something: %s", shown(z))
			}
		}
		for _, id := range []int{math.MinInt, math.MaxInt, 99999, 100000, 1<<32 + 1, w.Next} {
			if z := wantSliced(t, w, id, 99, ""); !alike(z, w) {
				t.Errorf("Slice of no task does something: %s", shown(z))
			}
		}
	}
}

func TestNoMoreThanMaxStepsInASlice(t *testing.T) {
	for steps := impl.MaxSteps - 1; steps <= impl.MaxSteps+2; steps++ {
		text := lasting(t, steps)
		w := wantPosted(t, talking(sessionWith(0)), text, 1)
		want := "done"
		if steps > impl.MaxSteps {
			want = "running"
		}
		for _, fuel := range []int{impl.MaxSteps, impl.MaxSteps + 1, 1 << 32, math.MaxInt} {
			z := wantSliced(t, w, 1, fuel, want)
			wantSliced(t, z, 1, max(steps-impl.MaxSteps, 0), "done")
			if want == "running" {
				wantSliced(t, z, 1, steps-impl.MaxSteps-1, "running")
			}
		}
		wantSliced(t, w, 1, steps-1, "running")
	}
}

// Each task has its own place; they see what the others did to the session, and to what they share.
func TestSlicesOfSeveralTasks(t *testing.T) {
	w := saidAfter(t, worldOf(t, aBase), "(import aa) (define x 0) (define (up n) (set! x (+ x n)))")
	w = wantPosted(t, w, "(begin (up 1) (print x) (up 10) (print x) 'one)", 1)
	w = wantPosted(t, w, "(begin (up 100) (print x) 'two)", 2)
	w = wantPosted(t, w, "(begin (bump) (print base))", 3)
	z := wantSliced(t, w, 2, 99, "two")
	if z.Tasks[0].Mac.Mode != impl.MoEval || !alike(z.Tasks[0], w.Tasks[0]) || !alike(z.Tasks[2], w.Tasks[2]) {
		t.Error("another task is changed", shown(z.Tasks))
	}
	z = wantSliced(t, z, 1, 99, "one")
	z = wantSliced(t, z, 3, 99, "8")
	if out := strings.Join(z.Sys.Out, " "); out != "100 101 111 8" {
		t.Error("printed", out)
	}
	// step by step, one after the other: both have read x before one of them sets it
	z = w
	for range 99 {
		for id := 3; id > 0; id-- {
			z, _ = impl.Slice(z, id, 1)
		}
	}
	wantPortrait(t, "step by step", z, "aa 1|x 11|up fn|base 8|bump fn|1 one|2 two|3 8|8|1|1|11")
}

// What comes to a task meanwhile is said, or changed.
func TestSlicesBehindWhatWasSaid(t *testing.T) {
	lib := "(library aa) (export f) (define v 1) (define (f) (cons v (begin 1 v)))"
	w := saidAfter(t, worldOf(t, lib), "(import aa)")
	w = wantPosted(t, w, "(cons x (f))", 1)
	z, answer := impl.Slice(w, 1, 99)
	if answer != "unbound" {
		t.Error(answer, "ahead of it", shown(z))
	}
	z = saidAfter(t, w, "(define x 'said)")
	wantSliced(t, z, 1, 99, "(said 1 . 1)")
	changed := strings.ReplaceAll(lib, "v 1)", "v 2)")
	wantSliced(t, upgraded(t, z, changed), 1, 99, "(said 2 . 2)")
	// what has come into a function ends in its version: the fifth step takes it
	for steps := range 30 {
		want := "(said 2 . 2)"
		if steps >= 5 {
			want = "(said 1 . 1)"
		}
		wantSliced(t, upgraded(t, sliced(z, 0, steps), changed), 1, 99, want)
	}
}

func TestTasksOfWorldsThatAreNotRight(t *testing.T) {
	for _, w := range wrongWorlds(t) {
		for _, text := range []string{"1", "", "(f", "(+ 1 2)"} {
			if z, id := impl.Post(w, text); id != 0 || !alike(z, impl.World{}) {
				t.Fatalf("Post(%s, %q) = %s, %d", shown(w), text, shown(z), id)
			}
		}
		for id := range 5 {
			if z, answer := impl.Slice(w, id, 9); answer != "" || !alike(z, impl.World{}) {
				t.Fatalf("Slice(%s, %d, 9) = %s, %q", shown(w), id, shown(z), answer)
			}
		}
	}
}

// Worlds whose tasks are posted and go on by chance, each in any slices: all of it is held against the model.
func TestTasksByChance(t *testing.T) {
	m := maker{rand.New(rand.NewSource(191))}
	seen, codes := map[string]int{}, map[int]int{}
	for range 80 {
		w := impl.NewWorld()
		if m.r.Intn(2) == 0 {
			_, w = worldByChance(m.r)
		}
		for range 25 {
			switch m.r.Intn(6) {
			case 0:
				w = m.done(t, w, codes)
			case 1, 2:
				text := m.sayings(w, 2)
				if m.r.Intn(2) == 0 {
					text = m.form(1 + m.r.Intn(3))
				}
				_, id := modelPost(w, text)
				w = wantPosted(t, w, text, id)
				if id == 0 {
					seen["not posted"]++
				}
			default:
				id, fuel := m.r.Intn(w.Next+2)-1, m.r.Intn(30)-2
				if len(w.Tasks) > 0 && m.r.Intn(4) > 0 {
					id = w.Tasks[m.r.Intn(len(w.Tasks))].Id
				}
				_, answer := modelSlice(w, id, fuel)
				w = wantSliced(t, w, id, fuel, answer)
				if answer == "" {
					answer = "none"
				}
				countAnswers(seen, []string{answer})
			}
		}
	}
	for _, sort := range []string{"not posted", "running", "unbound", "type", "told"} {
		if seen[sort] < 20 {
			t.Error("one sort was hardly there", seen)
		}
	}
}

// A task in slices is the task at one go, whatever the cuts.
func TestATaskInSlices(t *testing.T) {
	m := maker{rand.New(rand.NewSource(192))}
	seen := map[string]int{}
	texts := slices.Concat(slices.Sorted(maps.Keys(allTexts())), endless)
	for i := range 300 {
		text := m.form(3)
		if i%2 == 0 {
			text = texts[i/2%len(texts)]
		}
		w := wantPosted(t, talking(sessionWith(impl.MaxHeap-m.r.Intn(20))), text, 1)
		whole, answer := impl.Slice(w, 1, 400)
		part, last := w, "running"
		for left := 400; left > 0; {
			fuel := min(1+m.r.Intn(40), left)
			part, last = impl.Slice(part, 1, fuel)
			left -= fuel
		}
		if last != answer || !alike(part, whole) {
			t.Fatalf("in slices it tells %q; want %q: %s", last, answer, shown(w))
		}
		countAnswers(seen, []string{answer})
	}
	for _, sort := range []string{"unbound", "type", "full", "running", "told"} {
		if seen[sort] < 5 {
			t.Error("one sort was hardly there", seen)
		}
	}
}

// asSliced is what Slice is handed, and Post.
type asSliced struct {
	World impl.World
	Text  string
	Id    int
}

func TestTasksLeaveWhatIsHandedIn(t *testing.T) {
	t.Parallel()
	counts := map[bool]int{}
	texts := append(textsOfAllSorts(), "((lambda (symbol) (cons symbol (f 'other))) 'more)", "v", "(make pt 1 2)")
	for at, w := range worldsOfAllSorts(t) {
		ids := []int{0, 1, w.Next}
		for _, task := range w.Tasks {
			ids = append(ids, task.Id)
		}
		for i := range 4 {
			text := texts[(4*at+i)%len(texts)]
			given := roomyOf(asSliced{w, strings.Clone(text), ids[i%len(ids)]})
			before := wholeOf(given)
			z, id := impl.Post(given.World, given.Text)
			y, answer := impl.Slice(given.World, given.Id, 5)
			if !alike(wholeOf(given), before) {
				t.Fatalf("Post or Slice(%s, %q) changes what is handed in", shown(w), text)
			}
			if !shareNone([]any{given}, []any{z}) || !shareNone([]any{given}, []any{y, answer}) {
				t.Fatalf("Post or Slice(%s, %q) shares memory", shown(w), text)
			}
			counts[id > 0]++
			// nothing is kept, and what stands in the spare room is not looked at
			again, other := impl.Post(w, text)
			if !alike(again, z) || other != id {
				t.Fatalf("Post(%s, %q) is another one the second time", shown(w), text)
			}
			if again, other := impl.Slice(w, given.Id, 5); !alike(again, y) || other != answer {
				t.Fatalf("Slice(%s, %d, 5) is another one the second time", shown(w), given.Id)
			}
		}
	}
	if counts[true] < 50 || counts[false] < 50 {
		t.Error("one sort was hardly there", fmt.Sprint(counts))
	}
}
