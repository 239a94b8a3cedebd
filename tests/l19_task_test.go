package tests

import (
	"fmt"
	"maps"
	"math"
	"math/rand"
	"slices"
	"strings"
	"testing"

	"loop.example/g00765/impl"
)

// modelPost says it in the document's own words, of a right world.
func modelPost(w impl.World, text string) (impl.World, int) {
	z := deepWorld(w)
	d, bad := impl.Read(text)
	if bad != -1 || len(d.Tops) != 1 {
		return z, 0
	}
	p, code := impl.Expand(d, 0)
	if code != impl.XpOk || len(z.Tasks) == 6 || len(z.Sys.Units) == 60 || z.Next == 100000 {
		return z, 0
	}
	z.Sys.Units = append(z.Sys.Units, impl.Unit{Home: 0, Prog: p})
	m, _ := impl.Start(z.Sys, len(z.Sys.Units)-1)
	z.Tasks = append(z.Tasks, impl.Task{Id: z.Next, Mac: m})
	z.Next++
	return z, z.Next - 1
}

// modelSlice likewise.
func modelSlice(w impl.World, id int, fuel int) (impl.World, string) {
	z := deepWorld(w)
	for i, task := range z.Tasks {
		if task.Id == id {
			z.Sys, z.Tasks[i].Mac, _ = impl.Run(z.Sys, task.Mac, fuel)
			return z, impl.Answer(z.Sys, z.Tasks[i].Mac)
		}
	}
	return z, ""
}

// wantPosted asks for that Id, and tells the world.
func wantPosted(t *testing.T, w impl.World, text string, want int) impl.World {
	t.Helper()
	z, id := impl.Post(w, text)
	if model, other := modelPost(w, text); id != other || !alike(z, model) {
		t.Fatalf("Post(%s, %.300q) = %s, %d; want %s, %d", shown(w), text, shown(z), id, shown(model), other)
	}
	if id != want || !impl.WorldOk(z) {
		t.Fatalf("Post(%s, %.300q) = %s, %d; want %d", shown(w), text, shown(z), id, want)
	}
	return z
}

// wantNotPosted asks for the world as it is, and 0.
func wantNotPosted(t *testing.T, what string, w impl.World, texts ...string) {
	t.Helper()
	for _, text := range texts {
		if z := wantPosted(t, w, text, 0); !alike(z, w) {
			t.Errorf("%s: Post of %.300q changes something: %s", what, text, shown(z))
		}
	}
}

// wantSliced asks for that answer, and tells the world.
func wantSliced(t *testing.T, w impl.World, id, fuel int, want string) impl.World {
	t.Helper()
	z, answer := impl.Slice(w, id, fuel)
	if model, other := modelSlice(w, id, fuel); answer != other || !alike(z, model) {
		t.Fatalf("Slice(%s, %d, %d) = %s, %.300q; want %s, %.300q", shown(w), id, fuel, shown(z), answer, shown(model), other)
	}
	if answer != want || !impl.WorldOk(z) {
		t.Fatalf("Slice(%s, %d, %d) = %s, %.300q; want %.300q", shown(w), id, fuel, shown(z), answer, want)
	}
	return z
}

func TestPostedTasks(t *testing.T) {
	w := wantPosted(t, impl.NewWorld(), "(+ 1 2)", 1)
	want := impl.NewWorld()
	want.Sys.Units = []impl.Unit{{Home: 0, Prog: meant(t, "(+ 1 2)")}}
	want.Tasks, want.Next = []impl.Task{{Id: 1, Mac: impl.Machine{Mode: impl.MoEval, Unit: 0, Node: 2}}}, 2
	if !alike(w, want) {
		t.Errorf("the first one makes %s; want %s", shown(w), shown(want))
	}
	w = wantPosted(t, w, " 'a ; a remark", 2)
	w = wantPosted(t, w, "(lambda (x) x)", 3)
	want.Sys.Units = append(want.Sys.Units, impl.Unit{Home: 0, Prog: meant(t, "'a")}, impl.Unit{Home: 0, Prog: meant(t, "(lambda (x) x)")})
	want.Tasks = append(want.Tasks, impl.Task{Id: 2, Mac: impl.Machine{Mode: impl.MoEval, Unit: 1}}, impl.Task{Id: 3, Mac: impl.Machine{Mode: impl.MoEval, Unit: 2, Node: 1}})
	if want.Next = 4; !alike(w, want) {
		t.Errorf("three make %s; want %s", shown(w), shown(want))
	}
	// nothing is run yet, whatever is asked for
	for _, text := range append(names("nobody 7 '() #f"), "(print 1)", "(nobody)", "(error 'a)", "(import aa)", "(set! x 1)", "(import)", "(lambda () (import aa))", "(begin 1 2)", endless[0]) {
		full := fullWorld(t)
		z := wantPosted(t, full, text, 6)
		if !alike(z.Sys.Heap, full.Sys.Heap) || !alike(z.Sys.Out, full.Sys.Out) || !alike(z.Sys.Insts, full.Sys.Insts) || !alike(z.Libs, full.Libs) || !alike(z.Tasks[:5], full.Tasks) {
			t.Errorf("%s: more is changed: %s", text, shown(z))
		}
		m := z.Tasks[5].Mac
		if m.Unit != len(full.Sys.Units) || m.Mode != impl.MoEval || !alike(z.Sys.Units[m.Unit], impl.Unit{Home: 0, Prog: meant(t, text)}) {
			t.Errorf("%s: the task is %s", text, shown(m))
		}
	}
}

// The Id is what Next was, whatever tasks there are.
func TestIdsOfPostedTasks(t *testing.T) {
	for _, next := range []int{1, 2, 77, 99998, 99999} {
		w := impl.NewWorld()
		w.Next = next
		if z := wantPosted(t, w, "1", next); z.Next != next+1 || z.Tasks[0].Id != next {
			t.Errorf("Next %d makes %s", next, shown(z))
		}
	}
	w := byHand(t) // Ids 1, 3, 4, 11
	w.Next = 50
	w = wantPosted(t, w, "1", 50)
	wantPosted(t, w, "2", 51)
	// one that has gone leaves its Id to nobody
	w.Tasks = w.Tasks[:2]
	w = wantPosted(t, w, "2", 51)
	w.Tasks = nil
	wantPosted(t, w, "2", 52)
	w.Next = 100000
	wantNotPosted(t, "Next 100000", w, "1", "(f)", "nobody")
	w.Next = 99999
	w = wantPosted(t, w, "1", 99999)
	wantNotPosted(t, "Next 100000 by the last one", w, "1")
}

func TestTextsThatAreNotPosted(t *testing.T) {
	for _, w := range []impl.World{impl.NewWorld(), fullWorld(t), byHand(t)} {
		wantNotPosted(t, "no datum", w, "", " ", "\n\t", "; a remark", "; (f 1)\n")
		wantNotPosted(t, "not read", w, "(", ")", "(f))", "(f", "'", "\"", "(1 . )", "1 (", "F", "1000001", "\x00", "(f 1) )")
		wantNotPosted(t, "two and more", w, "1 2", "(f) (g)", "1 (if)", "(if) 1", "a b c", "() ()", "'a 'b", "(+ 1 2) ; (+ 1 2)\n3", repeated("1", 100))
		wantNotPosted(t, "no form", w, append(wrongForms(), "()", "if", "else", "(if)", "(if 1 2)", "(f . 1)", "(lambda (x x) 1)", "(define x 1)", "(define (f) 1)", "define", "(import if)", "(car)", "(car 1 2)", "(quote)", "(set! 1 2)", "(let ((x)) x)", "(f 1 2 3 4 5 6 7 8 9)", "(lambda ())", "(make)")...)
		wantNotPosted(t, "too big", w, sized(impl.MaxNodes+1), "(begin "+repeated("1", impl.MaxNodes)+")")
	}
	if z := wantPosted(t, impl.NewWorld(), sized(impl.MaxNodes), 1); len(z.Sys.Units[0].Prog.Nodes) != impl.MaxNodes {
		t.Error("nodes", len(z.Sys.Units[0].Prog.Nodes))
	}
}

func TestHowManyArePosted(t *testing.T) {
	w := impl.NewWorld()
	for i := range impl.MaxTasks {
		w = wantPosted(t, w, "(cons "+impl.Dec(i)+" 'x)", i+1)
	}
	wantNotPosted(t, "all tasks", w, "1", "nobody", "(f)")
	// one that has ended counts as the others
	for i := range impl.MaxTasks {
		w = wantSliced(t, w, i+1, 99, "("+impl.Dec(i)+" . x)")
	}
	wantNotPosted(t, "all tasks, ended", w, "1")
	w.Tasks = slices.Delete(w.Tasks, 2, 3)
	w = wantPosted(t, w, "1", 7)
	wantNotPosted(t, "all tasks again", w, "1")
	for room := range 3 {
		w = withUnits(t, impl.NewWorld(), impl.MaxUnits-room)
		for i := range room {
			w = wantPosted(t, w, "(+ 1 2)", i+1)
		}
		if len(w.Sys.Units) != impl.MaxUnits {
			t.Error("units", len(w.Sys.Units))
		}
		wantNotPosted(t, "all units", w, "1", "(+ 1 2)")
		if room > 0 {
			wantSliced(t, w, room, 99, "3")
		}
	}
	// what else is full does not matter to it
	w = impl.NewWorld()
	w.Sys = filled(w.Sys, impl.MaxHeap)
	w.Sys.Out = slices.Repeat([]string{"x"}, impl.MaxOut)
	for len(w.Sys.Insts) < impl.MaxInsts {
		w.Sys.Insts = append(w.Sys.Insts, impl.Inst{Lib: "aa", Ver: 1})
	}
	wantPosted(t, w, "(cons 1 (print 2))", 1)
}

func TestSlicesOfATask(t *testing.T) {
	// 1, 2, +, done: each part is a step to go to it and one to tell it
	w := wantPosted(t, impl.NewWorld(), "(+ 1 2)", 1)
	for _, c := range []struct {
		fuel int
		want string
	}{{0, "running"}, {1, "running"}, {4, "running"}, {5, "running"}, {6, "3"}, {7, "3"}, {99, "3"}, {math.MaxInt, "3"}, {-1, "running"}, {math.MinInt, "running"}} {
		z := wantSliced(t, w, 1, c.fuel, c.want)
		if c.fuel <= 0 && !alike(z, w) {
			t.Errorf("a slice of %d steps does something", c.fuel)
		}
		if c.want == "3" {
			for _, fuel := range []int{0, 1, 99, -5} {
				if again := wantSliced(t, z, 1, fuel, "3"); !alike(again, z) {
					t.Errorf("a slice of one that has ended does something: %s", shown(again))
				}
			}
		}
	}
	for _, c := range asked {
		z := wantSliced(t, wantPosted(t, talking(sessionWith(0)), c.text, 1), 1, impl.MaxSteps, c.tells)
		if out := strings.Join(z.Sys.Out, "|"); out != c.out {
			t.Errorf("%s prints %q", c.text, out)
		}
	}
	for _, c := range gone {
		z := wantSliced(t, wantPosted(t, talking(sessionWith(0)), c.text, 1), 1, impl.MaxSteps, c.tells)
		if out, x := strings.Join(z.Sys.Out, "|"), impl.Text(z.Sys.Heap, z.Sys.Insts[0].Vals[0]); out != c.out || x != c.x {
			t.Errorf("%s prints %q, and x is %s", c.text, out, x)
		}
		if again := wantSliced(t, z, 1, 50, c.tells); !alike(again, z) {
			t.Errorf("%s: a slice of one that has ended does something", c.text)
		}
	}
}

// There is none of that Id, whatever its place would be.
func TestSlicesOfNoTask(t *testing.T) {
	for _, w := range []impl.World{impl.NewWorld(), fullWorld(t), byHand(t)} {
		for id := -3; id < 15; id++ {
			has := slices.ContainsFunc(w.Tasks, func(task impl.Task) bool { return task.Id == id })
			z, answer := impl.Slice(w, id, 3)
			if model, want := modelSlice(w, id, 3); answer != want || !alike(z, model) {
				t.Errorf("Slice(.., %d, 3) = %s, %q; want %q", id, shown(z), answer, want)
			}
			if !has && !alike(z, w) {
				t.Errorf("Slice of no task does something: %s", shown(z))
			}
		}
		for _, id := range []int{math.MinInt, math.MaxInt, 99999, 100000, 1<<32 + 1, w.Next} {
			if z := wantSliced(t, w, id, 99, ""); !alike(z, w) {
				t.Errorf("Slice of no task does something: %s", shown(z))
			}
		}
	}
}

func TestNoMoreThanMaxStepsInASlice(t *testing.T) {
	for steps := impl.MaxSteps - 1; steps <= impl.MaxSteps+2; steps++ {
		text := lasting(t, steps)
		w := wantPosted(t, talking(sessionWith(0)), text, 1)
		want := "done"
		if steps > impl.MaxSteps {
			want = "running"
		}
		for _, fuel := range []int{impl.MaxSteps, impl.MaxSteps + 1, 1 << 32, math.MaxInt} {
			z := wantSliced(t, w, 1, fuel, want)
			wantSliced(t, z, 1, max(steps-impl.MaxSteps, 0), "done")
			if want == "running" {
				wantSliced(t, z, 1, steps-impl.MaxSteps-1, "running")
			}
		}
		wantSliced(t, w, 1, steps-1, "running")
	}
}

// Each task has its own place; they see what the others did to the session, and to what they share.
func TestSlicesOfSeveralTasks(t *testing.T) {
	w := saidAfter(t, worldOf(t, aBase), "(import aa) (define x 0) (define (up n) (set! x (+ x n)))")
	w = wantPosted(t, w, "(begin (up 1) (print x) (up 10) (print x) 'one)", 1)
	w = wantPosted(t, w, "(begin (up 100) (print x) 'two)", 2)
	w = wantPosted(t, w, "(begin (bump) (print base))", 3)
	z := wantSliced(t, w, 2, 99, "two")
	if z.Tasks[0].Mac.Mode != impl.MoEval || !alike(z.Tasks[0], w.Tasks[0]) || !alike(z.Tasks[2], w.Tasks[2]) {
		t.Error("another task is changed", shown(z.Tasks))
	}
	z = wantSliced(t, z, 1, 99, "one")
	z = wantSliced(t, z, 3, 99, "8")
	if out := strings.Join(z.Sys.Out, " "); out != "100 101 111 8" {
		t.Error("printed", out)
	}
	// step by step, one after the other: both have read x before one of them sets it
	z = w
	for range 99 {
		for id := 3; id > 0; id-- {
			z, _ = impl.Slice(z, id, 1)
		}
	}
	wantPortrait(t, "step by step", z, "aa 1|x 11|up fn|base 8|bump fn|1 one|2 two|3 8|8|1|1|11")
}

// What comes to a task meanwhile is said, or changed.
func TestSlicesBehindWhatWasSaid(t *testing.T) {
	lib := "(library aa) (export f) (define v 1) (define (f) (cons v (begin 1 v)))"
	w := saidAfter(t, worldOf(t, lib), "(import aa)")
	w = wantPosted(t, w, "(cons x (f))", 1)
	z, answer := impl.Slice(w, 1, 99)
	if answer != "unbound" {
		t.Error(answer, "ahead of it", shown(z))
	}
	z = saidAfter(t, w, "(define x 'said)")
	wantSliced(t, z, 1, 99, "(said 1 . 1)")
	changed := strings.ReplaceAll(lib, "v 1)", "v 2)")
	wantSliced(t, upgraded(t, z, changed), 1, 99, "(said 2 . 2)")
	// what has come into a function ends in its version: the fifth step takes it
	for steps := range 30 {
		want := "(said 2 . 2)"
		if steps >= 5 {
			want = "(said 1 . 1)"
		}
		wantSliced(t, upgraded(t, sliced(z, 0, steps), changed), 1, 99, want)
	}
}

func TestTasksOfWorldsThatAreNotRight(t *testing.T) {
	for _, w := range wrongWorlds(t) {
		for _, text := range []string{"1", "", "(f", "(+ 1 2)"} {
			if z, id := impl.Post(w, text); id != 0 || !alike(z, impl.World{}) {
				t.Fatalf("Post(%s, %q) = %s, %d", shown(w), text, shown(z), id)
			}
		}
		for id := range 5 {
			if z, answer := impl.Slice(w, id, 9); answer != "" || !alike(z, impl.World{}) {
				t.Fatalf("Slice(%s, %d, 9) = %s, %q", shown(w), id, shown(z), answer)
			}
		}
	}
}

// Worlds whose tasks are posted and go on by chance, each in any slices: all of it is held against the model.
func TestTasksByChance(t *testing.T) {
	m := maker{rand.New(rand.NewSource(191))}
	seen, codes := map[string]int{}, map[int]int{}
	for range 80 {
		w := impl.NewWorld()
		if m.r.Intn(2) == 0 {
			_, w = worldByChance(m.r)
		}
		for range 25 {
			switch m.r.Intn(8) {
			case 0:
				w = m.done(t, w, codes)
			case 6:
				w = wantRounded(t, w, m.r.Intn(30)-2)
			case 7:
				id := m.r.Intn(w.Next + 2)
				_, ok := modelCancel(w, id)
				w = wantCancelled(t, w, id, ok)
				seen[fmt.Sprintf("cancelled %v", ok)]++
			case 1, 2:
				text := m.sayings(w, 2)
				if m.r.Intn(2) == 0 {
					text = m.form(1 + m.r.Intn(3))
				}
				_, id := modelPost(w, text)
				w = wantPosted(t, w, text, id)
				if id == 0 {
					seen["not posted"]++
				}
			default:
				id, fuel := m.r.Intn(w.Next+2)-1, m.r.Intn(30)-2
				if len(w.Tasks) > 0 && m.r.Intn(4) > 0 {
					id = w.Tasks[m.r.Intn(len(w.Tasks))].Id
				}
				_, answer := modelSlice(w, id, fuel)
				w = wantSliced(t, w, id, fuel, answer)
				if answer == "" {
					answer = "none"
				}
				countAnswers(seen, []string{answer})
			}
		}
	}
	for _, sort := range []string{"not posted", "running", "unbound", "type", "told", "cancelled true", "cancelled false"} {
		if seen[sort] < 20 {
			t.Error("one sort was hardly there", seen)
		}
	}
}

// A task in slices is the task at one go, whatever the cuts.
func TestATaskInSlices(t *testing.T) {
	m := maker{rand.New(rand.NewSource(192))}
	seen := map[string]int{}
	texts := slices.Concat(slices.Sorted(maps.Keys(allTexts())), endless)
	for i := range 300 {
		text := m.form(3)
		if i%2 == 0 {
			text = texts[i/2%len(texts)]
		}
		w := wantPosted(t, talking(sessionWith(impl.MaxHeap-m.r.Intn(20))), text, 1)
		whole, answer := impl.Slice(w, 1, 400)
		part, last := w, "running"
		for left := 400; left > 0; {
			fuel := min(1+m.r.Intn(40), left)
			part, last = impl.Slice(part, 1, fuel)
			left -= fuel
		}
		if last != answer || !alike(part, whole) {
			t.Fatalf("in slices it tells %q; want %q: %s", last, answer, shown(w))
		}
		countAnswers(seen, []string{answer})
	}
	for _, sort := range []string{"unbound", "type", "full", "running", "told"} {
		if seen[sort] < 5 {
			t.Error("one sort was hardly there", seen)
		}
	}
}

// asSliced is what Slice is handed, and Post.
type asSliced struct {
	World impl.World
	Text  string
	Id    int
}

func TestTasksLeaveWhatIsHandedIn(t *testing.T) {
	t.Parallel()
	counts := map[bool]int{}
	texts := append(textsOfAllSorts(), "((lambda (symbol) (cons symbol (f 'other))) 'more)", "v", "(make pt 1 2)")
	for at, w := range worldsOfAllSorts(t) {
		ids := []int{0, 1, w.Next}
		for _, task := range w.Tasks {
			ids = append(ids, task.Id)
		}
		for i := range 4 {
			text := texts[(4*at+i)%len(texts)]
			given := roomyOf(asSliced{w, strings.Clone(text), ids[i%len(ids)]})
			before := wholeOf(given)
			z, id := impl.Post(given.World, given.Text)
			y, answer := impl.Slice(given.World, given.Id, 5)
			if !alike(wholeOf(given), before) {
				t.Fatalf("Post or Slice(%s, %q) changes what is handed in", shown(w), text)
			}
			if !shareNone([]any{given}, []any{z}) || !shareNone([]any{given}, []any{y, answer}) {
				t.Fatalf("Post or Slice(%s, %q) shares memory", shown(w), text)
			}
			counts[id > 0]++
			// nothing is kept, and what stands in the spare room is not looked at
			again, other := impl.Post(w, text)
			if !alike(again, z) || other != id {
				t.Fatalf("Post(%s, %q) is another one the second time", shown(w), text)
			}
			if again, other := impl.Slice(w, given.Id, 5); !alike(again, y) || other != answer {
				t.Fatalf("Slice(%s, %d, 5) is another one the second time", shown(w), given.Id)
			}
		}
	}
	if counts[true] < 50 || counts[false] < 50 {
		t.Error("one sort was hardly there", fmt.Sprint(counts))
	}
}

// modelCancel says it in the document's own words, of a right world.
func modelCancel(w impl.World, id int) (impl.World, bool) {
	z := deepWorld(w)
	z.Tasks = nil
	for _, task := range deepWorld(w).Tasks {
		if task.Id != id {
			z.Tasks = append(z.Tasks, task)
		}
	}
	return z, len(z.Tasks) < len(w.Tasks)
}

// modelRound likewise.
func modelRound(w impl.World, fuel int) impl.World {
	z := deepWorld(w)
	for _, task := range w.Tasks {
		z, _ = modelSlice(z, task.Id, fuel)
	}
	return z
}

// wantCancelled asks for that flag, and tells the world.
func wantCancelled(t *testing.T, w impl.World, id int, want bool) impl.World {
	t.Helper()
	z, ok := impl.Cancel(w, id)
	if model, other := modelCancel(w, id); ok != other || !alike(z, model) {
		t.Fatalf("Cancel(%s, %d) = %s, %v; want %s, %v", shown(w), id, shown(z), ok, shown(model), other)
	}
	if ok != want || !impl.WorldOk(z) {
		t.Fatalf("Cancel(%s, %d) = %s, %v; want %v", shown(w), id, shown(z), ok, want)
	}
	if !ok && !alike(z, w) {
		t.Fatalf("Cancel of no task does something: %s", shown(z))
	}
	return z
}

// wantRounded holds Round against the model, and against Slice of each task.
func wantRounded(t *testing.T, w impl.World, fuel int) impl.World {
	t.Helper()
	z := impl.Round(w, fuel)
	if model := modelRound(w, fuel); !alike(z, model) || !impl.WorldOk(z) {
		t.Fatalf("Round(%s, %d) = %s; want %s", shown(w), fuel, shown(z), shown(model))
	}
	y := w
	for _, task := range w.Tasks {
		y, _ = impl.Slice(y, task.Id, fuel)
	}
	if !alike(z, y) {
		t.Fatalf("Round(%s, %d) = %s; Slice of each makes %s", shown(w), fuel, shown(z), shown(y))
	}
	return z
}

// wantTellings asks what has come of each task, with a | between; nothing is done by that.
func wantTellings(t *testing.T, what string, w impl.World, want string) {
	t.Helper()
	if got := toldBy(t, w); got != want {
		t.Errorf("%s: the tasks tell %s; want %s", what, got, want)
	}
}

// toldBy is what each task tells to a slice of no step.
func toldBy(t *testing.T, w impl.World) string {
	t.Helper()
	var all []string
	for _, task := range w.Tasks {
		z, answer := impl.Slice(w, task.Id, 0)
		if !alike(z, w) {
			t.Fatalf("a slice of no step does something: %s", shown(z))
		}
		all = append(all, answer)
	}
	return strings.Join(all, "|")
}

// idsOf tells the Ids of all tasks.
func idsOf(w impl.World) string {
	var all []string
	for _, task := range w.Tasks {
		all = append(all, impl.Dec(task.Id))
	}
	return strings.Join(all, " ")
}

// withTasks is w with these posted, one behind the other.
func withTasks(t *testing.T, w impl.World, texts ...string) impl.World {
	t.Helper()
	for _, text := range texts {
		w = wantPosted(t, w, text, w.Next)
	}
	return w
}

func TestLimitOfTasks(t *testing.T) {
	if impl.MaxTasks != 6 {
		t.Error(impl.MaxTasks)
	}
}

func TestCancelledTasks(t *testing.T) {
	w := withTasks(t, talking(sessionWith(3)), "(set! x 2)", "(print x)", "nobody")
	for id, left := range map[int]string{1: "2 3", 2: "1 3", 3: "1 2"} {
		z := wantCancelled(t, w, id, true)
		if idsOf(z) != left || z.Next != 4 || !alike(z.Sys, w.Sys) || !alike(z.Libs, w.Libs) {
			t.Errorf("Cancel of %d makes %s", id, shown(z))
		}
		// it is no more: nobody can take it again, or go on with it
		if again := wantCancelled(t, z, id, false); !alike(again, z) {
			t.Error("Cancel of what is gone does something", shown(again))
		}
		wantSliced(t, z, id, 9, "")
	}
	for _, w := range []impl.World{fullWorld(t), byHand(t)} {
		for at, task := range w.Tasks {
			z := wantCancelled(t, w, task.Id, true)
			if !alike(z.Tasks, slices.Delete(slices.Clone(w.Tasks), at, at+1)) || !alike(z.Sys, w.Sys) || !alike(z.Libs, w.Libs) || z.Next != w.Next {
				t.Errorf("Cancel of %d makes %s", task.Id, shown(z))
			}
		}
	}
	one := withTasks(t, impl.NewWorld(), "(+ 1 2)")
	z := wantCancelled(t, one, 1, true)
	want := impl.NewWorld()
	want.Sys.Units, want.Next = one.Sys.Units, 2
	if !alike(z, want) {
		t.Errorf("without its one task it is %s", shown(z))
	}
}

// There is none of that Id, whatever its place would be.
func TestCancelOfNoTask(t *testing.T) {
	for _, w := range []impl.World{impl.NewWorld(), fullWorld(t), byHand(t)} {
		for id := -3; id < 15; id++ {
			has := slices.ContainsFunc(w.Tasks, func(task impl.Task) bool { return task.Id == id })
			wantCancelled(t, w, id, has)
		}
		for _, id := range []int{math.MinInt, math.MaxInt, -1, 0, 99999, 100000, 1<<32 + 1, w.Next, w.Next + 1} {
			wantCancelled(t, w, id, false)
		}
	}
}

// All of them go, in any order, and as many can be posted again; no Id is given twice.
func TestAllTasksAreCancelled(t *testing.T) {
	r := rand.New(rand.NewSource(193))
	w := withTasks(t, impl.NewWorld(), "1", "2", "3", "4", "5", "6")
	for range 40 {
		z := w
		for left, at := range r.Perm(impl.MaxTasks) {
			z = wantCancelled(t, z, at+1, true)
			if len(z.Tasks) != impl.MaxTasks-1-left || z.Next != 7 {
				t.Fatal("left are", idsOf(z), z.Next)
			}
		}
		z = withTasks(t, z, "7", "8", "9", "10", "11", "12")
		if idsOf(z) != "7 8 9 10 11 12" {
			t.Fatal("the new ones are", idsOf(z))
		}
		wantNotPosted(t, "all tasks", z, "1")
	}
	// one goes and one comes, again and again: the room is used, the Ids rise
	for id := range 30 {
		w = wantCancelled(t, w, id+1, true)
		w = wantPosted(t, w, "(cons "+impl.Dec(id)+" 'x)", id+7)
		wantNotPosted(t, "all tasks", w, "1")
		wantCancelled(t, w, id+1, false)
	}
	if idsOf(w) != "31 32 33 34 35 36" || len(w.Sys.Units) != 36 {
		t.Error("at last there are", idsOf(w), len(w.Sys.Units))
	}
	wantTellings(t, "at last", wantRounded(t, w, 99), "(24 . x)|(25 . x)|(26 . x)|(27 . x)|(28 . x)|(29 . x)")
}

// Next stays where it is, also at its end; units stay too.
func TestWhatCancelDoesNotGiveBack(t *testing.T) {
	w := impl.NewWorld()
	w.Next = 99998
	w = withTasks(t, w, "1", "2")
	wantNotPosted(t, "Next 100000", w, "3")
	for _, id := range []int{99998, 99999} {
		w = wantCancelled(t, w, id, true)
		wantNotPosted(t, "Next 100000, one gone", w, "3")
		wantCancelled(t, w, 100000, false)
	}
	if w.Next != 100000 || len(w.Tasks) != 0 {
		t.Error("it is", shown(w))
	}
	w = withTasks(t, withUnits(t, impl.NewWorld(), impl.MaxUnits-1), "(+ 1 2)")
	wantNotPosted(t, "all units", w, "3")
	w = wantCancelled(t, w, 1, true)
	wantNotPosted(t, "all units, the task gone", w, "3")
	if len(w.Sys.Units) != impl.MaxUnits {
		t.Error("units", len(w.Sys.Units))
	}
	// what nobody can come to goes by a sweep
	wantPosted(t, impl.Sweep(w), "3", 2)
}

// What a task did stays when it goes; what it would have done is never done.
func TestWhatACancelledTaskDid(t *testing.T) {
	y := talking(sessionWith(0))
	w := withTasks(t, y, "(begin (set! x (cons 1 2)) (print 'first) (set! x 'last) (print 'last))", "(begin 1 2 3 4 5 (print x))")
	done := map[string]int{}
	for steps := range 30 {
		z := wantCancelled(t, sliced(w, 0, steps), 1, true)
		if !alike(z.Sys, sliced(w, 0, steps).Sys) {
			t.Fatal("what it did is changed", shown(z))
		}
		z = wantRounded(t, z, 99)
		x := impl.Text(z.Sys.Heap, z.Sys.Insts[0].Vals[0])
		done[strings.Join(append(z.Sys.Out, x), "|")]++
		wantTellings(t, "the other one", z, x)
	}
	if got, want := fmt.Sprint(done), "map[(1 . 2)|(1 . 2):4 1|1:8 first|(1 . 2)|(1 . 2):4 first|last|last:4 first|last|last|last:10]"; got != want {
		t.Errorf("what was done is %s; want %s", got, want)
	}
}

// Without its task an old version is come to by nobody.
func TestCancelLetsAVersionGo(t *testing.T) {
	lib := "(library aa) (export f) (define (f n) (if (= n 0) 'old (f (- n 1))))"
	w := saidAfter(t, worldOf(t, lib), "(import aa)")
	w = withTasks(t, w, "(f 9)", "(f 9)", "(f 9)")
	w = sliced(sliced(w, 0, 20), 1, 30)
	w = upgraded(t, w, strings.ReplaceAll(lib, "old", "new"))
	wantAlive(t, "both", w, "aa", "1 2")
	z := wantCancelled(t, w, 1, true)
	wantAlive(t, "one is left in it", z, "aa", "1 2")
	wantAlive(t, "the one that has not begun", wantCancelled(t, w, 3, true), "aa", "1 2")
	z = wantCancelled(t, z, 2, true)
	wantAlive(t, "none is left in it", z, "aa", "2")
	z = wantSwept(t, "none is left in it", z)
	wantSliced(t, z, 3, 999, "new")
	wantSliced(t, wantCancelled(t, w, 2, true), 1, 999, "old")
}

// The others go on as if it had never been there.
func TestTheOthersWithoutACancelledTask(t *testing.T) {
	texts := []string{"(begin (set! x (+ x 1)) (print x) x)", "(begin (print 'a) (cons 1 (cons x 2)))", "((lambda (y) (begin (set! x y) (print y))) 40)", "(begin (print x) nobody)", "(error (lambda () x))", endless[0]}
	w := withTasks(t, talking(sessionWith(0)), texts...)
	for at := range texts {
		z := wantCancelled(t, w, at+1, true)
		y := withTasks(t, talking(sessionWith(0)), slices.Delete(slices.Clone(texts), at, at+1)...)
		for range 8 {
			z, y = wantRounded(t, z, 3), wantRounded(t, y, 3)
			if toldBy(t, z) != toldBy(t, y) || !alike(z.Sys.Out, y.Sys.Out) || len(z.Sys.Heap) != len(y.Sys.Heap) || !alike(z.Sys.Insts[0].Names, y.Sys.Insts[0].Names) {
				t.Fatalf("without %s they tell %s; want %s", texts[at], toldBy(t, z), toldBy(t, y))
			}
		}
	}
}

func TestRounds(t *testing.T) {
	// no task: nothing is done
	for _, w := range []impl.World{impl.NewWorld(), talking(sessionWith(3)), worldOf(t, aBase, aMiddle, aTop)} {
		for _, fuel := range []int{math.MinInt, -1, 0, 1, 99, math.MaxInt} {
			if z := wantRounded(t, w, fuel); !alike(z, w) {
				t.Errorf("Round of no task does something: %s", shown(z))
			}
		}
	}
	// one task is what Slice makes of it
	for _, fuel := range []int{math.MinInt, -1, 0, 1, 4, 5, 6, 7, 99, math.MaxInt} {
		w := withTasks(t, impl.NewWorld(), "(+ 1 2)")
		if z, _ := impl.Slice(w, 1, fuel); !alike(wantRounded(t, w, fuel), z) {
			t.Errorf("Round by %d is %s; want %s", fuel, shown(wantRounded(t, w, fuel)), shown(z))
		}
	}
	// as many as there may be: each takes its own steps
	w := withTasks(t, impl.NewWorld(), "1", "(not 1)", "(+ 1 2)", "nobody", "(cons 1 (cons 2 3))", "(error 'e)")
	for fuel, want := range []string{
		"running|running|running|running|running|running", "running|running|running|unbound|running|running", "1|running|running|unbound|running|running",
		"1|running|running|unbound|running|error e", "1|#f|running|unbound|running|error e", "1|#f|running|unbound|running|error e", "1|#f|3|unbound|running|error e",
	} {
		wantTellings(t, impl.Dec(fuel)+" steps", wantRounded(t, w, fuel), want)
	}
	z := wantRounded(t, w, 10)
	wantTellings(t, "at last", z, "1|#f|3|unbound|(1 2 . 3)|error e")
	if z.Next != 7 || idsOf(z) != "1 2 3 4 5 6" || len(z.Sys.Units) != 6 {
		t.Error("at last it is", shown(z))
	}
	for _, w := range []impl.World{fullWorld(t), byHand(t)} {
		for fuel := range 40 {
			wantRounded(t, w, fuel)
		}
	}
}

// Without steps nothing is done to anybody.
func TestRoundsOfNoStep(t *testing.T) {
	for _, w := range []impl.World{impl.NewWorld(), fullWorld(t), byHand(t), withTasks(t, impl.NewWorld(), "1", "nobody", "(error 1)")} {
		for _, fuel := range []int{0, -1, -2, -impl.MaxSteps, -impl.MaxSteps - 1, math.MinInt, math.MinInt + 1, -1 << 32} {
			if z := wantRounded(t, w, fuel); !alike(z, w) {
				t.Errorf("Round by %d does something: %s", fuel, shown(z))
			}
		}
	}
}

// Each slice of a round takes MaxSteps steps at most; what one leaves no other one gets.
func TestNoMoreThanMaxStepsForEachOfARound(t *testing.T) {
	t.Parallel()
	w := talking(sessionWith(0))
	for i := range impl.MaxTasks {
		w = withTasks(t, w, lasting(t, impl.MaxSteps-1+i%3))
	}
	for _, fuel := range []int{impl.MaxSteps, impl.MaxSteps + 1, 1 << 32, math.MaxInt} {
		z := wantRounded(t, w, fuel)
		wantTellings(t, "most", z, "done|done|running|done|done|running")
		wantTellings(t, "one more", wantRounded(t, z, 1), "done|done|done|done|done|done")
	}
	wantTellings(t, "one less", wantRounded(t, w, impl.MaxSteps-1), "done|running|running|done|running|running")
	wantTellings(t, "two less", wantRounded(t, w, impl.MaxSteps-2), "running|running|running|running|running|running")
	z := w
	for range impl.MaxSteps / 100 {
		z = impl.Round(z, 100)
	}
	wantTellings(t, "in thirty rounds", z, "done|done|running|done|done|running")
}

// Each slice is taken in the world that the slices ahead of it left.
func TestRoundsGoInOrder(t *testing.T) {
	y := talking(sessionWith(0))
	w := withTasks(t, y, "(set! x (+ x 1))", "(set! x (* x 10))", "(print x)", "(set! x (cons x x))", "(print x)", "(set! x 'last)")
	z := wantRounded(t, w, 99)
	if out := strings.Join(z.Sys.Out, "|"); out != "20|(20 . 20)" || impl.Text(z.Sys.Heap, z.Sys.Insts[0].Vals[0]) != "last" {
		t.Error("printed is", out, shown(z.Sys.Insts[0]))
	}
	// the other way round, and without one
	w = withTasks(t, y, "(print x)", "(set! x (* x 10))", "(print x)", "(set! x (+ x 1))", "(print x)")
	if out := strings.Join(wantRounded(t, w, 99).Sys.Out, "|"); out != "1|10|11" {
		t.Error("printed is", out)
	}
	if out := strings.Join(wantRounded(t, wantCancelled(t, w, 2, true), 99).Sys.Out, "|"); out != "1|1|2" {
		t.Error("printed is", out)
	}
	// rounds of a step each: all of them have read x before the first one sets it
	w = withTasks(t, y, "(begin (set! x (+ x 1)) (print x))", "(begin (set! x (+ x 10)) (print x))", "(begin (set! x (+ x 100)) (print x))")
	for range 30 {
		w = wantRounded(t, w, 1)
	}
	if out := strings.Join(w.Sys.Out, "|"); out != "101|101|101" {
		t.Error("printed is", out)
	}
	// a name that one sets is a function that the next one calls
	w = withTasks(t, y, "(set! loop (lambda (n) (if (= n 0) 'here (loop (- n 1)))))", "(loop 5)", "(set! loop nobody)")
	wantTellings(t, "set", wantRounded(t, w, 99), "fn|here|unbound")
	// cells come one behind the other
	w = withTasks(t, y, "'(1 2)", "(lambda () x)", "'(3)")
	if z := wantRounded(t, w, 99); len(z.Sys.Heap) != 4 || z.Tasks[0].Mac.Val != pairVal(1) || z.Tasks[1].Mac.Val != fnVal(2) || z.Tasks[2].Mac.Val != pairVal(3) {
		t.Error("cells are", shown(z))
	}
}

// Ids need not be places: the round goes by where tasks stand.
func TestRoundsWhereIdsAreMissing(t *testing.T) {
	w := withTasks(t, talking(sessionWith(0)), "(print 'a)", "(print 'b)", "(print 'c)", "(print 'd)", "(print 'e)", "(print 'f)")
	for _, id := range []int{1, 3, 6} {
		w = wantCancelled(t, w, id, true)
	}
	w = withTasks(t, w, "(print 'g)", "(print 'h)")
	z := wantRounded(t, w, 99)
	if out := strings.Join(z.Sys.Out, " "); out != "b d e g h" || idsOf(z) != "2 4 5 7 8" {
		t.Error("printed is", out, "by", idsOf(z))
	}
	wantTellings(t, "with some gone", z, "b|d|e|g|h")
}

// ending are programs of each way to end, in a session with x.
var ending = map[string]string{
	"(begin (print 'a) '(1 2))": "(1 2)", "(lambda () x)": "fn", "(set! x 5)": "5", "nobody": "unbound", "(begin (print 'b) (car x))": "type",
	"(begin (set! x 1000000) (+ x 1))": "range", "(error (cons 1 2))": "error (1 . 2)", "((lambda (y) y))": "arity", "((lambda (f) (not (f f))) (lambda (f) (not (f f))))": "depth",
}

// One that has ended stays as it is, and what it told, whatever slices and rounds come.
func TestWhatHasEndedStays(t *testing.T) {
	w := talking(sessionWith(0))
	var tells []string
	for _, text := range slices.Sorted(maps.Keys(ending)) {
		w = wantRounded(t, wantPosted(t, w, text, w.Next), impl.MaxSteps)
		tells = append(tells, ending[text])
		if len(w.Tasks) == impl.MaxTasks {
			w, tells = wantCancelled(t, w, w.Tasks[0].Id, true), tells[1:]
		}
		wantTellings(t, text, w, strings.Join(tells, "|"))
		for _, fuel := range []int{math.MinInt, -1, 0, 1, 2, 99, impl.MaxSteps, math.MaxInt} {
			if z := wantRounded(t, w, fuel); !alike(z, w) {
				t.Fatalf("Round by %d of what has ended does something: %s", fuel, shown(z))
			}
			for at, task := range w.Tasks {
				if z := wantSliced(t, w, task.Id, fuel, tells[at]); !alike(z, w) {
					t.Fatalf("a slice by %d of what has ended does something: %s", fuel, shown(z))
				}
			}
		}
	}
	// not even what comes later changes it: its name has a value by then, its library another version
	lib := "(library aa) (export f) (define (f) 'old)"
	w = saidAfter(t, worldOf(t, lib), "(import aa) (define x '(1))")
	w = wantRounded(t, withTasks(t, w, "(f)", "later", "x", "(error f)", "(car 5)"), 99)
	want := "old|unbound|(1)|error fn|type"
	wantTellings(t, "ended", w, want)
	z := wantSaid(t, w, "(define later 1) (set! x 7) (define (f) 9) (define car 1)", "ok|7|ok|form")
	z = upgraded(t, z, strings.ReplaceAll(lib, "old", "new"))
	wantTellings(t, "said and changed", z, want)
	if y := wantRounded(t, z, 99); !alike(y, z) || !alike(y.Tasks, w.Tasks) {
		t.Error("what has ended is changed", shown(y.Tasks))
	}
	z = wantSwept(t, "ended", z)
	wantTellings(t, "swept", wantRounded(t, z, 99), want)
}

// One that has ended stays where others go on, and these go on as if it were not there.
func TestEndedTasksAmongOthers(t *testing.T) {
	y := talking(sessionWith(0))
	going := []string{"(begin (set! x (+ x 1)) (print x) (set! x (+ x 1)) (print x))", "(begin (print 'go) (cons x (cons 2 (cons 3 '()))))", "((lambda (a b) (begin (print a) (+ a b))) 3 4)"}
	for text, tells := range map[string]string{"'(1 2)": "(1 2)", "nobody": "unbound", "(error 'e)": "error e", "(car 1)": "type", "5": "5"} {
		for at := range len(going) + 1 {
			w := withTasks(t, y, slices.Insert(slices.Clone(going), at, text)...)
			w = wantRounded(t, wantSliced(t, w, at+1, 99, tells), 0)
			without := wantCancelled(t, w, at+1, true)
			ended := w.Tasks[at]
			for range 15 {
				w, without = wantRounded(t, w, 2), wantRounded(t, without, 2)
				if !alike(w.Tasks[at], ended) {
					t.Fatalf("%s has ended, and becomes %s", text, shown(w.Tasks[at]))
				}
				if !alike(wantCancelled(t, w, at+1, true), without) {
					t.Fatalf("with %s, which has ended, the others become %s; want %s", text, shown(w), shown(without))
				}
			}
			wantTellings(t, "the others", without, "3|(2 2 3)|7")
		}
	}
}

// One that goes wrong, or fills what can be full, leaves the others what they are: they go on, and
// end by what they ask for themselves.
func TestTasksBesideOneThatGoesWrong(t *testing.T) {
	y := talking(sessionWith(0))
	for _, wrong := range []struct{ text, tells, others string }{
		{"nobody", "unbound", "3|(1 . 2)|p"},
		{"(car (print 1))", "type", "3|(1 . 2)|p"},
		{"(error 'e)", "error e", "3|(1 . 2)|p"},
		{"((lambda (f) (not (f f))) (lambda (f) (not (f f))))", "depth", "3|(1 . 2)|p"},
		{"((lambda (f) (f f)) (lambda (f) (begin '(1 2 3 4 5 6 7 8 9) (f f))))", "full", "3|full|p"},
		{"((lambda (f) (f f)) (lambda (f) (begin (print 1) (f f))))", "full", "3|(1 . 2)|full"},
		{endless[0], "running", "3|(1 . 2)|p"},
	} {
		for at := range 4 {
			texts := slices.Insert([]string{"(begin 1 2 3 4 5 6 7 8 9 (+ 1 2))", "(begin 1 2 3 4 5 6 7 8 9 (cons 1 2))", "(begin 1 2 3 4 5 6 7 8 9 (print 'p))"}, at, wrong.text)
			w := wantRounded(t, withTasks(t, y, texts...), 4)
			w = wantSliced(t, w, at+1, impl.MaxSteps, wrong.tells)
			others := wantCancelled(t, w, at+1, true)
			wantTellings(t, "beside "+wrong.text, others, "running|running|running")
			wantTellings(t, "beside "+wrong.text, wantCancelled(t, wantRounded(t, w, 99), at+1, true), wrong.others)
			wantTellings(t, "behind "+wrong.text, wantRounded(t, others, 99), wrong.others)
		}
	}
	// with the heap as full as it may be, those that need no cell go on
	w := withTasks(t, talking(sessionWith(impl.MaxHeap)), "(+ x 1)", "(cons 1 2)", "(print x)", "(lambda () 1)", "(make pt 1 2)", "(set! x 5)")
	wantTellings(t, "a full heap", wantRounded(t, w, 99), "2|full|1|full|full|5")
	w = withTasks(t, talking(sessionWith(impl.MaxHeap-1)), "(+ x 1)", "(cons 1 2)", "(print x)", "(lambda () 1)", "(make pt 1 2)", "(set! x 5)")
	wantTellings(t, "a cell left", wantRounded(t, w, 99), "2|(1 . 2)|1|full|full|5")
	w.Sys.Out = slices.Repeat([]string{"x"}, impl.MaxOut)
	wantTellings(t, "all printed", wantRounded(t, w, 99), "2|(1 . 2)|full|full|full|5")
}

// Cancel and Round of worlds that are not right.
func TestNoneIsCancelledInWorldsThatAreNotRight(t *testing.T) {
	for _, w := range wrongWorlds(t) {
		for id := range 5 {
			if z, ok := impl.Cancel(w, id); ok || !alike(z, impl.World{}) {
				t.Fatalf("Cancel(%s, %d) = %s, %v", shown(w), id, shown(z), ok)
			}
		}
		for _, fuel := range []int{-1, 0, 1, 99} {
			if z := impl.Round(w, fuel); !alike(z, impl.World{}) {
				t.Fatalf("Round(%s, %d) = %s", shown(w), fuel, shown(z))
			}
		}
	}
}

// cutsOf hands over each way to cut so many steps.
func cutsOf(steps int, ask func(cuts []int)) {
	for marks := range 1 << (steps - 1) {
		cuts, last := []int{}, 0
		for at := 1; at <= steps; at++ {
			if at == steps || marks>>(at-1)&1 == 1 {
				cuts, last = append(cuts, at-last), at
			}
		}
		ask(cuts)
	}
}

// However a task is cut, by slices or by rounds, it ends with the same answer and the same world.
func TestATaskCutInEveryWay(t *testing.T) {
	t.Parallel()
	lib := "(library aa) (export f g) (define v 1) (define (f x) (set! v (+ v x))) (define (g) (print v))"
	y := linked(worldOf(t, lib), "aa")
	for text, want := range map[string]string{"(+ (print 1) 2)": "3", "(cons 1 'a)": "(1 . a)", "(begin (print 1) nobody)": "unbound", "(error '(1))": "error (1)", "(f 3)": "4", "(g)": "1", "(f 'a)": "type", "(if (g) 1 2)": "1"} {
		w := wantPosted(t, y, text, 1)
		steps := howMany(t, w.Sys, w.Tasks[0].Mac)
		if steps > 13 {
			t.Fatal(text, "takes", steps)
		}
		whole := wantSliced(t, w, 1, impl.MaxSteps, want)
		cutsOf(steps, func(cuts []int) {
			z := w
			for i, fuel := range cuts {
				last := "running"
				if i == len(cuts)-1 {
					last = want
				}
				answer := ""
				if i%2 == 0 {
					z, answer = impl.Slice(z, 1, fuel)
				} else {
					z = impl.Round(z, fuel)
					_, answer = impl.Slice(z, 1, 0)
				}
				if answer != last {
					t.Fatalf("%s cut as %v answers %s behind %d of them", text, cuts, answer, i+1)
				}
			}
			if !alike(z, whole) {
				t.Fatalf("%s cut as %v makes %s; want %s", text, cuts, shown(z), shown(whole))
			}
		})
	}
}

// A longer one, cut in three wherever it may be.
func TestALongTaskCutInThree(t *testing.T) {
	t.Parallel()
	y := linked(worldOf(t, aBase, aMiddle, aTop), "cc")
	y = saidAfter(t, y, "(import aa) (define (count n) (if (= n 0) (twice) (begin (bump) (print base) (count (- n 1)))))")
	w := wantPosted(t, y, "(count 2)", 1)
	steps := howMany(t, w.Sys, w.Tasks[0].Mac)
	whole := wantSliced(t, w, 1, impl.MaxSteps, "(#bb:pt 9)")
	if steps < 60 || !alike(whole.Sys.Out, names("8 9")) {
		t.Fatal("it takes", steps, shown(whole))
	}
	wantSliced(t, w, 1, steps, "(#bb:pt 9)")
	wantSliced(t, w, 1, steps-1, "running")
	for one := range steps + 1 {
		begun, _ := impl.Slice(w, 1, one)
		for two := 0; one+two <= steps; two += 1 + one%3 {
			z, answer := impl.Slice(impl.Round(begun, two), 1, steps-one-two)
			if answer != "(#bb:pt 9)" || !alike(z, whole) {
				t.Fatalf("cut at %d and %d it answers %s, and makes %s", one, one+two, answer, shown(z))
			}
		}
	}
}

// Worlds of several tasks by chance: slices of one leave the others, and each ends as it would at one go
// where none of them sees what another does.
func TestTasksSideBySide(t *testing.T) {
	t.Parallel()
	m := maker{rand.New(rand.NewSource(194))}
	apart := func(at int) string {
		n := impl.Dec(1 + m.r.Intn(4))
		return strings.ReplaceAll(m.pick("(begin (set! @ "+n+") (+ @ 1))", "((lambda (f) (f f "+n+" '())) (lambda (f n l) (if (= n 0) (set! @ l) (f f (- n 1) (cons n l)))))", "(begin (set! @ "+n+") (car @))", "(error (set! @ '(a b)))", "(begin (set! @ (lambda () @)) (@ 1))", "(begin (set! @ (make pt "+n+" @)) (field pt 0 @))"), "@", names("a b c d e f")[at])
	}
	seen := map[string]int{}
	for range 150 {
		w := talking(sessionWith(0))
		w.Sys.Insts[0].Names = slices.Concat(w.Sys.Insts[0].Names, names("a b c d e f"))
		w.Sys.Insts[0].Vals = append(w.Sys.Insts[0].Vals, slices.Repeat([]impl.Value{nilVal()}, 6)...)
		var alone []string
		for at := range 1 + m.r.Intn(impl.MaxTasks) {
			w = withTasks(t, w, apart(at))
			_, answer := impl.Slice(w, at+1, impl.MaxSteps)
			alone = append(alone, answer)
		}
		for range 1000 {
			if !strings.Contains(toldBy(t, w), "running") {
				break
			}
			before, id := w.Tasks, 1+m.r.Intn(len(w.Tasks))
			if m.r.Intn(5) == 0 {
				w = wantRounded(t, w, m.r.Intn(4))
				continue
			}
			w, _ = impl.Slice(w, id, 1+m.r.Intn(9))
			for at := range before {
				if at != id-1 && !alike(before[at], w.Tasks[at]) {
					t.Fatalf("a slice of %d changes task %d", id, at+1)
				}
			}
		}
		wantTellings(t, "side by side", w, strings.Join(alone, "|"))
		countAnswers(seen, alone)
	}
	for _, sort := range []string{"told", "type", "error", "arity"} {
		if seen[sort] < 30 {
			t.Error("one sort was hardly there", seen)
		}
	}
}

// asksFor tells whether the machine is about to look for that name in its own unit.
func asksFor(w impl.World, at int, name string) bool {
	m := w.Tasks[at].Mac
	n := w.Sys.Units[m.Unit].Prog.Nodes[m.Node]
	return m.Mode == impl.MoEval && w.Sys.Units[m.Unit].Home == 0 && n.Kind == impl.NdVar && n.S == name
}

// Whatever step the change comes behind: each look for the name that came ahead of it has the old one,
// each that comes behind it the new one.
func TestTasksByTheStepOfTheChange(t *testing.T) {
	lib := "(library aa) (export f) (define (g n) (if (= n 0) 'old (h (- n 1)))) (define (h n) (begin (print 'old) (g n))) (define (f) (g 2))"
	w := saidAfter(t, worldOf(t, lib), "(import aa)")
	changed := strings.ReplaceAll(lib, "old", "new")
	list := func(olds, all int) string {
		return strings.TrimSpace("(" + strings.Join(slices.Concat(slices.Repeat(names("old"), olds), slices.Repeat(names("new"), all-olds)), " ") + ")")
	}
	for text, all := range map[string]int{"(cons (f) '())": 1, "(cons (f) (cons (f) '()))": 2, "((lambda (k) (cons (f) (cons (k) (cons (f) '())))) f)": 3} {
		seen := map[string]int{}
		z, looks := withTasks(t, w, text), 0
		for z.Tasks[0].Mac.Mode != impl.MoEnd {
			y, report := impl.Upgrade(z, changed)
			if report.Code != impl.UpOk || !alike(y.Tasks, z.Tasks) || y.Next != z.Next {
				t.Fatalf("the change makes %s, %+v", shown(y), report)
			}
			want := list(looks, all)
			if all == 3 { // f is looked for first, and called second
				want = map[int]string{0: "(new new new)", 1: "(new old new)", 2: "(old old new)", 3: "(old old old)"}[looks]
			}
			end := wantSliced(t, y, 1, impl.MaxSteps, want)
			if olds := strings.Count(want, "old"); strings.Count(strings.Join(end.Sys.Out, " "), "old") != 2*olds {
				t.Errorf("%s with %s prints %v", text, want, end.Sys.Out)
			}
			seen[want]++
			if asksFor(z, 0, "f") {
				looks++
			}
			z, _ = impl.Slice(z, 1, 1)
		}
		wantTellings(t, text, z, list(all, all))
		if len(seen) != all+1 || looks != all {
			t.Error(text, "sees", seen)
		}
	}
}

// Several versions at once: each task ends in those into which it has come, whatever comes meanwhile.
func TestTasksOfSeveralVersions(t *testing.T) {
	lib := "(library aa) (export f) (define v '@) (define (f n) (if (= n 0) (cons v '()) (begin (print v) (f (- n 1)))))"
	user := "(library bb) (import aa) (export h) (define (h) (cons '@ (f 3)))"
	at := func(text, ver string) string { return strings.ReplaceAll(text, "@", ver) }
	w := saidAfter(t, worldOf(t, at(lib, "a1"), at(user, "b1")), "(import aa) (import bb)")
	w = wantRounded(t, withTasks(t, w, "(h)"), 25)
	w = upgraded(t, w, at(lib, "a2")) // bb is made anew with it
	w = wantRounded(t, withTasks(t, w, "(h)"), 25)
	w = upgraded(t, w, at(user, "b3"))
	w = wantRounded(t, withTasks(t, w, "(h)", "(f 3)"), 25)
	w = upgraded(t, w, at(lib, "a4"))
	w = wantRounded(t, withTasks(t, w, "(h)"), 0)
	wantAlive(t, "all of them", w, "aa", "1 2 3")
	wantAlive(t, "all of them", w, "bb", "1 2 3 4")
	for _, fuel := range []int{1, 2, 7, 50, impl.MaxSteps} {
		z := w
		for range 300 / min(fuel, 300) {
			z = impl.Round(z, fuel)
		}
		wantTellings(t, "at last", z, "(b1 a1)|(b1 a2)|(b3 a2)|(a2)|(b3 a4)")
		for ver, count := range map[string]int{"a1": 3, "a2": 9, "a4": 3} {
			if n := strings.Count(strings.Join(z.Sys.Out, " "), ver); n != count {
				t.Errorf("%s was printed %d times; want %d", ver, n, count)
			}
		}
	}
	// swept it is the same
	z := wantSwept(t, "all of them", w)
	wantTellings(t, "swept", wantRounded(t, z, impl.MaxSteps), "(b1 a1)|(b1 a2)|(b3 a2)|(a2)|(b3 a4)")
	// with all tasks gone the old ones can be come to by nobody
	for _, task := range w.Tasks {
		w = wantCancelled(t, w, task.Id, true)
	}
	wantAlive(t, "without them", w, "aa", "3")
	wantAlive(t, "without them", w, "bb", "4")
}

// Whatever is changed, by chance, tasks stay as they are.
func TestChangesLeaveTasksByChance(t *testing.T) {
	t.Parallel()
	m := maker{rand.New(rand.NewSource(195))}
	codes, going := map[int]int{}, 0
	for range 40 {
		w := impl.NewWorld()
		for range 20 {
			if len(w.Tasks) == impl.MaxTasks {
				w = wantCancelled(t, w, w.Tasks[m.r.Intn(impl.MaxTasks)].Id, true)
			}
			if z, id := impl.Post(w, m.pick("(f 1)", "(g 'a)", "(cons v w)", "(h (k 1))", "(begin (f 1) (g 2) (h 3))")); id > 0 {
				w = z
			}
			w = wantRounded(t, w, m.r.Intn(9))
			z := changeAsModelled(t, w, m.change(names("aa bb cc dd"), libsOf(w)), codes)
			if !alike(z.Tasks, w.Tasks) || z.Next != w.Next {
				t.Fatalf("tasks are %s; they were %s", shown(z.Tasks), shown(w.Tasks))
			}
			for _, task := range z.Tasks {
				if task.Mac.Mode != impl.MoEnd {
					going++
				}
			}
			w = z
			if len(w.Libs) > 0 {
				w, _ = impl.Say(w, "(import "+w.Libs[m.r.Intn(len(w.Libs))].Src.Name+")")
			}
			w = impl.Sweep(w)
		}
	}
	if codes[impl.UpOk] < 200 || codes[impl.UpMake] < 20 || going < 300 {
		t.Error("hardly anything was done", codes, going)
	}
}

// What is done to tasks is not changed by a sweep.
func TestTasksBehindASweep(t *testing.T) {
	t.Parallel()
	m := maker{rand.New(rand.NewSource(196))}
	going := 0
	for range 60 {
		w := impl.NewWorld()
		for range 12 {
			w, _ = impl.Upgrade(w, m.edition())
			w, _ = impl.Say(w, m.taken(w))
			w, _ = impl.Post(w, m.pick("(f 1)", "(cons f (f g))", "((lambda (x) (cons (f x) (g x))) 3)", "(g)"))
			if len(w.Sys.Units) > impl.MaxUnits-8 {
				w = impl.Sweep(w)
			}
			z := impl.Sweep(w)
			fuel, id := m.r.Intn(12), m.r.Intn(w.Next+1)
			w, z = wantRounded(t, w, fuel), wantRounded(t, z, fuel)
			if impl.Portrait(w) != impl.Portrait(z) {
				t.Fatalf("behind a sweep it looks as %s; want %s", impl.Portrait(z), impl.Portrait(w))
			}
			if m.r.Intn(2) == 0 {
				_, ok := modelCancel(w, id)
				w, z = wantCancelled(t, w, id, ok), wantCancelled(t, z, id, ok)
			}
			w, one := impl.Slice(w, id, fuel)
			z, two := impl.Slice(z, id, fuel)
			if one != two || impl.Portrait(w) != impl.Portrait(z) {
				t.Fatalf("behind a sweep it looks as %s; want %s", impl.Portrait(z), impl.Portrait(w))
			}
			going += len(w.Tasks)
		}
	}
	if going < 500 {
		t.Error("hardly a task was there", going)
	}
}

// asRounded is what Cancel and Round are handed.
type asRounded struct {
	World impl.World
	Id    int
	Fuel  int
}

func TestCancelAndRoundLeaveWhatIsHandedIn(t *testing.T) {
	t.Parallel()
	counts := map[bool]int{}
	for at, w := range worldsOfAllSorts(t) {
		ids := []int{0, 1, w.Next}
		for _, task := range w.Tasks {
			ids = append(ids, task.Id)
		}
		for i, id := range ids {
			given := roomyOf(asRounded{w, id, (at+i)%9 - 1})
			before := wholeOf(given)
			z, ok := impl.Cancel(given.World, given.Id)
			y := impl.Round(given.World, given.Fuel)
			if !alike(wholeOf(given), before) {
				t.Fatalf("Cancel or Round(%s, %d) changes what is handed in", shown(w), id)
			}
			if !shareNone([]any{given}, []any{z}) || !shareNone([]any{given}, []any{y}) {
				t.Fatalf("Cancel or Round(%s, %d) shares memory", shown(w), id)
			}
			counts[ok]++
			// nothing is kept, and what stands in the spare room is not looked at
			again, other := impl.Cancel(w, id)
			if !alike(again, z) || other != ok {
				t.Fatalf("Cancel(%s, %d) is another one the second time", shown(w), id)
			}
			if again := impl.Round(w, given.Fuel); !alike(again, y) {
				t.Fatalf("Round(%s, %d) is another one the second time", shown(w), given.Fuel)
			}
		}
	}
	if counts[true] < 50 || counts[false] < 50 {
		t.Error("one sort was hardly there", fmt.Sprint(counts))
	}
}
