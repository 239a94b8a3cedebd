package tests

import (
	"fmt"
	"math"
	"math/rand"
	"slices"
	"strings"
	"testing"

	"loop.example/g00765/impl"
)

// stepped is Step behind Step: a second way of Run.
func stepped(y impl.Sys, m impl.Machine, fuel int) (impl.Sys, impl.Machine, int) {
	n := 0
	for n < fuel && n < 3000 && m.Mode != impl.MoEnd {
		y, m = impl.Step(y, m)
		n++
	}
	return y, m, n
}

// wantRun asks for a run, and holds it against Step behind Step.
func wantRun(t *testing.T, what string, y impl.Sys, m impl.Machine, fuel int) (impl.Sys, impl.Machine, int) {
	t.Helper()
	wantY, wantM, want := stepped(y, m, fuel)
	z, n, taken := impl.Run(y, m, fuel)
	if taken != want || !alike(n, wantM) {
		t.Errorf("%s: Run of %d takes %d steps to\n%s; want %d to\n%s", what, fuel, taken, shown(n), want, shown(wantM))
	}
	if !alike(z, wantY) {
		t.Errorf("%s: Run of %d makes another system than Step behind Step: %s", what, fuel, shown(z))
	}
	if !impl.MachineOk(z, n) {
		t.Errorf("%s: Run of %d makes a machine that is not right: %s", what, fuel, shown(n))
	}
	return z, n, taken
}

func wantNoRun(t *testing.T, what string, y impl.Sys, m impl.Machine) {
	t.Helper()
	for _, fuel := range []int{math.MinInt, -1, 0, 1, 2, 100, impl.MaxSteps, math.MaxInt} {
		if z, n, taken := impl.Run(y, m, fuel); taken != 0 || !alike(z, impl.Sys{}) || !alike(n, impl.Machine{}) {
			t.Errorf("%s: Run of %d = %s, %s, %d; want nothing", what, fuel, shown(z), shown(n), taken)
		}
	}
	if s := impl.Answer(y, m); s != "" {
		t.Errorf("%s: Answer = %q; want nothing", what, s)
	}
}

func wantNoEval(t *testing.T, what string, y impl.Sys, home int, p impl.Prog) {
	t.Helper()
	for _, fuel := range []int{-1, 0, 1, 100, math.MaxInt} {
		if z, m := impl.Eval(y, home, p, fuel); !alike(z, impl.Sys{}) || !alike(m, impl.Machine{}) {
			t.Errorf("%s: Eval at %d with %d = %s, %s; want nothing", what, home, fuel, shown(z), shown(m))
		}
	}
}

// wantEval asks for Eval, and holds it against the unit put behind, Start and Step behind Step.
func wantEval(t *testing.T, what string, y impl.Sys, home int, p impl.Prog, fuel int) (impl.Sys, impl.Machine) {
	t.Helper()
	with := deepSys(y)
	with.Units = append(with.Units, impl.Unit{Home: home, Prog: p})
	m, ok := impl.Start(with, len(y.Units))
	if !ok {
		t.Fatalf("%s does not start", what)
	}
	wantY, wantM, _ := stepped(with, m, fuel)
	z, n := impl.Eval(y, home, p, fuel)
	if !alike(n, wantM) || !alike(z, wantY) {
		t.Errorf("%s: Eval at %d with %d is %s\nin %s; want %s\nin %s", what, home, fuel, shown(n), shown(z), shown(wantM), shown(wantY))
	}
	return z, n
}

func wantAnswer(t *testing.T, what string, y impl.Sys, m impl.Machine, want string) {
	t.Helper()
	if got := impl.Answer(y, m); got != want {
		t.Errorf("%s: Answer = %.200q; want %.200q", what, got, want)
	}
}

func TestConstantOfRuns(t *testing.T) {
	if impl.MaxSteps != 3000 {
		t.Error(impl.MaxSteps)
	}
}

// asked is what programs tell in sessionWith: a text, its answer, and what it prints.
var asked = []struct{ text, tells, out string }{
	{"7", "7", ""},
	{"#f", "#f", ""},
	{"'()", "()", ""},
	{"'sym", "sym", ""},
	{"x", "1", ""},
	{"(+ 1 (+ 2 (+ 3 4)))", "10", ""},
	{"(- (* 6 7) 50)", "-8", ""},
	{"'(1 (2 #t) . end)", "(1 (2 #t) . end)", ""},
	{"(cons 1 (cons (print 2) '()))", "(1 2)", "2"},
	{"(cdr (cdr '(1 2 3 4)))", "(3 4)", ""},
	{"(lambda (x) x)", "fn", ""},
	{"((lambda (x y) (- y x)) 3 10)", "7", ""},
	{"(((lambda (x) (lambda (y) (+ x y))) 30) 4)", "34", ""},
	{"(let ((add (lambda (n) (lambda (m) (+ n m))))) (let ((one (add 1)) (ten (add 10))) (cons (one 5) (ten 5))))", "(6 . 15)", ""},
	{"(let ((k 1)) (let ((f (lambda () k))) (let ((k 2)) (cons k (f)))))", "(2 . 1)", ""},
	{"(let ((x 5)) (set! x 6) x)", "5", ""},
	{"(begin (let ((x 5)) (set! x 6)) x)", "6", ""},
	{"(begin (set! x 1) (set! x (+ x x)) (set! x (+ x x)) x)", "4", ""},
	{"(begin (set! loop (lambda (k) (if (= k 0) 1 (* k (loop (- k 1)))))) (loop 9))", "362880", ""},
	{"(begin (set! loop (lambda (l) (if (null? l) '() (cons (* 2 (car l)) (loop (cdr l)))))) (loop '(1 2 3)))", "(2 4 6)", ""},
	{"(begin (set! loop (lambda (a b) (if (null? a) b (loop (cdr a) (cons (car a) b))))) (loop '(1 2 3) '()))", "(3 2 1)", ""},
	{"(begin (print 'a) (print '(b)) (print (print 3)))", "3", "a|(b)|3|3"},
	{"(cond ((< x 1) 'less) ((= x 1) 'one) (else 'more))", "one", ""},
	{"(and 1 (not #f) (or #f 'yes (error 'no)))", "yes", ""},
	{"(when (< 2 1) (print 'no))", "#f", ""},
	{"(let* ((x 2) (y (* x x)) (x (+ x y))) (cons x y))", "(6 . 4)", ""},
	{"(make pt 1 2)", "#:pt", ""},
	{"(let ((p (make pt 'a 'b))) (cons (field pt 1 p) (cons (is pt p) (is pt 7))))", "(b #t . #f)", ""},
	{"(eq? '(1) '(1))", "#f", ""},
	{"(let ((l '(1))) (eq? l l))", "#t", ""},
}

func TestProgramsTellWhatTheyShould(t *testing.T) {
	for _, c := range asked {
		y, m := wantEval(t, c.text, sessionWith(0), 0, meant(t, c.text), impl.MaxSteps)
		wantAnswer(t, c.text, y, m, c.tells)
		if out := strings.Join(y.Out, "|"); out != c.out || m.End != impl.EnDone || m.Mode != impl.MoEnd {
			t.Errorf("%s prints %q and ends with %s", c.text, out, shown(m))
		}
	}
}

// gone is what goes wrong in sessionWith, and what was done ahead of it: what is printed, and x behind it.
var gone = []struct {
	text, tells string
	end         int
	out, x      string
}{
	{"nobody", "unbound", impl.EnUnbound, "", "1"},
	{"n", "unbound", impl.EnUnbound, "", "1"}, // it has no value yet
	{"(begin (set! x 2) (print x) (set! nobody (print 3)))", "unbound", impl.EnUnbound, "2|3", "2"},
	{"(begin (set! x (print 4)) (make nobody 1))", "unbound", impl.EnUnbound, "4", "4"},
	{"(begin (set! x '(a b)) (print x) (car 1) (set! x 9))", "type", impl.EnType, "(a b)", "(a b)"},
	{"(cons (print 1) (+ (set! x 5) 'a))", "type", impl.EnType, "1", "5"},
	{"(x (print 1))", "type", impl.EnType, "1", "1"},
	{"(field pt 0 (print 'a))", "type", impl.EnType, "a", "1"},
	{"(begin (set! x (* 1000 1000)) (+ x 1))", "range", impl.EnRange, "", "1000000"},
	{"(begin (print 'a) (field pt 2 (make pt 1 2)))", "range", impl.EnRange, "a", "1"},
	{"(error 'a)", "error a", impl.EnUser, "", "1"},
	{"(begin (set! x 6) (print 'a) (error (cons (print 'b) x)) (print 'c))", "error (b . 6)", impl.EnUser, "a|b", "6"},
	{"(error (error 1))", "error 1", impl.EnUser, "", "1"},
	{"(error '())", "error ()", impl.EnUser, "", "1"},
	{"(error (lambda () 1))", "error fn", impl.EnUser, "", "1"},
	{"(error (make pt 1 2))", "error #:pt", impl.EnUser, "", "1"},
	{"((lambda () (print 'never)) (set! x 2))", "arity", impl.EnArity, "", "2"},
	{"((lambda (a b) (print 'never)) (print 1))", "arity", impl.EnArity, "1", "1"},
	{"(begin (print 'a) (make pt 1))", "arity", impl.EnArity, "a", "1"},
	{"(begin (set! loop (lambda (k) (set! x k) (not (loop (+ k 1))))) (loop 1))", "depth", impl.EnDepth, "", "119"},
	{"(begin (set! loop (lambda () (set! x (+ x 1)) '(1 2 3 4 5 6 7 8 9 10) (loop))) (loop))", "full", impl.EnFull, "", "31"}, // of the 30th list one cell is missing
	{"(begin (set! loop (lambda (k) (print k) (set! x k) (loop (+ k 1)))) (loop 1))", "full", impl.EnFull, printedUpTo(impl.MaxOut), "40"},
}

func printedUpTo(n int) string {
	var all []string
	for i := range n {
		all = append(all, impl.Dec(i+1))
	}
	return strings.Join(all, "|")
}

// What was done ahead of what goes wrong stays; what would come behind it is not done.
func TestWhatGoesWrongIsToldAsWhatItIs(t *testing.T) {
	seen := map[int]bool{}
	for _, c := range gone {
		y, m := wantEval(t, c.text, sessionWith(0), 0, meant(t, c.text), impl.MaxSteps)
		wantAnswer(t, c.text, y, m, c.tells)
		x := impl.Text(y.Heap, y.Insts[0].Vals[0])
		if out := strings.Join(y.Out, "|"); out != c.out || x != c.x || m.Mode != impl.MoEnd || m.End != c.end {
			t.Errorf("%s prints %q, makes x %s and ends with %s", c.text, out, x, shown(m))
		}
		if len(m.Env)+len(m.Stack) != 0 || (m.Val == impl.Value{}) == (c.end == impl.EnUser) {
			t.Errorf("%s leaves %s", c.text, shown(m))
		}
		seen[c.end] = true
	}
	for end := impl.EnUnbound; end <= impl.EnFull; end++ {
		if !seen[end] {
			t.Error("no program ends with", end)
		}
	}
}

// Cells that were made ahead of what goes wrong stay, and what hangs on them: the next program sees them.
func TestCellsStayBehindWhatGoesWrong(t *testing.T) {
	for text, kinds := range map[string][]int{
		"(begin (set! x (cons 1 2)) (set! n (lambda () x)) (set! loop (make pt x n)) (car 1))": {impl.CePair, impl.CeFn, impl.CeRec},
		"(begin (set! x (cons 1 2)) (set! n (lambda () x)) (set! loop (make pt x n)) nobody)":  {impl.CePair, impl.CeFn, impl.CeRec},
		"(begin (set! x (cons 1 2)) (set! n (lambda () x)) (set! loop (make pt x n)) (error (cons x x)))": {
			impl.CePair, impl.CeFn, impl.CeRec, impl.CePair},
	} {
		old := sessionWith(3)
		y, m := wantEval(t, text, old, 0, meant(t, text), impl.MaxSteps)
		if m.End == impl.EnDone || len(y.Heap) != 3+len(kinds) || !alike(y.Heap[:3], old.Heap) {
			t.Fatalf("%s: %s in %s", text, shown(m), shown(y.Heap))
		}
		for i, kind := range kinds {
			if y.Heap[3+i].Kind != kind {
				t.Errorf("%s: cell %d is %+v", text, 3+i, y.Heap[3+i])
			}
		}
		y, m = wantEval(t, text, y, 0, meant(t, "(cons (n) (cons (field pt 0 loop) (eq? (n) (field pt 0 loop))))"), 100)
		wantAnswer(t, text, y, m, "((1 . 2) (1 . 2) . #t)")
	}
}

// A function is at home in its unit, whatever units come behind it.
func TestProgramsOneBehindTheOther(t *testing.T) {
	y := sessionWith(0)
	for i, c := range [][2]string{
		{"(set! n (lambda (k) (lambda (m) (set! x (+ x m)) (cons k x))))", "fn"},
		{"(set! loop (n 'first))", "fn"},
		{"(loop 4)", "(first . 5)"},
		{"(let ((x 100) (k 200)) (loop 5))", "(first . 10)"},
		{"(car x)", "type"},
		{"(begin (set! n 0) (loop 1))", "(first . 11)"},
		{"(print (cons n x))", "(0 . 11)"},
	} {
		var m impl.Machine
		p := meant(t, c[0])
		y, m = wantEval(t, c[0], y, 0, p, 200)
		wantAnswer(t, c[0], y, m, c[1])
		if len(y.Units) != i+1 || !alike(y.Units[i], impl.Unit{Prog: p}) {
			t.Fatalf("behind %s the units are %s", c[0], shown(y.Units))
		}
	}
	if !slices.Equal(y.Out, []string{"(0 . 11)"}) {
		t.Error("printed", y.Out)
	}
}

// started is the session with that program, and its Start.
func started(t *testing.T, text string) (impl.Sys, impl.Machine) {
	t.Helper()
	y := sessionWith(0)
	y.Units = []impl.Unit{{Prog: meant(t, text)}}
	m, ok := impl.Start(y, 0)
	if !ok {
		t.Fatal(text, "does not start")
	}
	return y, m
}

// howMany are the steps of a machine that ends, counted one by one.
func howMany(t *testing.T, y impl.Sys, m impl.Machine) int {
	t.Helper()
	for n := range 9000 {
		if m.Mode == impl.MoEnd {
			return n
		}
		y, m = impl.Step(y, m)
	}
	t.Fatal("it does not end")
	return 0
}

// allTexts are programs of which each ends in fewer than MaxSteps steps.
func allTexts() map[string]string {
	all := map[string]string{}
	for _, c := range asked {
		all[c.text] = c.tells
	}
	for _, c := range gone {
		all[c.text] = c.tells
	}
	return all
}

func TestHowManyStepsProgramsTake(t *testing.T) {
	for text, want := range map[string]int{
		"7": 2, "nobody": 1, "(+ 1 2)": 6, "(if #t 1 2)": 5, "(begin 1 2)": 5, "((lambda () 7))": 5, "(lambda () 1)": 2,
		"(make pt 1)": 3, "(make nobody)": 1, "(error 'a)": 3, "(car 1)": 3, "((lambda (x) (+ x 1)) 4)": 11,
	} {
		y, m := started(t, text)
		if _, n, taken := wantRun(t, text, y, m, 100); taken != want || n.Mode != impl.MoEnd {
			t.Errorf("%s takes %d steps; want %d", text, taken, want)
		}
	}
}

// Fuel of just as many steps as there are is enough, one less is not, and none of it is taken beyond the end.
func TestFuelAtItsEdges(t *testing.T) {
	t.Parallel()
	for text, tells := range allTexts() {
		y, m := started(t, text)
		need := howMany(t, y, m)
		for _, fuel := range []int{math.MinInt, math.MinInt + 1, -impl.MaxSteps, -2, -1, 0, 1, 2, need - 2, need - 1, need, need + 1, need + 2, impl.MaxSteps, math.MaxInt} {
			z, n, taken := wantRun(t, text, y, m, fuel)
			if want := min(max(fuel, 0), need); taken != want {
				t.Errorf("%s with %d takes %d steps of %d", text, fuel, taken, need)
			}
			if fuel < need {
				wantAnswer(t, fmt.Sprint(text, " with ", fuel, " of ", need), z, n, "running")
			} else {
				wantAnswer(t, fmt.Sprint(text, " with ", fuel, " of ", need), z, n, tells)
			}
			if fuel <= 0 && (!alike(z, y) || !alike(n, m)) {
				t.Errorf("%s with %d is not as it was", text, fuel)
			}
			wantEval(t, text, sessionWith(0), 0, meant(t, text), fuel)
		}
	}
}

// One step at once: where it stands is the same, whoever takes it there.
func TestEachCountOfSteps(t *testing.T) {
	for _, text := range []string{"7", "nobody", "(+ 1 (* 2 3))", "(begin (set! x '(1 2)) (print (car x)) (error (lambda (y) (cons x y))))", "(let* ((p (make pt 1 2)) (f (lambda () (field pt 1 p)))) (or #f (f)))", counting("(cons k (begin 1 @))", 6)} {
		y, m := started(t, text)
		need := howMany(t, y, m)
		z, n := y, m
		for fuel := range need + 3 {
			got, mac, taken := impl.Run(y, m, fuel)
			if taken != min(fuel, need) || !alike(got, z) || !alike(mac, n) {
				t.Fatalf("%s: Run of %d takes %d steps to %s; want %s", text, fuel, taken, shown(mac), shown(n))
			}
			z, n = impl.Step(z, n)
		}
	}
}

func TestARunInTwoParts(t *testing.T) {
	for text, tells := range allTexts() {
		y, m := started(t, text)
		whole, end, need := impl.Run(y, m, impl.MaxSteps)
		if need > 300 {
			continue
		}
		for cut := range need + 2 {
			z, n, first := impl.Run(y, m, cut)
			z, n, second := impl.Run(z, n, impl.MaxSteps)
			if first+second != need || first != min(cut, need) || !alike(z, whole) || !alike(n, end) {
				t.Fatalf("%s cut at %d of %d: %d and %d steps, to %s", text, cut, need, first, second, shown(n))
			}
			wantAnswer(t, text, z, n, tells)
		}
	}
}

func TestARunInManyParts(t *testing.T) {
	for text, tells := range allTexts() {
		y, m := started(t, text)
		whole, end, need := impl.Run(y, m, impl.MaxSteps)
		for _, fuel := range []int{1, 7, 64, need} {
			z, n, all := y, m, 0
			for n.Mode != impl.MoEnd {
				var taken int
				z, n, taken = impl.Run(z, n, fuel)
				if all += taken; taken == 0 || taken > fuel {
					t.Fatalf("%s by %d takes %d steps", text, fuel, taken)
				}
			}
			if all != need || !alike(z, whole) || !alike(n, end) {
				t.Fatalf("%s by %d: %d steps of %d, to %s", text, fuel, all, need, shown(n))
			}
			wantAnswer(t, text, z, n, tells)
		}
	}
}

// endless are programs that do not end, and fill nothing.
var endless = []string{
	"((lambda (f) (f f)) (lambda (f) (f f)))",
	"(begin (set! loop (lambda () (loop))) (loop))",
	"(begin (set! loop (lambda (k) (set! x (- 1 k)) (begin 1 (if #t (loop x) 2)))) (loop 0))",
	"(cons 1 (begin (set! loop (lambda (k) (cond (#f 1) (else (print 'never) 2)) (loop k))) (begin (set! loop (lambda () (when #t (loop)))) (loop))))",
}

func TestNoMoreThanMaxSteps(t *testing.T) {
	t.Parallel()
	for _, text := range endless {
		y, m := started(t, text)
		for _, fuel := range []int{impl.MaxSteps - 1, impl.MaxSteps, impl.MaxSteps + 1, 2 * impl.MaxSteps, 1 << 32, 1<<32 + 1, math.MaxInt} {
			z, n, taken := wantRun(t, text, y, m, fuel)
			if taken != min(fuel, 3000) {
				t.Errorf("%s with %d takes %d steps", text, fuel, taken)
			}
			wantAnswer(t, text, z, n, "running")
			z, n = wantEval(t, text, sessionWith(0), 0, meant(t, text), fuel)
			wantAnswer(t, text, z, n, "running")
		}
		// the next run goes on where this one was stopped
		z, n, _ := impl.Run(y, m, math.MaxInt)
		z, n, taken := wantRun(t, text, z, n, math.MaxInt)
		if taken != 3000 || n.Mode == impl.MoEnd || !impl.MachineOk(z, n) {
			t.Errorf("%s: the second run takes %d steps", text, taken)
		}
		z, n, taken = impl.Run(z, n, math.MinInt)
		if taken != 0 {
			t.Errorf("%s: without fuel %d steps are taken", text, taken)
		}
		wantAnswer(t, text, z, n, "running")
	}
}

// lasting is a program that tells done in just so many steps.
func lasting(t *testing.T, steps int) string {
	t.Helper()
	y, m := started(t, counting("@", 0))
	none := howMany(t, y, m)
	y, m = started(t, counting("@", 1))
	each := howMany(t, y, m) - none
	left := steps - none - 1 // of the begin around it
	times := (left - 5) / each
	left -= times * each
	pad := ""
	if left%2 == 1 {
		pad, left = "(if #t 1 2) ", left-5
	}
	return "(begin " + pad + repeated("1", left/2) + " " + counting("@", times) + ")"
}

func TestProgramsThatEndAtMaxSteps(t *testing.T) {
	t.Parallel()
	for steps := impl.MaxSteps - 2; steps <= impl.MaxSteps+3; steps++ {
		text := lasting(t, steps)
		y, m := started(t, text)
		if n := howMany(t, y, m); n != steps {
			t.Fatalf("%s takes %d steps, not %d", text, n, steps)
		}
		for _, fuel := range []int{steps - 1, steps, steps + 1, impl.MaxSteps, math.MaxInt} {
			want := min(fuel, steps, 3000)
			z, n, taken := wantRun(t, text, y, m, fuel)
			tells := "done"
			if want < steps {
				tells = "running"
			}
			if taken != want {
				t.Errorf("%d steps with %d: %d are taken", steps, fuel, taken)
			}
			wantAnswer(t, fmt.Sprint(steps, " steps with ", fuel), z, n, tells)
			z, n = impl.Eval(sessionWith(0), 0, meant(t, text), fuel)
			wantAnswer(t, fmt.Sprint(steps, " steps with ", fuel), z, n, tells)
		}
		z, n, _ := impl.Run(y, m, math.MaxInt)
		z, n, taken := impl.Run(z, n, math.MaxInt)
		if taken != max(steps-3000, 0) {
			t.Errorf("%d steps: the second run takes %d", steps, taken)
		}
		wantAnswer(t, "the second run", z, n, "done")
	}
}

// What is done ahead of the last step stays, where that is the one at which the fuel is spent.
func TestWhatWasDoneStaysWhereStepsRunOut(t *testing.T) {
	t.Parallel()
	y, m := started(t, "(begin (set! loop (lambda (k) (set! x k) (if (< k 30) (print k) 0) (if (< k 200) (cons k k) 0) (loop (+ k 1)))) (loop 1))")
	last := 0
	for fuel := 0; fuel <= impl.MaxSteps+1; fuel += 97 {
		z, n, taken := wantRun(t, "a long loop", y, m, fuel)
		if taken != min(fuel, impl.MaxSteps) {
			t.Errorf("%d steps of %d", taken, fuel)
		}
		wantAnswer(t, "a long loop", z, n, "running")
		k := z.Insts[0].Vals[0].N
		if k < last || k > 1 && (len(z.Out) < min(k-1, 29) || len(z.Heap) < min(k, 200)) {
			t.Errorf("behind %d steps x is %d, %d texts are printed and %d cells there", fuel, k, len(z.Out), len(z.Heap))
		}
		last = k
	}
	if last < 50 {
		t.Error("it came no further than", last)
	}
}

// One that has ended stays as it is, in whatever state it was handed in.
func TestRunOfWhatHasEnded(t *testing.T) {
	y := withUnit(t, 0, aRow)
	for _, m := range eachMode(y)[2:] {
		for end := impl.EnDone; end <= impl.EnFull; end++ {
			m.End = end
			bare := m
			bare.Env, bare.Stack = nil, nil
			for _, n := range []impl.Machine{m, bare} {
				for _, fuel := range []int{math.MinInt, -1, 0, 1, 2, impl.MaxSteps, impl.MaxSteps + 1, math.MaxInt} {
					if z, o, taken := impl.Run(y, n, fuel); taken != 0 || !alike(z, y) || !alike(o, n) {
						t.Errorf("Run of one that has ended takes %d steps to %s", taken, shown(o))
					}
				}
			}
		}
	}
	for text, tells := range allTexts() {
		y, m := started(t, text)
		y, m, _ = impl.Run(y, m, impl.MaxSteps)
		z, n, taken := impl.Run(y, m, impl.MaxSteps)
		if taken != 0 || !alike(z, y) || !alike(n, m) {
			t.Errorf("%s runs on behind its end", text)
		}
		wantAnswer(t, text, z, n, tells)
	}
}

// Where a limit is met by what was handed in, the next step tells.
func TestRunsAtTheLimitsOfASystem(t *testing.T) {
	for room := range 3 {
		y := sessionWith(impl.MaxHeap - room)
		for _, c := range []struct {
			text, tells string
			cells       int
		}{{"(cons 1 2)", "(1 . 2)", 1}, {"(lambda () 1)", "fn", 1}, {"(make pt 1 2)", "#:pt", 1}, {"(cons 1 (cons 2 3))", "(1 2 . 3)", 2}, {"((lambda (k) (cons k k)) 1)", "(1 . 1)", 2}} {
			z, m := wantEval(t, c.text, y, 0, meant(t, c.text), 100)
			if c.cells > room {
				c.tells = "full"
			}
			wantAnswer(t, fmt.Sprint(c.text, " with room for ", room), z, m, c.tells)
			if len(z.Heap) != impl.MaxHeap-max(room-c.cells, 0) {
				t.Errorf("%s with room for %d leaves %d cells", c.text, room, len(z.Heap))
			}
		}
		y = sessionWith(0)
		y.Out = slices.Repeat([]string{"old"}, impl.MaxOut-room)
		z, m := wantEval(t, "print", y, 0, meant(t, "(begin (print 1) (print 2))"), 100)
		tells := "full"
		if room == 2 {
			tells = "2"
		}
		wantAnswer(t, fmt.Sprint("print with room for ", room), z, m, tells)
		if len(z.Out) != impl.MaxOut {
			t.Errorf("print with room for %d leaves %d texts", room, len(z.Out))
		}
	}
}

// Frames wait in all MaxStack places, and none in one more.
func TestRunsAtTheLimitOfTheStack(t *testing.T) {
	most := impl.MaxStack - 2 // (= k 0) in its if needs two above those that wait
	for times, tells := range map[int]string{most - 1: "#f", most: "#t", most + 1: "depth", most + 2: "depth"} {
		text := counting("(not @)", times)
		y, m := wantEval(t, text, sessionWith(0), 0, meant(t, text), impl.MaxSteps)
		wantAnswer(t, text, y, m, tells)
	}
}

func TestEvalPutsItsUnitBehind(t *testing.T) {
	y := someSys()
	p := meant(t, "(cons v 1)")
	for fuel := range 9 {
		z, m := wantEval(t, "a unit more", y, 2, p, fuel)
		if len(z.Units) != 4 || !alike(z.Units[:3], y.Units) || !alike(z.Units[3], impl.Unit{Home: 2, Prog: p}) {
			t.Errorf("the units are %s", shown(z.Units))
		}
		if !alike(z.Insts, y.Insts) || !alike(z.Out, y.Out) || !alike(z.Heap[:6], y.Heap) {
			t.Error("the system does not stay")
		}
		if m.Unit != 3 {
			t.Error("it runs unit", m.Unit)
		}
	}
	for _, fuel := range []int{0, -1, math.MinInt} {
		z, m := wantEval(t, "no fuel", y, 1, p, fuel)
		if start, ok := impl.Start(z, 3); !ok || !alike(start, m) || m.Mode != impl.MoEval || m.Node != p.Root {
			t.Errorf("Eval without fuel is %s", shown(m))
		}
		wantAnswer(t, "no fuel", z, m, "running")
	}
}

func TestHomesOfEval(t *testing.T) {
	y := someSys()
	for home, tells := range []string{"4", "4", "five", "6"} {
		z, m := wantEval(t, "v", y, home, meant(t, "v"), 10)
		wantAnswer(t, fmt.Sprint("v at ", home), z, m, tells)
		if z.Units[3].Home != home {
			t.Error("it is at home at", z.Units[3].Home)
		}
	}
	for _, home := range []int{-1, -2, 4, 5, impl.MaxInsts, 1 << 32, 1<<32 + 1, math.MaxInt, math.MinInt} {
		wantNoEval(t, "no such home", y, home, meant(t, "7"))
	}
	wantNoEval(t, "the session is alone", impl.NewSys(), 1, meant(t, "7"))
	wantNoEval(t, "the session is alone", impl.NewSys(), -1, meant(t, "7"))
	full := impl.NewSys()
	full.Insts = append(full.Insts, slices.Repeat([]impl.Inst{{Lib: "aa", Ver: 1}}, impl.MaxInsts-1)...)
	z, m := wantEval(t, "the last home", full, impl.MaxInsts-1, meant(t, "7"), 10)
	wantAnswer(t, "the last home", z, m, "7")
	wantNoEval(t, "one past the last home", full, impl.MaxInsts, meant(t, "7"))
}

// What a program sets, makes and finds is that of its Home.
func TestEvalIsAtHome(t *testing.T) {
	y := someSys()
	z, m := wantEval(t, "set!", y, 1, meant(t, "(begin (set! v 'new) (make pt v 2))"), 100)
	wantAnswer(t, "set!", z, m, "#aa:pt")
	wantKnown(t, "its own", z, 1, "v", symVal("new"))
	wantKnown(t, "by a Link", z, 0, "v", symVal("new"))
	wantKnown(t, "another Inst of that library", z, 3, "v", numVal(6))
	for text, tells := range map[string]string{"(set! v 1)": "unbound", "(set! x 1)": "1", "(make pt 1 2)": "unbound", "a": "unbound", "w": "five", "p": "(a 2)"} {
		z, m := wantEval(t, text, y, 0, meant(t, text), 100)
		wantAnswer(t, text, z, m, tells)
	}
}

func TestHowManyUnitsEvalTakes(t *testing.T) {
	for _, n := range []int{0, 1, impl.MaxUnits - 2, impl.MaxUnits - 1, impl.MaxUnits, impl.MaxUnits + 1} {
		y := sessionWith(0)
		y.Units = slices.Repeat([]impl.Unit{{Prog: program(variable("q"))}}, n)
		if n >= impl.MaxUnits {
			wantNoEval(t, fmt.Sprint(n, " units"), y, 0, meant(t, "(+ x 1)"))
			continue
		}
		z, m := wantEval(t, fmt.Sprint(n, " units"), y, 0, meant(t, "(+ x 1)"), 100)
		wantAnswer(t, fmt.Sprint(n, " units"), z, m, "2")
		if len(z.Units) != n+1 {
			t.Error("behind", n, "units there are", len(z.Units))
		}
	}
	y := sessionWith(0)
	for n := range impl.MaxUnits {
		var m impl.Machine
		y, m = impl.Eval(y, 0, meant(t, "(set! x (+ x 1))"), 100)
		wantAnswer(t, "one behind the other", y, m, impl.Dec(n+2))
	}
	wantNoEval(t, "one behind the other", y, 0, meant(t, "7"))
}

// wrongProgs are programs that are not right.
func wrongProgs() map[string]impl.Prog {
	return map[string]impl.Prog{
		"no program":   {},
		"another Root": {Nodes: program(variable("x")).Nodes, Root: 1},
		"a Root below": {Nodes: program(variable("x")).Nodes, Root: -1},
		"no name":      program(variable("if")),
		"its own Arg":  program(binding(0)),
		"an odd kind":  program(impl.Node{Kind: 12}),
		"two roots":    program(variable("x"), variable("x")),
		"too many":     over(impl.Node{Kind: impl.NdSeq}, impl.MaxNodes),
		"twice an Arg": program(variable("x"), sequence(0, 0)),
		"many values":  over(impl.Node{Kind: impl.NdCall}, 10),
		"a great word": program(impl.Node{Kind: impl.NdNum, N: impl.MaxWord + 1}),
		"a field more": program(impl.Node{Kind: impl.NdNum, N: 7, S: "x"}),
	}
}

func TestEvalOfProgramsThatAreNotRight(t *testing.T) {
	for what, p := range wrongProgs() {
		wantNoEval(t, what, sessionWith(0), 0, p)
		wantNoEval(t, what, someSys(), 3, p)
	}
	most := over(impl.Node{Kind: impl.NdSeq}, impl.MaxNodes-1)
	y, m := wantEval(t, "as many nodes as there may be", impl.NewSys(), 0, most, 100)
	if m.Mode != impl.MoEnd && impl.Answer(y, m) != "running" {
		t.Error("it is", shown(m))
	}
	for _, p := range ofEachKind() {
		wantEval(t, "a program of each kind", sessionWith(0), 0, p, 100)
	}
}

func TestRunEvalAndAnswerInSystemsThatAreNotRight(t *testing.T) {
	for what, spoil := range spoilers() {
		y := withUnit(t, 0, aRow)
		all := eachMode(y)
		spoil(&y)
		for _, m := range all {
			wantNoRun(t, what, y, m)
		}
		for home := -1; home <= 4; home++ {
			wantNoEval(t, what, y, home, meant(t, "7"))
		}
	}
	wantNoRun(t, "nothing", impl.Sys{}, impl.Machine{})
	wantNoRun(t, "nothing", impl.Sys{}, impl.Machine{Mode: impl.MoEnd})
	wantNoRun(t, "no unit", impl.NewSys(), impl.Machine{Mode: impl.MoEval})
	wantNoEval(t, "nothing", impl.Sys{}, 0, meant(t, "7"))
	wantNoEval(t, "units without an Inst", impl.Sys{Units: someUnits()}, 0, meant(t, "7"))
}

// A system with a function of a unit that is not there is not right, though it would be with the unit behind it.
func TestEvalAsksTheSystemWithoutItsUnit(t *testing.T) {
	p := meant(t, "(lambda (k) k)")
	y := impl.NewSys()
	y.Heap = []impl.Cell{{Kind: impl.CeFn, A: 0, B: p.Root}}
	with := deepSys(y)
	with.Units = []impl.Unit{{Prog: p}}
	wantSys(t, "without it", y, false)
	wantSys(t, "with it", with, true)
	wantNoEval(t, "a function of the unit to come", y, 0, p)
	wantEval(t, "it is there", with, 0, p, 10)
}

func TestRunAndAnswerOfMachinesThatAreNotRight(t *testing.T) {
	y := withUnit(t, 0, aRow)
	for _, m := range eachMode(y) {
		for what, spoil := range map[string]func(m *impl.Machine){
			"no mode":      func(m *impl.Machine) { m.Mode = 0 },
			"a fourth":     func(m *impl.Machine) { m.Mode = 4 },
			"no unit":      func(m *impl.Machine) { m.Unit = 4 },
			"below":        func(m *impl.Machine) { m.Unit = -1 },
			"no node":      func(m *impl.Machine) { m.Node = len(y.Units[3].Prog.Nodes) },
			"an End below": func(m *impl.Machine) { m.End = -1 },
			"an End above": func(m *impl.Machine) { m.End = impl.EnFull + 1 },
			"no cell":      func(m *impl.Machine) { m.Val = pairVal(99) },
			"no name":      func(m *impl.Machine) { m.Env[0].Name = "if" },
			"no value":     func(m *impl.Machine) { m.Env[1].Val = impl.Value{} },
			"a Frame":      func(m *impl.Machine) { m.Stack[0].Unit = 4 },
			"its node":     func(m *impl.Machine) { m.Stack[0].Node = 2 },
			"its Vals":     func(m *impl.Machine) { m.Stack[1].Vals[0] = impl.Value{} },
			"its Env":      func(m *impl.Machine) { m.Stack[1].Env[0].Name = "" },
			"too many":     func(m *impl.Machine) { m.Stack = slices.Repeat(m.Stack[:1], impl.MaxStack+1) },
		} {
			n := deepMachine(m)
			spoil(&n)
			wantNoRun(t, what, y, n)
		}
	}
	one := eachMode(y)
	one[0].Val = numVal(1)
	wantNoRun(t, "a value where none is", y, one[0])
	one[1].Val = impl.Value{}
	wantNoRun(t, "no value where one is", y, one[1])
}

func TestAnswerWhereItHasNotEnded(t *testing.T) {
	y := withUnit(t, 0, aRow)
	for _, m := range eachMode(y)[:2] {
		for end := impl.EnDone; end <= impl.EnFull; end++ {
			m.End = end
			wantAnswer(t, "it has not ended", y, m, "running")
		}
	}
	y, m := started(t, "7")
	for _, want := range []string{"running", "running", "7", "7"} {
		wantAnswer(t, "step by step", y, m, want)
		y, m = impl.Step(y, m)
	}
}

// Of two ends alone the value is told; VaNone has an empty text.
func TestAnswerOfEachEnd(t *testing.T) {
	y := withUnit(t, 0, aRow)
	texts := textsByCells(y.Heap)
	for _, v := range append(oneOfEach(), impl.Value{}) {
		text := ""
		if v != (impl.Value{}) {
			text = texts(v)
		}
		for end, want := range []string{text, "unbound", "type", "range", "error " + text, "arity", "depth", "full"} {
			for _, m := range eachMode(y)[2:] {
				m.Val, m.End = v, end
				wantAnswer(t, fmt.Sprintf("%d beside %+v", end, v), y, m, want)
				m.Env, m.Stack = nil, nil
				wantAnswer(t, fmt.Sprintf("%d beside %+v", end, v), y, m, want)
			}
		}
	}
}

// A text is cut at MaxTell bytes; the word ahead of it does not count.
func TestAnswersOfLongTexts(t *testing.T) {
	for _, n := range []int{impl.MaxTell - 2, impl.MaxTell - 1, impl.MaxTell, impl.MaxTell + 1} {
		y := withUnit(t, 0, aRow)
		y.Heap[5].S = strings.Repeat("s", n)
		text := ("#" + y.Heap[5].S)[:min(n+1, 100000)]
		m := eachMode(y)[2]
		m.Val = recVal(5)
		wantAnswer(t, fmt.Sprint(n, " bytes"), y, m, text)
		m.End = impl.EnUser
		wantAnswer(t, fmt.Sprint(n, " bytes"), y, m, "error "+text)
	}
}

// modelRun is Run by a step in the document's own words.
func modelRun(y impl.Sys, m impl.Machine, fuel int) (impl.Sys, impl.Machine, int) {
	n := 0
	for ; n < min(fuel, 3000) && m.Mode != impl.MoEnd; n++ {
		y, m = modelStep(y, m)
	}
	return y, m, n
}

// modelAnswer is Answer of a right machine.
func modelAnswer(y impl.Sys, m impl.Machine) string {
	if m.Mode != impl.MoEnd {
		return "running"
	}
	text := impl.Text(y.Heap, m.Val)
	return []string{text, "unbound", "type", "range", "error " + text, "arity", "depth", "full"}[m.End]
}

func wantModelRun(t *testing.T, what string, y impl.Sys, m impl.Machine, fuel int, seen map[string]int) {
	t.Helper()
	wantY, wantM, want := modelRun(y, m, fuel)
	z, n, taken := impl.Run(y, m, fuel)
	if taken != want || !alike(z, wantY) || !alike(n, wantM) {
		t.Fatalf("%s: Run of %d from %s\ntakes %d steps to %s\nwant %d to %s", what, fuel, shown(m), taken, shown(n), want, shown(wantM))
	}
	answer := impl.Answer(z, n)
	if answer != modelAnswer(wantY, wantM) {
		t.Fatalf("%s: Answer of %s = %q", what, shown(n), answer)
	}
	cut := fuel / 2
	half, mac, first := impl.Run(y, m, cut)
	half, mac, second := impl.Run(half, mac, max(fuel, 0)-max(cut, 0))
	if first+second != want || !alike(half, z) || !alike(mac, n) {
		t.Fatalf("%s: Run of %d in two parts takes %d and %d steps to %s", what, fuel, first, second, shown(mac))
	}
	word, _, _ := strings.Cut(answer, " ")
	if n.Mode == impl.MoEnd && n.End == impl.EnDone {
		word = "done"
	}
	seen[word]++
}

// Promise 10, of machines of all sorts, held against the document's own words.
func TestRunsByChance(t *testing.T) {
	t.Parallel()
	r := rand.New(rand.NewSource(110))
	seen := map[string]int{}
	for range 250 {
		s := sceneByChance(r)
		for range 4 {
			wantModelRun(t, "a machine", s.y, s.machine(), r.Intn(60)-4, seen)
		}
		for unit := range s.y.Units {
			m, _ := impl.Start(s.y, unit)
			m.Env = s.env()
			wantModelRun(t, "a unit", s.y, m, r.Intn(120), seen)
		}
	}
	for _, word := range []string{"running", "done", "unbound", "type", "range", "error", "arity", "depth", "full"} {
		if seen[word] == 0 {
			t.Errorf("%q was never there: %v", word, seen)
		}
	}
}

// Programs as they are written, one behind the other in one system, right ones and others.
func TestEvalByChance(t *testing.T) {
	t.Parallel()
	r := rand.New(rand.NewSource(111))
	counts := map[bool]int{}
	for range 60 {
		s := sceneByChance(r)
		for range 12 {
			d, _ := impl.Read(s.form(1 + r.Intn(4)))
			p, code := impl.Expand(d, 0)
			home := r.Intn(len(s.y.Insts)+2) - 1
			right := code == impl.XpOk && home >= 0 && home < len(s.y.Insts) && len(s.y.Units) < 60
			counts[right]++
			if !right {
				wantNoEval(t, "not right", s.y, home, p)
				continue
			}
			s.y, _ = wantEval(t, "right", s.y, home, p, r.Intn(200))
		}
	}
	if counts[true] < 100 || counts[false] < 100 {
		t.Error("one sort was hardly there", counts)
	}
}

// Machines spoilt in one part: either not right, and nothing is told, or right, and they run.
func TestRunsOfSpoiltMachinesByChance(t *testing.T) {
	t.Parallel()
	r := rand.New(rand.NewSource(112))
	counts := map[bool]int{}
	seen := map[string]int{}
	for i := range 600 {
		s := sceneByChance(r)
		m := s.machine()
		s.spoilMachine(&m)
		if i%7 == 0 {
			spoil(r, &s.y)
		}
		right := rightMachine(s.y, m)
		if counts[right]++; right {
			wantModelRun(t, "spoilt", s.y, m, r.Intn(20), seen)
		} else {
			wantNoRun(t, "spoilt", s.y, m)
		}
	}
	if counts[true] < 50 || counts[false] < 50 {
		t.Error("one sort was hardly there", counts)
	}
}

func TestRunEvalAndAnswerLeaveTheirArguments(t *testing.T) {
	t.Parallel()
	p := roomyOf(meant(t, "(begin (set! x (cons x 'symbol)) (print x) (lambda (k) (f x k)))"))
	before := wholeOf(p)
	casesOfSteps(t, func(y impl.Sys, m impl.Machine) {
		sysBefore, macBefore := wholeOf(y), wholeOf(m)
		for _, fuel := range []int{-1, 0, 1, 5, 60} {
			z, n, taken := impl.Run(y, m, fuel)
			// what stands in the spare room is not looked at
			zz, nn, again := impl.Run(deepSys(y), deepMachine(m), fuel)
			if taken != again || !alike(z, zz) || !alike(n, nn) {
				t.Errorf("Run of %s is another one without spare room", shown(m))
			}
			z, n = impl.Eval(y, 0, p, fuel)
			zz, nn = impl.Eval(deepSys(y), 0, meant(t, "(begin (set! x (cons x 'symbol)) (print x) (lambda (k) (f x k)))"), fuel)
			if !alike(z, zz) || !alike(n, nn) {
				t.Errorf("Eval in %s is another one without spare room", shown(y))
			}
		}
		impl.Answer(y, m)
		if !alike(wholeOf(y), sysBefore) || !alike(wholeOf(m), macBefore) || !alike(wholeOf(p), before) {
			t.Errorf("what is handed in is changed by a run of %s", shown(m))
		}
	})
}

func TestRunEvalAndAnswerTellNewMemory(t *testing.T) {
	t.Parallel()
	long, words := 0, 0
	p := roomyOf(meant(t, "(begin (print 'symbol) (let ((x 'symbol) (y '(a b))) (print y) (cons x (lambda (k) (f x y k)))))"))
	casesOfSteps(t, func(y impl.Sys, m impl.Machine) {
		for _, fuel := range []int{0, 1, 2, 9, 14, 25, 60} {
			z, n, _ := impl.Run(y, m, fuel)
			if !shareNone([]any{y, m}, []any{z, n}) {
				t.Errorf("what is told shares memory with what is handed in, or with itself: Run of %s by %d", shown(m), fuel)
			}
			long += len(roomsOf(false, z, n))
			word := impl.Answer(z, n)
			if words += len(roomsOf(false, word)); !shareNone([]any{z, n}, []any{word}) {
				t.Errorf("Answer shares memory with %s", shown(n))
			}
			z, n = impl.Eval(y, 0, p, fuel)
			if !shareNone([]any{y, p}, []any{z, n}) {
				t.Errorf("what is told shares memory with what is handed in, or with itself: Eval in %s by %d", shown(y), fuel)
			}
		}
	})
	if long == 0 || words == 0 {
		t.Error("nothing was told")
	}
}

// No two lists of one answer share memory, even where those that are handed in do, or where one value went to many places.
func TestRunTellsListsThatShareNone(t *testing.T) {
	y := withUnit(t, 0, aRow)
	one := binds("x", numVal(1), "y", symVal("symbol"))
	f := impl.Frame{Unit: 3, Node: y.Units[3].Prog.Root, Vals: vals(numVal(1), fnVal(3)), Env: one}
	y.Insts[1].Names, y.Insts[1].Vals = y.Insts[0].Names, y.Insts[0].Vals
	y.Insts[2].Types = y.Insts[0].Types
	y.Units = append(y.Units, y.Units...)
	for mode := impl.MoEval; mode <= impl.MoEnd; mode++ {
		m := impl.Machine{Mode: mode, Unit: 3, Node: f.Node, Env: one, Stack: []impl.Frame{f, f}}
		if mode == impl.MoBack {
			m.Val = numVal(1)
		}
		for fuel := range 12 {
			if z, n, _ := impl.Run(y, m, fuel); !impl.MachineOk(z, n) || !shareNone([]any{y, m}, []any{z, n}) {
				t.Errorf("lists are shared behind %d steps of %s", fuel, shown(m))
			}
		}
	}
	p := y.Units[3].Prog
	z, n := impl.Eval(y, 0, p, 5)
	if !impl.MachineOk(z, n) || !shareNone([]any{y, p}, []any{z, n}) {
		t.Error("lists are shared behind Eval of a program that is there already")
	}
	for _, text := range []string{counting("(cons k (begin 1 @))", 9), "(let ((a 'symbol) (b '(1 2))) (let ((f (lambda (k) (cons a (cons b k))))) (f (f (f (make pt f a))))))"} {
		y, m := started(t, text)
		need := howMany(t, y, m)
		for fuel := range need + 1 {
			if z, n, _ := impl.Run(y, m, fuel); !shareNone([]any{y, m}, []any{z, n}) {
				t.Fatalf("lists are shared behind %d steps of %s", fuel, text)
			}
		}
	}
}

// Nothing is kept: the same run has the same answer, whatever was asked between.
func TestRunKeepsNothing(t *testing.T) {
	y, m := started(t, "(begin (set! loop (lambda (k) (set! x (cons k x)) (print x) (if (< k 5) (loop (+ k 1)) x))) (loop 0))")
	first, end, need := impl.Run(y, m, impl.MaxSteps)
	for i := range 4 {
		impl.Run(y, m, 10*i)
		impl.Run(impl.Sys{}, impl.Machine{}, 3)
		impl.Eval(first, 0, meant(t, "(set! x 0)"), 50)
		if z, n, taken := impl.Run(y, m, impl.MaxSteps); taken != need || !alike(z, first) || !alike(n, end) {
			t.Fatal("a run has another answer when it is asked again")
		}
	}
	wantAnswer(t, "again", first, end, "(5 4 3 2 1 0 . 1)")
}
