package tests

import (
	"fmt"
	"math"
	"math/rand"
	"reflect"
	"slices"
	"strings"
	"testing"
	"unsafe"

	"loop.example/g00765/impl"
)

// alike: are both the same, field by field? An empty list and nil are.
func alike(a, b any) bool { return partsAlike(reflect.ValueOf(a), reflect.ValueOf(b)) }

func partsAlike(a, b reflect.Value) bool {
	switch a.Kind() {
	case reflect.Slice:
		if a.Len() != b.Len() {
			return false
		}
		for i := range a.Len() {
			if !partsAlike(a.Index(i), b.Index(i)) {
				return false
			}
		}
		return true
	case reflect.Struct:
		for i := range a.NumField() {
			if !partsAlike(a.Field(i), b.Field(i)) {
				return false
			}
		}
		return true
	}
	return a.Equal(b)
}

// binds are names with values, in turns.
func binds(all ...any) []impl.Bind {
	var env []impl.Bind
	for i := 0; i < len(all); i += 2 {
		env = append(env, impl.Bind{Name: all[i].(string), Val: all[i+1].(impl.Value)})
	}
	return env
}

// deepMachine is m once more, with no list of it shared.
func deepMachine(m impl.Machine) impl.Machine {
	m.Env, m.Stack = slices.Clone(m.Env), slices.Clone(m.Stack)
	for i, f := range m.Stack {
		m.Stack[i].Vals, m.Stack[i].Env = slices.Clone(f.Vals), slices.Clone(f.Env)
	}
	return m
}

// withUnit is someSys with one unit more, at home in the Inst told; that unit is number 3.
func withUnit(t *testing.T, home int, text string) impl.Sys {
	t.Helper()
	y := someSys()
	y.Insts[2].Types = []impl.Type{{Name: "q", Size: 1}}
	y.Units = append(y.Units, impl.Unit{Home: home, Prog: meant(t, text)})
	return y
}

// waiting is a Frame that has nothing to do with unit 3: what a step should leave can be seen by it.
func waiting() impl.Frame {
	return impl.Frame{Unit: 1, Node: 3, Vals: nil, Env: binds("w", pairVal(1), "k", symVal("k"))}
}

// atRoot stands ahead of the Root of unit 3, with a Frame below.
func atRoot(y impl.Sys, env []impl.Bind) impl.Machine {
	return impl.Machine{Mode: impl.MoEval, Unit: 3, Node: y.Units[3].Prog.Root, Env: env, Stack: []impl.Frame{waiting()}}
}

// backAt brings v to a Frame at the Root of unit 3, which has vals; the machine itself stands elsewhere.
func backAt(y impl.Sys, env []impl.Bind, v impl.Value, had ...impl.Value) impl.Machine {
	top := impl.Frame{Unit: 3, Node: y.Units[3].Prog.Root, Vals: had, Env: env}
	return impl.Machine{Mode: impl.MoBack, Unit: 1, Node: 2, Env: binds("n", numVal(-1)), Val: v, Stack: []impl.Frame{waiting(), top}}
}

// isTold is m as it tells v.
func isTold(m impl.Machine, v impl.Value) impl.Machine {
	m.Mode, m.Val = impl.MoBack, v
	return m
}

// hasEnded is m as it ends.
func hasEnded(m impl.Machine, code int, v impl.Value) impl.Machine {
	return impl.Machine{Mode: impl.MoEnd, Unit: m.Unit, Node: m.Node, Val: v, End: code}
}

// hasGone is m as it goes to a node.
func hasGone(m impl.Machine, unit, node int, env []impl.Bind) impl.Machine {
	m.Mode, m.Val, m.Unit, m.Node, m.Env = impl.MoEval, impl.Value{}, unit, node, env
	return m
}

// below is m without its top Frame.
func below(m impl.Machine) impl.Machine {
	m.Stack = slices.Clone(m.Stack[:len(m.Stack)-1])
	return m
}

func shown(x any) string { return fmt.Sprintf("%.900s", fmt.Sprintf("%+v", x)) }

// wantStep asks for a step, and for what promise 9 says of each.
func wantStep(t *testing.T, what string, y impl.Sys, m impl.Machine, wantY impl.Sys, wantM impl.Machine) {
	t.Helper()
	if !impl.MachineOk(y, m) {
		t.Fatalf("%s: the machine is not right: %s", what, shown(m))
	}
	wantY, wantM = deepSys(wantY), deepMachine(wantM)
	z, n := impl.Step(y, m)
	if !alike(n, wantM) {
		t.Errorf("%s: the machine is\n%s; want\n%s", what, shown(n), shown(wantM))
	}
	if !alike(z, wantY) {
		t.Errorf("%s: the system is not as it should be:\nheap %s\ninsts %s\nout %s", what, shown(z.Heap[min(len(z.Heap), 6):]), shown(z.Insts), shown(z.Out))
	}
	wantKept(t, what, y, m, z, n)
}

// wantTold asks that a step tells v and leaves the system as it is.
func wantTold(t *testing.T, what string, y impl.Sys, m impl.Machine, v impl.Value) {
	t.Helper()
	after := m
	if m.Mode == impl.MoBack {
		after = below(m)
	}
	wantStep(t, what, y, m, y, isTold(after, v))
}

// wantEnd asks that a step ends with that code and no value, and leaves the system as it is.
func wantEnd(t *testing.T, what string, y impl.Sys, m impl.Machine, code int) {
	t.Helper()
	wantStep(t, what, y, m, y, hasEnded(m, code, impl.Value{}))
}

// wantKept is promise 9 of one step from y and m to z and n.
func wantKept(t *testing.T, what string, y impl.Sys, m impl.Machine, z impl.Sys, n impl.Machine) {
	t.Helper()
	if !impl.MachineOk(z, n) {
		t.Errorf("%s: a right machine is not right any more: %s", what, shown(n))
	}
	if len(z.Heap) < len(y.Heap) || len(z.Heap) > len(y.Heap)+1 || !alike(z.Heap[:len(y.Heap)], y.Heap) {
		t.Errorf("%s: the cells do not stay", what)
	}
	if len(z.Out) < len(y.Out) || len(z.Out) > len(y.Out)+1 || !alike(z.Out[:len(y.Out)], y.Out) {
		t.Errorf("%s: what was printed does not stay", what)
	}
	if !alike(z.Units, y.Units) || !alike(z.Insts, withSet(y, m)) {
		t.Errorf("%s: units or Insts do not stay", what)
	}
	if m.Mode == impl.MoEnd && (!alike(z, y) || !alike(n, m)) {
		t.Errorf("%s: one that has ended does not stay", what)
	}
}

// withSet are the Insts of y with what a NdSet changes in this step, where one is at the top.
func withSet(y impl.Sys, m impl.Machine) []impl.Inst {
	insts := deepSys(y).Insts
	if m.Mode != impl.MoBack || len(m.Stack) == 0 {
		return insts
	}
	top := m.Stack[len(m.Stack)-1]
	n := y.Units[top.Unit].Prog.Nodes[top.Node]
	home := insts[y.Units[top.Unit].Home]
	if i := slices.Index(home.Names, n.S); n.Kind == impl.NdSet && i >= 0 {
		home.Vals[i] = m.Val
	}
	return insts
}

func TestConstantsOfMachines(t *testing.T) {
	all := []int{impl.MaxStack, impl.MoEval, impl.MoBack, impl.MoEnd}
	if !slices.Equal(all, []int{120, 1, 2, 3}) {
		t.Error(all)
	}
}

func wantNoStart(t *testing.T, what string, y impl.Sys, unit int) {
	t.Helper()
	if m, ok := impl.Start(y, unit); ok || !alike(m, impl.Machine{}) {
		t.Errorf("%s: Start of unit %d = %s, %v; want nothing, false", what, unit, shown(m), ok)
	}
}

func TestStart(t *testing.T) {
	y := someSys()
	for unit, root := range []int{1, 3, 0} {
		m, ok := impl.Start(y, unit)
		if !ok || !alike(m, impl.Machine{Mode: impl.MoEval, Unit: unit, Node: root}) {
			t.Errorf("Start of unit %d = %s, %v", unit, shown(m), ok)
		}
		if !impl.MachineOk(y, m) {
			t.Errorf("unit %d starts with a machine that is not right", unit)
		}
	}
	for _, unit := range []int{-1, -2, 3, 4, 60, 1 << 32, 1<<32 + 1, math.MaxInt, math.MinInt} {
		wantNoStart(t, "no such unit", y, unit)
	}
	wantNoStart(t, "no units", impl.NewSys(), 0)
	wantNoStart(t, "the unit behind", impl.Sys{Insts: impl.NewSys().Insts, Units: someUnits()[:1]}, 1)
	full := impl.NewSys()
	full.Units = slices.Repeat([]impl.Unit{{Prog: program(variable("q"))}}, impl.MaxUnits)
	if m, ok := impl.Start(full, impl.MaxUnits-1); !ok || m.Unit != impl.MaxUnits-1 {
		t.Error("the last unit of as many as there may be does not start", m, ok)
	}
}

// spoilers make a right system one that is not, in just one part each.
func spoilers() map[string]func(y *impl.Sys) {
	return map[string]func(y *impl.Sys){
		"a cell":        func(y *impl.Sys) { y.Heap[0].Vals = nil },
		"the session":   func(y *impl.Sys) { y.Insts[0].Lib = "q" },
		"a version":     func(y *impl.Sys) { y.Insts[1].Ver = 0 },
		"a value":       func(y *impl.Sys) { y.Insts[1].Vals[0] = pairVal(99) },
		"a Link":        func(y *impl.Sys) { y.Insts[0].Links[0].Inst = 9 },
		"a Type":        func(y *impl.Sys) { y.Insts[0].Types[0].Size = 9 },
		"a Home":        func(y *impl.Sys) { y.Units[0].Home = 4 },
		"a program":     func(y *impl.Sys) { y.Units[0].Prog.Nodes[0].S = "if" },
		"a function":    func(y *impl.Sys) { y.Heap[2].B = 0 },
		"texts":         func(y *impl.Sys) { y.Out = make([]string, impl.MaxOut+1) },
		"too many":      func(y *impl.Sys) { y.Units = append(y.Units, slices.Repeat(y.Units[2:3], impl.MaxUnits)...) },
		"no Insts":      func(y *impl.Sys) { y.Insts = nil },
		"another Root":  func(y *impl.Sys) { y.Units[2].Prog.Root = 1 },
		"a full heap":   func(y *impl.Sys) { y.Heap = append(y.Heap, slices.Repeat(y.Heap[:1], impl.MaxHeap-5)...) },
		"a name's twin": func(y *impl.Sys) { y.Insts[1].Names[1] = "v" },
	}
}

func TestStartOfSystemsThatAreNotRight(t *testing.T) {
	for what, spoil := range spoilers() {
		y := someSys()
		spoil(&y)
		for unit := -1; unit < 4; unit++ {
			wantNoStart(t, what, y, unit)
		}
	}
	wantNoStart(t, "nothing", impl.Sys{}, 0)
	wantNoStart(t, "units without an Inst", impl.Sys{Units: someUnits()}, 0)
}

// aRow has a node of each kind that can wait, and of each that cannot.
const aRow = "(begin (if x 1 2) (set! x #t) (f x 1) (cons '() 'a) (make pt) (make pt 1 2 3 4 5 6 7 8) (lambda (x) y) (f))"

// nodeOf is the number of the first node of that Kind and, where s is told, of that S.
func nodeOf(t *testing.T, p impl.Prog, kind int, s string) int {
	t.Helper()
	i := slices.IndexFunc(p.Nodes, func(n impl.Node) bool { return n.Kind == kind && (s == "" || n.S == s) })
	if i < 0 {
		t.Fatal("no such node", kind, s)
	}
	return i
}

func wantMachine(t *testing.T, what string, y impl.Sys, m impl.Machine, want bool) {
	t.Helper()
	if ok := impl.MachineOk(y, m); ok != want {
		t.Errorf("%s: MachineOk = %v; want %v: %s", what, ok, want, shown(m))
	}
	z, n := impl.Step(y, m)
	if !want && (!alike(z, impl.Sys{}) || !alike(n, impl.Machine{})) {
		t.Errorf("%s: a step of a machine that is not right is %s", what, shown(n))
	}
	if want && !impl.MachineOk(z, n) {
		t.Errorf("%s: a step of a right machine is %s", what, shown(n))
	}
}

// eachMode are right machines in withUnit, with something in each part.
func eachMode(y impl.Sys) []impl.Machine {
	one := impl.Machine{Mode: impl.MoEval, Unit: 3, Node: 2, Env: binds("x", numVal(1), "x", pairVal(0)), Stack: []impl.Frame{waiting(), {Unit: 3, Node: y.Units[3].Prog.Root, Vals: vals(numVal(1), fnVal(3)), Env: binds("q", recVal(4))}}}
	back, end, bare := deepMachine(one), deepMachine(one), deepMachine(one)
	back.Mode, back.Val = impl.MoBack, symVal("a")
	end.Mode, end.Val = impl.MoEnd, recVal(5)
	bare.Mode = impl.MoEnd
	return []impl.Machine{one, back, end, bare}
}

func TestMachinesThatAreRight(t *testing.T) {
	y := withUnit(t, 0, aRow)
	for _, m := range eachMode(y) {
		wantMachine(t, "each mode", y, m, true)
		for end := impl.EnDone; end <= impl.EnFull; end++ {
			m.End = end
			wantMachine(t, "each end", y, m, true)
		}
		m.Env, m.Stack = nil, nil
		wantMachine(t, "nothing waits", y, m, true)
		m.Env, m.Stack = []impl.Bind{}, []impl.Frame{}
		wantMachine(t, "empty lists", y, m, true)
	}
	bare := impl.NewSys()
	wantMachine(t, "no unit", bare, impl.Machine{Mode: impl.MoEval}, false)
	wantMachine(t, "nothing", impl.Sys{}, impl.Machine{}, false)
	bare.Units = []impl.Unit{{Prog: program(variable("q"))}}
	wantMachine(t, "one unit", bare, impl.Machine{Mode: impl.MoEval}, true)
	wantMachine(t, "no mode", bare, impl.Machine{}, false)
}

func TestModesAndEndsOfMachines(t *testing.T) {
	y := withUnit(t, 0, aRow)
	for _, m := range eachMode(y) {
		for _, mode := range []int{0, -1, 4, 5, 1 << 32, 1<<32 + 1, math.MaxInt, math.MinInt} {
			n := m
			n.Mode = mode
			wantMachine(t, "another mode", y, n, false)
		}
		for _, end := range []int{-1, -2, 8, 9, 1 << 32, math.MaxInt, math.MinInt} {
			n := m
			n.End = end
			wantMachine(t, "another end", y, n, false)
		}
	}
}

func TestValuesOfMachines(t *testing.T) {
	y := withUnit(t, 0, aRow)
	right, wrong := valsOfAllSorts()
	all := eachMode(y)
	for i, v := range slices.Concat(right, wrong) {
		none, is := v == impl.Value{}, i < len(right)
		for k, want := range []bool{none, is, is || none} {
			m := all[k]
			m.Val = v
			wantMachine(t, fmt.Sprintf("the value %+v", v), y, m, want)
		}
	}
}

func TestPlacesOfMachines(t *testing.T) {
	y := withUnit(t, 0, aRow)
	for _, m := range eachMode(y) {
		for unit := -2; unit <= 5; unit++ {
			for node := -2; node <= len(y.Units[3].Prog.Nodes)+1; node++ {
				n := m
				n.Unit, n.Node = unit, node
				want := unit >= 0 && unit < 4 && node >= 0 && node < len(y.Units[unit].Prog.Nodes)
				wantMachine(t, fmt.Sprint("unit ", unit, " node ", node), y, n, want)
			}
		}
		for _, far := range []int{1 << 32, 1<<32 + 1, math.MaxInt, math.MinInt} {
			n, o := m, m
			n.Unit, o.Node = far, far
			wantMachine(t, "a unit far off", y, n, false)
			wantMachine(t, "a node far off", y, o, false)
		}
	}
}

// eachEnv asks a change of the Env of the machine itself, and of each of its Frames.
func eachEnv(t *testing.T, what string, y impl.Sys, want bool, env []impl.Bind) {
	t.Helper()
	for _, m := range eachMode(y) {
		n := deepMachine(m)
		n.Env = env
		wantMachine(t, what, y, n, want)
		for i := range m.Stack {
			n := deepMachine(m)
			n.Stack[i].Env = env
			wantMachine(t, what+" of Frame "+impl.Dec(i), y, n, want)
		}
	}
}

func TestEnvsOfMachines(t *testing.T) {
	y := withUnit(t, 0, aRow)
	for _, s := range slices.Concat([]string{"", "x", "%t", "7", "#t", "%u", "x y", "X", "abcdefghijklmnop", "abcdefghijklmnopq"}, words, primitives()) {
		eachEnv(t, "the name "+s, y, readsAsName(s), binds(s, numVal(1)))
		eachEnv(t, "the last name "+s, y, readsAsName(s), binds("x", nilVal(), "y", nilVal(), s, numVal(1)))
	}
	right, wrong := valsOfAllSorts()
	for i, v := range slices.Concat(right, wrong) {
		eachEnv(t, fmt.Sprintf("the value %+v", v), y, i < len(right), binds("x", v))
		eachEnv(t, fmt.Sprintf("the last value %+v", v), y, i < len(right), binds("x", nilVal(), "x", v))
		eachEnv(t, fmt.Sprintf("the first value %+v", v), y, i < len(right), binds("x", v, "y", nilVal()))
	}
	many := slices.Repeat(binds("x", numVal(1)), 1<<12)
	eachEnv(t, "one name many times", y, true, many)
	many[1<<11].Val = pairVal(99)
	eachEnv(t, "one of many is not right", y, false, many)
}

func TestHowManyFrames(t *testing.T) {
	y := withUnit(t, 0, aRow)
	for _, m := range eachMode(y) {
		for _, n := range []int{0, 1, 2, impl.MaxStack - 1, impl.MaxStack, impl.MaxStack + 1, 2 * impl.MaxStack, 1 << 12} {
			m.Stack = slices.Repeat([]impl.Frame{waiting()}, n)
			wantMachine(t, impl.Dec(n)+" Frames", y, m, n <= impl.MaxStack)
		}
		m.Stack = slices.Repeat([]impl.Frame{waiting()}, impl.MaxStack)
		for _, at := range []int{0, 1, 60, impl.MaxStack - 1} {
			n := deepMachine(m)
			n.Stack[at].Node = 2
			wantMachine(t, "one of many is not right", y, n, false)
		}
	}
}

// Only five kinds of nodes wait, with less Vals than Args, and two of these with none.
func TestFramesOfEachKind(t *testing.T) {
	y := withUnit(t, 0, aRow)
	for i, node := range y.Units[3].Prog.Nodes {
		most := -1
		switch node.Kind {
		case impl.NdIf, impl.NdSet:
			most = 0
		case impl.NdCall, impl.NdPrim, impl.NdSeq:
			most = len(node.Args) - 1
		}
		for n := range len(node.Args) + 3 {
			f := impl.Frame{Unit: 3, Node: i, Vals: slices.Repeat(vals(numVal(1)), n)}
			for _, m := range eachMode(y) {
				for _, stack := range [][]impl.Frame{{f}, {f, waiting()}, {waiting(), f}} {
					m.Stack = stack
					wantMachine(t, fmt.Sprint(n, " Vals at node ", i, " of kind ", node.Kind), y, m, n <= most)
				}
			}
		}
	}
}

func TestFramesSpoiltInOnePart(t *testing.T) {
	y := withUnit(t, 0, aRow)
	root := y.Units[3].Prog.Root
	right, wrong := valsOfAllSorts()
	for _, m := range eachMode(y) {
		ask := func(what string, want bool, f impl.Frame) {
			t.Helper()
			for at := range 2 {
				n := deepMachine(m)
				n.Stack[at] = f
				wantMachine(t, what, y, n, want)
			}
		}
		for _, unit := range []int{-1, 0, 1, 2, 4, 5, 1 << 32, 1<<32 + 3, math.MaxInt, math.MinInt} {
			ask("another unit", false, impl.Frame{Unit: unit, Node: root})
		}
		for _, node := range []int{-1, root + 1, root + 2, 1 << 32, 1<<32 + root, math.MaxInt, math.MinInt} {
			ask("another node", false, impl.Frame{Unit: 3, Node: node})
		}
		for i, v := range slices.Concat(right, wrong) {
			ask("a Val", i < len(right), impl.Frame{Unit: 3, Node: root, Vals: vals(v)})
			ask("the last Val", i < len(right), impl.Frame{Unit: 3, Node: root, Vals: vals(nilVal(), nilVal(), v)})
			ask("the first Val", i < len(right), impl.Frame{Unit: 3, Node: root, Vals: vals(v, nilVal(), nilVal())})
		}
	}
}

func TestMachinesInSystemsThatAreNotRight(t *testing.T) {
	for what, spoil := range spoilers() {
		for i := range 4 {
			y := withUnit(t, 0, aRow)
			m := eachMode(y)[i]
			wantMachine(t, what, y, m, true)
			spoil(&y)
			wantMachine(t, what, y, m, false)
		}
	}
}

func TestStepOfConstants(t *testing.T) {
	for text, want := range map[string]impl.Value{
		"7": numVal(7), "0": numVal(0), "-1000000": numVal(-impl.MaxWord), "1000000": numVal(impl.MaxWord),
		"#t": boolVal(1), "#f": boolVal(0), "'()": nilVal(), "'a": symVal("a"), "'if": symVal("if"), "'abcdefghijklmnop": symVal("abcdefghijklmnop"),
	} {
		y := withUnit(t, 1, text)
		wantTold(t, text, y, atRoot(y, binds("a", numVal(3))), want)
		bare := atRoot(y, nil)
		bare.Stack = nil
		wantTold(t, text, y, bare, want)
		full := atRoot(y, nil)
		full.Stack = slices.Repeat([]impl.Frame{waiting()}, impl.MaxStack)
		wantTold(t, text+" with a full Stack", y, full, want)
	}
}

func TestStepOfVariables(t *testing.T) {
	for _, c := range []struct {
		home int
		name string
		env  []impl.Bind
		want impl.Value
	}{
		{0, "x", binds("x", numVal(1)), numVal(1)},
		{0, "x", binds("x", numVal(1), "y", numVal(2)), numVal(1)},
		{0, "x", binds("x", numVal(1), "x", numVal(2)), numVal(2)}, // the last one hides the others
		{0, "x", binds("x", numVal(1), "x", boolVal(0), "y", numVal(3)), boolVal(0)},
		{0, "x", binds("x", numVal(2), "y", numVal(5), "x", numVal(1)), numVal(1)},
		{0, "v", binds("x", numVal(1), "v", recVal(4)), recVal(4)}, // Env ahead of a Link
		{0, "z", binds("z", numVal(9)), numVal(9)},                 // and of a name without a value
		{0, "nobody", binds("nobody", fnVal(2)), fnVal(2)},
		{0, "x", nil, nilVal()},
		{0, "x", binds("y", numVal(1)), nilVal()},
		{0, "g", nil, fnVal(2)},
		{0, "v", nil, numVal(4)}, // by a Link
		{0, "w", nil, symVal("five")},
		{1, "v", nil, numVal(4)}, // the unit's own Home counts
		{2, "v", nil, symVal("five")},
		{3, "v", nil, numVal(6)},
		{2, "a", nil, numVal(4)},
	} {
		y := withUnit(t, c.home, c.name)
		wantTold(t, fmt.Sprint(c.name, " at ", c.home, " in ", c.env), y, atRoot(y, c.env), c.want)
	}
	for _, c := range []struct {
		home int
		name string
	}{{0, "nobody"}, {0, "z"}, {0, "u"}, {0, "no"}, {0, "mz"}, {0, "a"}, {1, "x"}, {1, "u"}, {3, "p"}, {0, "q"}, {1, "aa"}} {
		y := withUnit(t, c.home, c.name)
		wantEnd(t, c.name, y, atRoot(y, binds("other", numVal(1))), impl.EnUnbound)
		bare := atRoot(y, nil)
		bare.Stack = nil
		wantEnd(t, c.name, y, bare, impl.EnUnbound)
	}
	y := withUnit(t, 1, "x")
	y.Units[3].Prog.Nodes[0].S = "%t"
	wantTold(t, "the hidden name", y, atRoot(y, binds("%t", boolVal(1))), boolVal(1))
	wantEnd(t, "the hidden name", y, atRoot(y, nil), impl.EnUnbound)
}

func TestStepOfFunctions(t *testing.T) {
	for _, c := range []struct {
		text  string
		env   []impl.Bind
		names string
		vals  []impl.Value
	}{
		{"(lambda (x) x)", nil, "", nil},
		{"(lambda (x) x)", binds("x", numVal(1)), "", nil}, // its own name
		{"(lambda () x)", nil, "", nil},                    // not in Env
		{"(lambda () x)", binds("x", numVal(1)), "x", vals(numVal(1))},
		{"(lambda () x)", binds("x", numVal(1), "x", numVal(2)), "x", vals(numVal(2))},
		{"(lambda () x)", binds("x", numVal(1), "y", numVal(2)), "x", vals(numVal(1))},
		{"(lambda (x) (f y x))", binds("x", numVal(1), "y", symVal("a"), "f", fnVal(3)), "f y", vals(fnVal(3), symVal("a"))},
		{"(lambda (x) (f y x))", binds("y", symVal("a")), "y", vals(symVal("a"))},
		{"(lambda (x) (g (lambda (z) (cons z w)) y))", binds("z", numVal(1), "y", numVal(2), "w", recVal(5), "g", numVal(4), "g", numVal(5)), "g w y", vals(numVal(5), recVal(5), numVal(2))},
		{"(lambda () (set! x y))", binds("x", numVal(1), "y", boolVal(0)), "y", vals(boolVal(0))}, // what is set is not closed over
		{"(lambda () (or x y))", binds("y", numVal(2), "x", numVal(1), "%t", numVal(9)), "y x", vals(numVal(2), numVal(1))},
	} {
		y := withUnit(t, 1, c.text)
		m := atRoot(y, c.env)
		z := deepSys(y)
		z.Heap = append(z.Heap, impl.Cell{Kind: impl.CeFn, A: 3, B: m.Node, Names: names(c.names), Vals: c.vals})
		wantStep(t, fmt.Sprint(c.text, " in ", c.env), y, m, z, isTold(m, fnVal(6)))
	}
}

// filled is y with so many cells.
func filled(y impl.Sys, cells int) impl.Sys {
	z := deepSys(y)
	z.Heap = append(z.Heap, slices.Repeat([]impl.Cell{pairCell(nilVal(), numVal(8))}, cells-len(z.Heap))...)
	return z
}

// added is y with a cell more.
func added(y impl.Sys, c impl.Cell) impl.Sys {
	z := deepSys(y)
	z.Heap = append(z.Heap, c)
	return z
}

func TestEdgeOfTheHeapAtFunctions(t *testing.T) {
	y := filled(withUnit(t, 1, "(lambda () x)"), impl.MaxHeap-1)
	m := atRoot(y, binds("x", pairVal(impl.MaxHeap-2)))
	wantStep(t, "one less", y, m, added(y, impl.Cell{Kind: impl.CeFn, A: 3, B: m.Node, Names: names("x"), Vals: vals(pairVal(impl.MaxHeap - 2))}), isTold(m, fnVal(impl.MaxHeap-1)))
	y = filled(y, impl.MaxHeap)
	wantEnd(t, "full", y, atRoot(y, nil), impl.EnFull)
	// what takes no cell goes on
	y.Units[3].Prog = program(impl.Node{Kind: impl.NdNum, N: 7})
	wantTold(t, "full", y, atRoot(y, nil), numVal(7))
}

// waits are forms that leave a Frame.
var waits = []string{"(if x 1 2)", "(set! x y)", "(begin x 1)", "(begin 1 2 3)", "(f)", "(f x y)", "((lambda (x) x) 1)", "(let ((x 1)) y)", "(cons x y)", "(print x)", "(error x)", "(make pt x)", "(field pt 0 x)", "(is pt x)", "(car x)", "(or x y)"}

func TestStepLeavesAFrame(t *testing.T) {
	for _, text := range waits {
		for _, n := range []int{0, 1, impl.MaxStack - 1, impl.MaxStack} {
			y := withUnit(t, 1, text)
			m := atRoot(y, binds("x", numVal(1), "x", pairVal(0), "y", symVal("a")))
			m.Stack = slices.Repeat([]impl.Frame{waiting()}, n)
			if n == impl.MaxStack {
				wantEnd(t, text+" with a full Stack", y, m, impl.EnDepth)
				continue
			}
			after := hasGone(m, 3, y.Units[3].Prog.Nodes[m.Node].Args[0], m.Env)
			after.Stack = append(slices.Clone(m.Stack), impl.Frame{Unit: 3, Node: m.Node, Env: m.Env})
			wantStep(t, fmt.Sprint(text, " above ", n), y, m, y, after)
		}
	}
}

// A node inside of a program is gone to as well as its Root, whatever the order of its nodes.
func TestStepGoesToTheFirstArgOfANodeInside(t *testing.T) {
	y := withUnit(t, 0, aRow)
	for i, n := range y.Units[3].Prog.Nodes {
		if len(n.Args) == 0 || n.Kind == impl.NdLam {
			continue
		}
		m := atRoot(y, nil)
		m.Node = i
		after := hasGone(m, 3, n.Args[0], nil)
		after.Stack = append(after.Stack, impl.Frame{Unit: 3, Node: i})
		wantStep(t, "node "+impl.Dec(i), y, m, y, after)
	}
	p := program(variable("b"), variable("a"), impl.Node{Kind: impl.NdPrim, S: "cons", Args: []int{1, 0}})
	y.Units[3].Prog = p
	m := atRoot(y, nil)
	after := hasGone(m, 3, 1, nil)
	after.Stack = append(after.Stack, impl.Frame{Unit: 3, Node: 2})
	wantStep(t, "the first Arg stands second", y, m, y, after)
	m = backAt(y, nil, numVal(1))
	after = hasGone(m, 3, 0, nil)
	after.Stack = slices.Clone(m.Stack)
	after.Stack[1].Vals = vals(numVal(1))
	wantStep(t, "the second Arg stands first", y, m, y, after)
}

// make is the only primitive that has no Args; it is done at once, and no Frame is needed.
func TestStepOfAPrimitiveWithoutArgs(t *testing.T) {
	for _, c := range []struct {
		home int
		typ  string
		size int
		code int
	}{{1, "v", 0, impl.EnDone}, {1, "pt", 2, impl.EnArity}, {1, "nobody", 0, impl.EnUnbound}, {0, "v", 0, impl.EnUnbound}, {3, "v", 0, impl.EnUnbound}, {0, "q", 8, impl.EnArity}} {
		for _, n := range []int{0, 1, impl.MaxStack} {
			for _, cells := range []int{6, impl.MaxHeap - 1, impl.MaxHeap} {
				y := filled(withUnit(t, c.home, "(make "+c.typ+")"), cells)
				m := atRoot(y, binds("x", numVal(1)))
				m.Stack = slices.Repeat([]impl.Frame{waiting()}, n)
				what := fmt.Sprint("make ", c.typ, " at ", c.home, " above ", n, " in ", cells)
				switch {
				case c.code != impl.EnDone:
					wantEnd(t, what, y, m, c.code)
				case cells == impl.MaxHeap:
					wantEnd(t, what, y, m, impl.EnFull)
				default:
					wantStep(t, what, y, m, added(y, recCell("aa:v", 1)), isTold(m, recVal(cells)))
				}
			}
		}
	}
}

func TestStepBackWithNothingWaiting(t *testing.T) {
	y := withUnit(t, 0, "(f x)")
	for _, v := range oneOfEach() {
		m := impl.Machine{Mode: impl.MoBack, Unit: 3, Node: 1, Env: binds("x", numVal(1)), Val: v}
		wantStep(t, "at the end", y, m, y, hasEnded(m, impl.EnDone, v))
		m.End = impl.EnFull
		wantStep(t, "at the end", y, m, y, hasEnded(m, impl.EnDone, v))
	}
}

func TestStepBackToIf(t *testing.T) {
	y := withUnit(t, 1, "(if x y (f z))")
	env := binds("x", numVal(1), "y", fnVal(3))
	args := y.Units[3].Prog.Nodes[y.Units[3].Prog.Root].Args
	for _, v := range oneOfEach() {
		m, to := backAt(y, env, v), args[1]
		if v == boolVal(0) {
			to = args[2]
		}
		wantStep(t, fmt.Sprintf("if %+v", v), y, m, y, hasGone(below(m), 3, to, env))
	}
}

func TestStepBackToSet(t *testing.T) {
	for _, c := range []struct {
		home int
		name string
		at   int
	}{{0, "x", 0}, {0, "g", 1}, {0, "z", 2}, {1, "v", 0}, {1, "u", 1}, {2, "v", 0}, {2, "r", 2}, {3, "v", 0}} {
		for _, v := range oneOfEach() {
			y := withUnit(t, c.home, "(set! "+c.name+" 1)")
			m := backAt(y, binds(c.name, numVal(9)), v) // what is bound stays
			z := deepSys(y)
			z.Insts[c.home].Vals[c.at] = v
			wantStep(t, fmt.Sprint("set! ", c.name, " at ", c.home), y, m, z, isTold(below(m), v))
		}
	}
	// a Link is no name of its own, nor is a type, nor what is bound
	for _, c := range []struct {
		home int
		name string
	}{{0, "v"}, {0, "p"}, {0, "me"}, {0, "q"}, {0, "nobody"}, {1, "x"}, {1, "pt"}, {2, "a"}, {3, "p"}, {3, "bound"}} {
		y := withUnit(t, c.home, "(set! "+c.name+" 1)")
		wantEnd(t, fmt.Sprint("set! ", c.name, " at ", c.home), y, backAt(y, binds("bound", numVal(9)), numVal(5)), impl.EnUnbound)
	}
}

// What is set is seen by the next step, at its own place and behind a Link.
func TestWhatIsSetIsSeen(t *testing.T) {
	y := withUnit(t, 1, "(set! v 'new)")
	m := backAt(y, nil, symVal("new"))
	y, _ = impl.Step(y, m)
	wantKnown(t, "its own", y, 1, "v", symVal("new"))
	wantKnown(t, "by a Link", y, 0, "v", symVal("new"))
	wantKnown(t, "another one of that library", y, 3, "v", numVal(6))
}

// The last one of a row is gone to without a Frame.
func TestStepBackToRows(t *testing.T) {
	for _, parts := range []int{2, 3, 4, 9, 20} {
		y := withUnit(t, 1, "(begin "+repeated("x", parts)+")")
		env := binds("x", numVal(1))
		args := y.Units[3].Prog.Nodes[parts].Args
		for have := range parts {
			had := slices.Repeat(vals(symVal("old")), have)
			m := backAt(y, env, symVal("new"), had...)
			what := fmt.Sprint("part ", have, " of ", parts)
			switch {
			case have == parts-1: // a right machine, though no step makes it
				wantTold(t, what, y, m, symVal("new"))
			case have == parts-2:
				wantStep(t, what, y, m, y, hasGone(below(m), 3, args[parts-1], env))
			default:
				after := hasGone(m, 3, args[have+1], env)
				after.Stack = slices.Clone(m.Stack)
				after.Stack[1].Vals = append(had, symVal("new"))
				wantStep(t, what, y, m, y, after)
			}
		}
	}
}

// Of a call and of a primitive the last one is gone to with its Frame, which has what was told ahead.
func TestStepBackWithArgsLeft(t *testing.T) {
	for _, text := range []string{"(f x)", "(f x y z)", "(f 1 2 3 4 5 6 7 8)", "(cons x y)", "(+ x y)", "(make pt x y)", "(make pt 1 2 3 4 5 6 7 8)", "(eq? 1 2)"} {
		y := withUnit(t, 1, text)
		env := binds("x", pairVal(1), "x", numVal(1))
		args := y.Units[3].Prog.Nodes[y.Units[3].Prog.Root].Args
		for have := range len(args) - 1 {
			had := slices.Repeat(vals(symVal("old")), have)
			m := backAt(y, env, pairVal(0), had...)
			after := hasGone(m, 3, args[have+1], env)
			after.Stack = slices.Clone(m.Stack)
			after.Stack[1].Vals = append(had, pairVal(0))
			wantStep(t, fmt.Sprint("part ", have, " of ", text), y, m, y, after)
			m.Stack = slices.Repeat(m.Stack[1:], impl.MaxStack)
			after.Stack = slices.Concat(m.Stack[1:], after.Stack[1:])
			wantStep(t, fmt.Sprint("part ", have, " of ", text, " at the edge"), y, m, y, after)
		}
	}
}

// lastBack brings the last one of values to a Frame at the Root of unit 3 that has the others.
func lastBack(y impl.Sys, env []impl.Bind, all ...impl.Value) impl.Machine {
	last := len(all) - 1
	return backAt(y, env, all[last], all[:last]...)
}

func TestStepBackToCalls(t *testing.T) {
	closed := binds("x", numVal(1), "y", pairVal(1), "%t", fnVal(2)) // what function 3 closes over
	y := withUnit(t, 1, "(f x)")
	m := lastBack(y, binds("f", numVal(9)), fnVal(2), symVal("a"))
	wantStep(t, "a call", y, m, y, hasGone(below(m), 0, 0, binds("x", symVal("a"))))
	m = lastBack(y, nil, fnVal(3), symVal("a"))
	wantStep(t, "what it closes over comes first", y, m, y, hasGone(below(m), 1, 0, append(slices.Clone(closed), binds("v", symVal("a"))...)))
	for n := range 9 {
		y := withUnit(t, 2, "(f "+repeated("x", n)+")")
		given := slices.Clone(oneOfEach()[:n])
		for takes := range 9 {
			z := deepSys(y)
			z.Units = append(z.Units, impl.Unit{Home: 0, Prog: program(variable("q"), binding(0, namesUpTo(takes)...))})
			z = added(z, impl.Cell{Kind: impl.CeFn, A: 4, B: 1, Names: names("k k"), Vals: vals(numVal(1), numVal(2))})
			m := lastBack(z, binds("x", numVal(9)), append(vals(fnVal(6)), given...)...)
			what := fmt.Sprint(n, " values for ", takes)
			if n != takes {
				wantEnd(t, what, z, m, impl.EnArity)
				continue
			}
			env := binds("k", numVal(1), "k", numVal(2))
			for i, name := range namesUpTo(takes) {
				env = append(env, impl.Bind{Name: name, Val: given[i]})
			}
			wantStep(t, what, z, m, z, hasGone(below(m), 4, 0, env))
		}
		for _, f := range oneOfEach() {
			if f.Kind != impl.VaFn {
				wantEnd(t, fmt.Sprintf("%+v is called", f), y, lastBack(y, nil, append(vals(f), given...)...), impl.EnType)
			}
		}
	}
}

// A function that closes over its own name's twin: the name it takes is the last one, and hides it.
func TestANameThatStandsTwice(t *testing.T) {
	y := withUnit(t, 0, "(f x)")
	y.Heap[2].Names, y.Heap[2].Vals = names("x y x"), vals(numVal(1), numVal(2), numVal(3))
	m := lastBack(y, nil, fnVal(2), numVal(4))
	env := binds("x", numVal(1), "y", numVal(2), "x", numVal(3), "x", numVal(4))
	after := hasGone(below(m), 0, 0, env)
	wantStep(t, "a call", y, m, y, after)
	wantTold(t, "the name", y, after, numVal(4))
}

func TestStepBackToPrint(t *testing.T) {
	y := withUnit(t, 1, "(print x)")
	for v, text := range map[impl.Value]string{
		numVal(-7): "-7", boolVal(1): "#t", boolVal(0): "#f", nilVal(): "()", symVal("if"): "if",
		pairVal(1): "(a 2)", fnVal(2): "fn", recVal(5): "#bb:q",
	} {
		for _, n := range []int{0, 1, impl.MaxOut - 1, impl.MaxOut} {
			y.Out = slices.Repeat([]string{"old"}, n)
			m := lastBack(y, nil, v)
			if n == impl.MaxOut {
				wantEnd(t, "print with no room", y, m, impl.EnFull)
				continue
			}
			z := deepSys(y)
			z.Out = append(z.Out, text)
			wantStep(t, fmt.Sprintf("print %+v", v), y, m, z, isTold(below(m), v))
		}
	}
	y.Out = nil
	y.Heap[5].S = strings.Repeat("s", impl.MaxTell)
	m := lastBack(y, nil, recVal(5))
	z := deepSys(y)
	z.Out = []string{"#" + strings.Repeat("s", impl.MaxTell-1)}
	wantStep(t, "a long text is cut", y, m, z, isTold(below(m), recVal(5)))
}

func TestStepBackToError(t *testing.T) {
	y := withUnit(t, 1, "(error x)")
	for _, v := range oneOfEach() {
		m := lastBack(y, binds("x", numVal(1)), v)
		wantStep(t, "error", y, m, y, hasEnded(m, impl.EnUser, v))
	}
}

func TestStepBackToMake(t *testing.T) {
	for n := 1; n <= 8; n++ {
		given := oneOfEach()[9 : 9+n]
		for size := range 9 {
			for _, cells := range []int{6, impl.MaxHeap - 1, impl.MaxHeap} {
				for home, s := range []string{":pt", "aa:pt", "bb:pt"} {
					y := filled(withUnit(t, home, "(make pt "+repeated("x", n)+")"), cells)
					y.Insts[home].Types = []impl.Type{{Name: "other", Size: n}, {Name: "pt", Size: size}, {Name: "last", Size: n}}
					m := lastBack(y, nil, given...)
					what := fmt.Sprint(n, " values for ", s, " of ", size, " in ", cells)
					switch {
					case n != size:
						wantEnd(t, what, y, m, impl.EnArity)
					case cells == impl.MaxHeap:
						wantEnd(t, what, y, m, impl.EnFull)
					default:
						wantStep(t, what, y, m, added(y, recCell(s, y.Insts[home].Ver, given...)), isTold(below(m), recVal(cells)))
					}
				}
			}
		}
	}
	// no such type there, though another library has it, or a name of its own is called so
	for _, c := range []struct {
		home int
		typ  string
	}{{0, "pt"}, {0, "x"}, {1, "q"}, {1, "p"}, {3, "pt"}, {1, "nobody"}} {
		for _, cells := range []int{6, impl.MaxHeap} {
			y := filled(withUnit(t, c.home, "(make "+c.typ+" 1 2)"), cells)
			wantEnd(t, fmt.Sprint("make ", c.typ, " at ", c.home), y, lastBack(y, nil, numVal(1), numVal(2)), impl.EnUnbound)
		}
	}
}

// records is a system whose cells from 6 on are records: of the unit's type, in two versions, without Vals, of others.
func records(t *testing.T, home int, text string) impl.Sys {
	y := withUnit(t, home, text)
	lib := y.Insts[home].Lib
	y.Heap = append(y.Heap,
		recCell(lib+":pt", 1, numVal(10), symVal("b"), pairVal(1)),
		recCell(lib+":pt", 1000, oneOfEach()[:8]...),
		recCell(lib+":pt", 0),
		recCell("cc:pt", 1, numVal(1)), recCell(lib+":pts", 1, numVal(1)), recCell(lib+":p", 1, numVal(1)), recCell(lib+"pt", 1, numVal(1)), recCell("pt", 1, numVal(1)), recCell(lib+":pt:", 1, numVal(1)), recCell("x"+lib+":pt", 1, numVal(1)))
	return y
}

func TestStepBackToField(t *testing.T) {
	for home := range 4 {
		for place := range 8 {
			y := records(t, home, "(field pt "+impl.Dec(place)+" x)")
			for cell := 6; cell < len(y.Heap); cell++ {
				m := lastBack(y, nil, recVal(cell))
				what := fmt.Sprint("field ", place, " of cell ", cell, " at ", home)
				switch all := y.Heap[cell].Vals; {
				case cell > 8:
					wantEnd(t, what, y, m, impl.EnType)
				case place < len(all):
					wantTold(t, what, y, m, all[place])
				default:
					wantEnd(t, what, y, m, impl.EnRange)
				}
			}
			for _, v := range oneOfEach() {
				if v.Kind != impl.VaRec {
					wantEnd(t, "field of another value", y, lastBack(y, nil, v), impl.EnType)
				}
			}
		}
	}
}

func TestStepBackToIs(t *testing.T) {
	for home := range 4 {
		y := records(t, home, "(is pt x)")
		for cell := 6; cell < len(y.Heap); cell++ {
			wantTold(t, fmt.Sprint("is of cell ", cell, " at ", home), y, lastBack(y, nil, recVal(cell)), yesNo(cell <= 8))
		}
		for _, v := range oneOfEach() {
			if v.Kind != impl.VaRec {
				wantTold(t, "is of another value", y, lastBack(y, nil, v), boolVal(0))
			}
		}
	}
	// a number, a pair and a function of the number of a record's cell are none
	y := records(t, 1, "(is pt x)")
	wantTold(t, "a number", y, lastBack(y, nil, numVal(6)), boolVal(0))
	// the type need not be there any more
	y.Insts[1].Types = nil
	wantTold(t, "no type", y, lastBack(y, nil, recVal(6)), boolVal(1))
}

// What Prim tells is told, in the heap that it tells; each code with which it refuses ends.
func TestStepBackToWhatPrimDoes(t *testing.T) {
	for _, s := range taken {
		text := "(" + s + " " + repeated("x", arities[s]) + ")"
		for _, cells := range []int{6, impl.MaxHeap - 1, impl.MaxHeap} {
			y := filled(withUnit(t, 2, text), cells)
			all := append(oneOfEach(), numVal(1000), numVal(1001))
			for i, a := range all {
				for k, b := range all {
					given := vals(a, b)[:arities[s]]
					if len(given) == 1 && k > 0 || cells > 6 && (i+k)%5 > 0 {
						continue
					}
					m := lastBack(y, nil, given...)
					h, v, code := modelPrim(y.Heap, true, s, given)
					what := fmt.Sprintf("%s %+v in %d", s, given, cells)
					if code != impl.EnDone {
						wantEnd(t, what, y, m, code)
						continue
					}
					z := deepSys(y)
					z.Heap = h
					wantStep(t, what, y, m, z, isTold(below(m), v))
				}
			}
		}
	}
}

func TestStepOfWhatHasEnded(t *testing.T) {
	y := withUnit(t, 0, aRow)
	for _, m := range eachMode(y)[2:] {
		for end := impl.EnDone; end <= impl.EnFull; end++ {
			m.End = end
			wantStep(t, "it has ended", y, m, y, m)
			bare := m
			bare.Env, bare.Stack = nil, nil
			wantStep(t, "it has ended", y, bare, y, bare)
		}
	}
	full := filled(y, impl.MaxHeap)
	full.Out = slices.Repeat([]string{"t"}, impl.MaxOut)
	m := eachMode(full)[2]
	m.Stack = slices.Repeat(m.Stack[:1], impl.MaxStack)
	wantStep(t, "it has ended, and all is full", full, m, full, m)
}

// End is what it was until it ends.
func TestEndStaysUntilItEnds(t *testing.T) {
	y := withUnit(t, 0, "(f x)")
	m := atRoot(y, nil)
	m.End = impl.EnRange
	after := hasGone(m, 3, 0, nil)
	after.Stack = append(after.Stack, impl.Frame{Unit: 3, Node: m.Node})
	wantStep(t, "it goes", y, m, y, after)
	back := backAt(y, nil, fnVal(2))
	back.End = impl.EnUser
	if _, n := impl.Step(y, back); n.End != impl.EnUser {
		t.Error("End is", n.End)
	}
	y.Units[3].Prog = program(impl.Node{Kind: impl.NdNum, N: 7})
	m.Node = 0
	wantStep(t, "it tells", y, m, y, isTold(m, numVal(7)))
	y.Units[3].Prog = program(variable("nobody"))
	wantEnd(t, "it ends", y, m, impl.EnUnbound)
}

// runOut goes on until it ends, or so many steps are taken, and asks each for what promise 9 says.
func runOut(t *testing.T, what string, y impl.Sys, m impl.Machine, most int) (impl.Sys, impl.Machine, int) {
	t.Helper()
	for n := range most {
		if m.Mode == impl.MoEnd {
			return y, m, n
		}
		z, o := impl.Step(y, m)
		wantKept(t, what, y, m, z, o)
		y, m = z, o
	}
	return y, m, most
}

// sessionWith is a session that has x, n, loop and a type pt of two, with so many cells.
func sessionWith(cells int) impl.Sys {
	y := impl.NewSys()
	y.Insts[0] = impl.Inst{Names: names("x n loop"), Vals: vals(numVal(1), impl.Value{}, impl.Value{}), Types: []impl.Type{{Name: "pt", Size: 2}}}
	return filled(y, cells)
}

// runText runs a text in that session.
func runText(t *testing.T, y impl.Sys, text string, most int) (impl.Sys, impl.Machine, int) {
	t.Helper()
	y.Units = []impl.Unit{{Prog: meant(t, text)}}
	m, ok := impl.Start(y, 0)
	if !ok {
		t.Fatal(text, "does not start")
	}
	return runOut(t, text, y, m, most)
}

func TestProgramsStepByStep(t *testing.T) {
	for _, c := range []struct {
		text  string
		end   int
		tells string
		out   string
		steps int
	}{
		{"7", impl.EnDone, "7", "", 2},
		{"x", impl.EnDone, "1", "", 2},
		{"n", impl.EnUnbound, "", "", 1},
		{"(if #f 1 2)", impl.EnDone, "2", "", 5},
		{"(begin 1 2)", impl.EnDone, "2", "", 5},
		{"(begin 1 2 3)", impl.EnDone, "3", "", 7},
		{"((lambda () 7))", impl.EnDone, "7", "", 5},
		{"((lambda (x y) (cons y x)) 1 2)", impl.EnDone, "(2 . 1)", "", 13},
		{"(+ x (* 2 3))", impl.EnDone, "7", "", 0},
		{"(begin (set! n 5) (set! x (+ n x)) (cons x n))", impl.EnDone, "(6 . 5)", "", 0},
		{"(set! nobody 5)", impl.EnUnbound, "", "", 3},
		{"(let ((x 5)) (set! x 6) x)", impl.EnDone, "5", "", 0}, // what is bound is not set
		{"(begin (let ((x 5)) (set! x 6)) x)", impl.EnDone, "6", "", 0},
		{"(let* ((x 5) (x (+ x 1)) (f (lambda (y) (cons x y)))) (let ((x 9)) (f x)))", impl.EnDone, "(6 . 9)", "", 0},
		{"(((lambda (x) (lambda (x) x)) 1) 2)", impl.EnDone, "2", "", 0},
		{"(begin (print 'a) (print '(1 #t . b)) (print (lambda () 1)) (print (make pt 1 2)))", impl.EnDone, "#:pt", "a|(1 #t . b)|fn|#:pt", 0},
		{"(let ((p (make pt 'a 'b))) (cons (field pt 0 p) (cons (field pt 1 p) (cons (is pt p) (is pt 1)))))", impl.EnDone, "(a b #t . #f)", "", 0},
		{"(field pt 2 (make pt 'a 'b))", impl.EnRange, "", "", 0},
		{"(make pt 1)", impl.EnArity, "", "", 3},
		{"(make q)", impl.EnUnbound, "", "", 1},
		{"(make pt)", impl.EnArity, "", "", 1},
		{"(begin (print 1) (error '(bad thing)) (print 2))", impl.EnUser, "(bad thing)", "1", 0},
		{"(begin (print 1) (car 1) (print 2))", impl.EnType, "", "1", 0},
		{"(+ 1000000 1)", impl.EnRange, "", "", 5},
		{"((lambda (x) x) 1 2)", impl.EnArity, "", "", 0},
		{"(1 2)", impl.EnType, "", "", 5},
		{"(or #f (and 1 2) (error 3))", impl.EnDone, "2", "", 0},
		{"(cond ((eq? x 2) 'two) ((eq? x 1) 'one) (else 'more))", impl.EnDone, "one", "", 0},
	} {
		y, m, n := runText(t, sessionWith(0), c.text, 200)
		if m.Mode != impl.MoEnd || m.End != c.end || impl.Text(y.Heap, m.Val) != c.tells || strings.Join(y.Out, "|") != c.out {
			t.Errorf("%s: %s tells %q and prints %q", c.text, shown(m), impl.Text(y.Heap, m.Val), y.Out)
		}
		if c.steps > 0 && n != c.steps {
			t.Errorf("%s takes %d steps; want %d", c.text, n, c.steps)
		}
	}
}

// counting is a loop that calls itself so often, in a place as told by how.
func counting(how string, times int) string {
	call := strings.ReplaceAll(how, "@", "(loop (- k 1))")
	return "(begin (set! loop (lambda (k) (if (= k 0) 'done " + call + "))) (loop " + impl.Dec(times) + "))"
}

// Where nothing is left to do behind a call it needs no Frame, so it may go on for ever: as the branch of an if, the
// last one of a row, the body of a function. Elsewhere each call waits, until there are too many.
func TestWhatWaitsAndWhatDoesNot(t *testing.T) {
	t.Parallel()
	for _, how := range []string{"@", "(begin 1 @)", "(begin 1 2 (begin 3 @))", "(if #t @ 2)", "(if #f 1 @)", "(cond (#f 1) (else 2 @))", "(when 1 2 @)"} {
		_, m, _ := runText(t, sessionWith(0), counting(how, impl.MaxStack+3), 4000)
		if m.End != impl.EnDone || m.Val != symVal("done") {
			t.Errorf("%s ends with %s", how, shown(m))
		}
	}
	for how, frames := range map[string]int{"(begin @ 1)": 1, "(not @)": 1, "(if @ 1 2)": 1, "(cons 1 (begin 2 @))": 1, "(set! x @)": 1, "(eq? 1 (cons 1 @))": 2, "((lambda (y) y) @)": 1} {
		most := (impl.MaxStack - 2) / frames // (= k 0) in its if needs two above those that wait
		for _, times := range []int{most, most + 1} {
			_, m, _ := runText(t, sessionWith(0), counting(how, times), 4000)
			if m.Mode != impl.MoEnd || (m.End == impl.EnDepth) != (times > most) {
				t.Errorf("%s %d times ends with %s", how, times, shown(m))
			}
		}
	}
}

// A loop that makes cells ends when there is no room for one more; what was made stays.
func TestWhatFillsTheHeap(t *testing.T) {
	t.Parallel()
	for how, kind := range map[string]int{"(begin (cons k k) @)": impl.CePair, "(begin (lambda () k) @)": impl.CeFn, "(begin (make pt k k) @)": impl.CeRec} {
		for room := range 12 {
			y, m, _ := runText(t, sessionWith(impl.MaxHeap-1-room), counting(how, 9), 400) // the loop itself is a cell
			if full := room < 9; full && (m.End != impl.EnFull || m.Val != impl.Value{}) || !full && (m.End != impl.EnDone || m.Val != symVal("done")) {
				t.Errorf("%s, room for %d: %s", how, room, shown(m))
			}
			if all := impl.MaxHeap - max(room-9, 0); len(y.Heap) != all || room > 0 && y.Heap[all-1].Kind != kind {
				t.Errorf("%s, room for %d: %d cells", how, room, len(y.Heap))
			}
		}
	}
	for times, end := range map[int]int{impl.MaxOut: impl.EnDone, impl.MaxOut + 1: impl.EnFull} {
		y, m, _ := runText(t, sessionWith(0), counting("(begin (print k) @)", times), 2000)
		if m.End != end || len(y.Out) != impl.MaxOut || y.Out[impl.MaxOut-1] != impl.Dec(times-impl.MaxOut+1) {
			t.Errorf("%d texts, %s", len(y.Out), shown(m))
		}
	}
}

// A function does what it did in its own library, whoever calls it: names, types and Links of its Home count.
func TestAFunctionIsAtHomeWhereItWasMade(t *testing.T) {
	y := impl.NewSys()
	y.Insts[0] = impl.Inst{Names: names("v f"), Vals: vals(numVal(1), impl.Value{}), Types: []impl.Type{{Name: "pt", Size: 1}}}
	y.Insts = append(y.Insts, impl.Inst{Lib: "aa", Ver: 7, Names: names("v"), Vals: vals(numVal(2)), Types: []impl.Type{{Name: "pt", Size: 2}}})
	y.Units = []impl.Unit{
		{Home: 1, Prog: meant(t, "(lambda (k) (set! v (+ v k)) (make pt v k))")},
		{Home: 0, Prog: meant(t, "(let ((p (f 5))) (cons (is pt p) v))")},
	}
	m, _ := impl.Start(y, 0)
	y, m, _ = runOut(t, "made", y, m, 10)
	y.Insts[0].Vals[1] = m.Val
	m, _ = impl.Start(y, 1)
	y, m, _ = runOut(t, "called", y, m, 100)
	if s := impl.Text(y.Heap, m.Val); s != "(#f . 1)" || y.Insts[1].Vals[0] != numVal(7) || y.Insts[0].Vals[0] != numVal(1) {
		t.Errorf("it tells %q, and the values are %+v", s, y.Insts)
	}
	// cell 0 is that function, 1 the one that let stands for
	if !alike(y.Heap[2], recCell("aa:pt", 7, numVal(7), numVal(5))) {
		t.Errorf("the record is %+v", y.Heap[2])
	}
}

// stepper does a step in the document's own words.
type stepper struct {
	y impl.Sys
	m impl.Machine
}

func (s *stepper) tells(v impl.Value) { s.m.Mode, s.m.Val = impl.MoBack, v }

func (s *stepper) ends(code int) {
	s.m.Mode, s.m.End, s.m.Val, s.m.Env, s.m.Stack = impl.MoEnd, code, impl.Value{}, nil, nil
}

func (s *stepper) goes(unit, node int, env []impl.Bind) {
	s.m.Mode, s.m.Val, s.m.Unit, s.m.Node, s.m.Env = impl.MoEval, impl.Value{}, unit, node, slices.Clone(env)
}

// fresh tells a new cell's value, or ends.
func (s *stepper) fresh(kind int, c impl.Cell) {
	if len(s.y.Heap) >= 300 {
		s.ends(impl.EnFull)
		return
	}
	s.y.Heap = append(s.y.Heap, c)
	s.tells(impl.Value{Kind: kind, N: len(s.y.Heap) - 1})
}

// inEnv tells the last one's value: each of a name overwrites those ahead of it.
func inEnv(env []impl.Bind) map[string]impl.Value {
	all := map[string]impl.Value{}
	for _, b := range env {
		all[b.Name] = b.Val
	}
	return all
}

func (s *stepper) eval() {
	unit, at := s.m.Unit, s.m.Node
	p := s.y.Units[unit].Prog
	n, env := p.Nodes[at], inEnv(s.m.Env)
	switch n.Kind {
	case impl.NdNum:
		s.tells(numVal(n.N))
	case impl.NdBool:
		s.tells(boolVal(n.N))
	case impl.NdNil:
		s.tells(nilVal())
	case impl.NdSym:
		s.tells(symVal(n.S))
	case impl.NdVar:
		if v, is := env[n.S]; is {
			s.tells(v)
		} else if v, is := lookedUp(s.y, true, s.y.Units[unit].Home, n.S); is {
			s.tells(v)
		} else {
			s.ends(impl.EnUnbound)
		}
	case impl.NdLam:
		c := impl.Cell{Kind: impl.CeFn, A: unit, B: at}
		for _, name := range freeByClimbing(p, at) {
			if v, is := env[name]; is {
				c.Names, c.Vals = append(c.Names, name), append(c.Vals, v)
			}
		}
		s.fresh(impl.VaFn, c)
	default:
		if len(n.Args) == 0 {
			s.primitive(unit, n, nil)
		} else if len(s.m.Stack) >= 120 {
			s.ends(impl.EnDepth)
		} else {
			s.m.Stack = append(s.m.Stack, impl.Frame{Unit: unit, Node: at, Env: slices.Clone(s.m.Env)})
			s.goes(unit, n.Args[0], s.m.Env)
		}
	}
}

func (s *stepper) back() {
	v, top := s.m.Val, len(s.m.Stack)-1
	if top < 0 {
		s.ends(impl.EnDone)
		s.m.Val = v
		return
	}
	f := s.m.Stack[top]
	n := s.y.Units[f.Unit].Prog.Nodes[f.Node]
	all := append(slices.Clone(f.Vals), v)
	left := len(n.Args) - len(all)
	if n.Kind != impl.NdIf && n.Kind != impl.NdSet && left > 0 {
		s.m.Stack[top].Vals = all
		if n.Kind == impl.NdSeq && left == 1 {
			s.m.Stack = s.m.Stack[:top]
		}
		s.goes(f.Unit, n.Args[len(all)], f.Env)
		return
	}
	s.m.Stack = s.m.Stack[:top]
	switch n.Kind {
	case impl.NdIf:
		to := 1
		if v == boolVal(0) {
			to = 2
		}
		s.goes(f.Unit, n.Args[to], f.Env)
	case impl.NdSet:
		home := s.y.Insts[s.y.Units[f.Unit].Home]
		if i := slices.Index(home.Names, n.S); i >= 0 {
			home.Vals[i] = v
			s.tells(v)
		} else {
			s.ends(impl.EnUnbound)
		}
	case impl.NdSeq:
		s.tells(v)
	case impl.NdCall:
		s.call(all)
	case impl.NdPrim:
		s.primitive(f.Unit, n, all)
	}
}

func (s *stepper) call(all []impl.Value) {
	if all[0].Kind != impl.VaFn {
		s.ends(impl.EnType)
		return
	}
	c := s.y.Heap[all[0].N]
	lambda := s.y.Units[c.A].Prog.Nodes[c.B]
	if len(lambda.Names) != len(all)-1 {
		s.ends(impl.EnArity)
		return
	}
	var env []impl.Bind
	for i, name := range slices.Concat(c.Names, lambda.Names) {
		env = append(env, impl.Bind{Name: name, Val: slices.Concat(c.Vals, all[1:])[i]})
	}
	s.goes(c.A, lambda.Args[0], env)
}

func (s *stepper) primitive(unit int, n impl.Node, all []impl.Value) {
	home := s.y.Insts[s.y.Units[unit].Home]
	typ := home.Lib + ":" + strings.Join(n.Names, "")
	isRec := len(all) > 0 && all[0].Kind == impl.VaRec && s.y.Heap[all[0].N].S == typ
	switch n.S {
	case "print":
		if len(s.y.Out) >= 40 {
			s.ends(impl.EnFull)
			return
		}
		s.y.Out = append(s.y.Out, textsByCells(s.y.Heap)(all[0]))
		s.tells(all[0])
	case "error":
		s.ends(impl.EnUser)
		s.m.Val = all[0]
	case "make":
		sizes := map[string]int{}
		for _, x := range home.Types {
			sizes[x.Name] = x.Size
		}
		if size, is := sizes[n.Names[0]]; !is {
			s.ends(impl.EnUnbound)
		} else if size != len(all) {
			s.ends(impl.EnArity)
		} else {
			s.fresh(impl.VaRec, recCell(typ, home.Ver, all...))
		}
	case "is":
		s.tells(yesNo(isRec))
	case "field":
		if !isRec {
			s.ends(impl.EnType)
		} else if rec := s.y.Heap[all[0].N]; n.N >= len(rec.Vals) {
			s.ends(impl.EnRange)
		} else {
			s.tells(rec.Vals[n.N])
		}
	default:
		h, v, code := modelPrim(s.y.Heap, true, n.S, all)
		s.y.Heap = h
		s.tells(v)
		if code != impl.EnDone {
			s.ends(code)
		}
	}
}

// modelStep is Step of a right machine, by the stepper.
func modelStep(y impl.Sys, m impl.Machine) (impl.Sys, impl.Machine) {
	s := stepper{deepSys(y), deepMachine(m)}
	switch m.Mode {
	case impl.MoEval:
		s.eval()
	case impl.MoBack:
		s.back()
	}
	return s.y, s.m
}

// scene makes right systems and right machines in them by chance.
type scene struct {
	maker
	y impl.Sys
}

// sceneByChance has programs as they are written and as they are planted, and one with all primitives; limits are
// often nearly met.
func sceneByChance(r *rand.Rand) scene {
	s := scene{maker{r}, sysByChance(r)}
	for range 1 + r.Intn(4) {
		d, _ := impl.Read(s.form(1 + r.Intn(4)))
		if p, code := impl.Expand(d, 0); code == impl.XpOk {
			s.y.Units = append(s.y.Units, impl.Unit{Home: r.Intn(len(s.y.Insts)), Prog: p})
		}
	}
	all := []string{"(f)", "(f x)", "(f x y)", "(make pt)", "(make pt x)", "(make pt x y)", "(field pt 0 x)", "(field pt 2 x)", "(is pt x)", "(print x)", "(error x)"}
	for _, p := range taken {
		all = append(all, "("+p+" "+repeated("x", arities[p])+")")
	}
	d, _ := impl.Read("(begin " + strings.Join(all, " ") + ")")
	p, _ := impl.Expand(d, 0)
	s.y.Units = append(s.y.Units, impl.Unit{Home: r.Intn(len(s.y.Insts)), Prog: p})
	for i := range s.y.Insts {
		in := &s.y.Insts[i]
		if size := r.Intn(9); r.Intn(2) == 0 {
			in.Types = append(in.Types, impl.Type{Name: "pt", Size: size})
			s.y.Heap = append(s.y.Heap, recCell(in.Lib+":pt", in.Ver, s.values(size)...))
		}
		if r.Intn(2) == 0 {
			in.Names, in.Vals = append(in.Names, "x"), append(in.Vals, s.value())
		}
	}
	switch r.Intn(4) {
	case 0:
		s.y = filled(s.y, impl.MaxHeap-r.Intn(3))
	case 1:
		s.y.Out = slices.Repeat([]string{"old"}, impl.MaxOut-r.Intn(3))
	}
	return s
}

func (s scene) value() impl.Value {
	if n := len(s.y.Heap); n > 0 && s.r.Intn(3) > 0 {
		at := s.r.Intn(n)
		return impl.Value{Kind: s.y.Heap[at].Kind + impl.VaPair - impl.CePair, N: at}
	}
	return []impl.Value{numVal(s.r.Intn(9)), numVal(impl.MaxWord - s.r.Intn(2)), boolVal(0), boolVal(1), nilVal(), symVal("a")}[s.r.Intn(6)]
}

func (s scene) values(n int) []impl.Value {
	var all []impl.Value
	for range n {
		all = append(all, s.value())
	}
	return all
}

func (s scene) env() []impl.Bind {
	var env []impl.Bind
	for range s.r.Intn(14) {
		env = append(env, impl.Bind{Name: s.pick("a", "b", "c", "d", "%t", "f", "x", "x0", "x1", "y"), Val: s.value()})
	}
	return env
}

// frame is a right one, of any node that can wait.
func (s scene) frame() (impl.Frame, bool) {
	f := impl.Frame{Unit: s.r.Intn(len(s.y.Units)), Env: s.env()}
	nodes := s.y.Units[f.Unit].Prog.Nodes
	f.Node = s.r.Intn(len(nodes))
	switch n := nodes[f.Node]; n.Kind {
	case impl.NdIf, impl.NdSet:
		return f, true
	case impl.NdCall, impl.NdPrim, impl.NdSeq:
		if len(n.Args) == 0 {
			return f, false
		}
		f.Vals = s.values(s.r.Intn(len(n.Args)))
		if len(f.Vals) > 0 && n.Kind == impl.NdCall && s.r.Intn(2) == 0 {
			s.aim(&f, n)
		}
		return f, true
	}
	return f, false
}

// aim makes the first one a function, and where there is one, one that takes so many.
func (s scene) aim(f *impl.Frame, n impl.Node) {
	for at, c := range s.y.Heap {
		if c.Kind != impl.CeFn {
			continue
		}
		f.Vals[0] = fnVal(at)
		if len(s.y.Units[c.A].Prog.Nodes[c.B].Names) == len(n.Args)-1 {
			return
		}
	}
}

func (s scene) machine() impl.Machine {
	m := impl.Machine{Mode: 1 + s.r.Intn(2), Unit: s.r.Intn(len(s.y.Units)), Env: s.env()}
	m.Node = s.r.Intn(len(s.y.Units[m.Unit].Prog.Nodes))
	for range s.r.Intn(12) {
		if f, ok := s.frame(); ok {
			m.Stack = append(m.Stack, f)
		}
	}
	if len(m.Stack) > 0 && s.r.Intn(6) == 0 {
		m.Stack = slices.Concat(slices.Repeat(m.Stack[:1], impl.MaxStack-len(m.Stack)-s.r.Intn(2)), m.Stack)
	}
	if m.Mode == impl.MoBack {
		m.Val = s.value()
		if s.r.Intn(4) == 0 {
			s.count(&m)
		}
	}
	if s.r.Intn(10) == 0 {
		m.End = s.r.Intn(8)
	}
	return m
}

// count makes all that the top Frame has, and what comes to it, numbers.
func (s scene) count(m *impl.Machine) {
	some := vals(numVal(0), numVal(2), numVal(-3), numVal(1000), numVal(1001), numVal(impl.MaxWord))
	m.Val = some[s.r.Intn(len(some))]
	if top := len(m.Stack) - 1; top >= 0 {
		for i := range m.Stack[top].Vals {
			m.Stack[top].Vals[i] = some[s.r.Intn(len(some))]
		}
	}
}

// sortOfStep tells what a step is of: the mode, the kind of the node that counts, its primitive, and how it went.
func sortOfStep(y impl.Sys, m, after impl.Machine) string {
	unit, node, have := m.Unit, m.Node, 0
	if m.Mode == impl.MoBack {
		if len(m.Stack) == 0 {
			return "back to none"
		}
		f := m.Stack[len(m.Stack)-1]
		unit, node, have = f.Unit, f.Node, len(f.Vals)+1
	}
	n := y.Units[unit].Prog.Nodes[node]
	s := fmt.Sprint([]string{"", "eval ", "back "}[m.Mode], n.Kind, " ", n.S)
	if n.Kind != impl.NdPrim {
		s = fmt.Sprint([]string{"", "eval ", "back "}[m.Mode], n.Kind)
	}
	if left := len(n.Args) - have; m.Mode == impl.MoBack && left > 0 && n.Kind >= impl.NdCall && n.Kind != impl.NdSet {
		s += " left"
		if left == 1 {
			s += " one"
		}
	}
	return fmt.Sprint(s, []string{"", ": goes", ": tells", ": ends "}[after.Mode], strings.Trim(fmt.Sprint(after.End), "0"))
}

// wantAsModelled takes steps, and holds each against the model, as long as it goes on.
func wantAsModelled(t *testing.T, y impl.Sys, m impl.Machine, most int, seen map[string]int) {
	t.Helper()
	for range most {
		if !impl.MachineOk(y, m) {
			t.Fatalf("the machine is not right: %s", shown(m))
		}
		z, n := impl.Step(y, m)
		wantY, wantM := modelStep(y, m)
		wantKept(t, "by chance", y, m, z, n)
		if !alike(z, wantY) || !alike(n, wantM) {
			t.Fatalf("a step from %s\nis %s\nwant %s", shown(m), shown(n), shown(wantM))
		}
		if m.Mode == impl.MoEnd {
			return
		}
		if m.End == 0 {
			seen[sortOfStep(y, m, n)]++
		}
		y, m = z, n
	}
}

// Promise 9, of machines of all sorts, each step held against the document's own words.
func TestStepsByChance(t *testing.T) {
	t.Parallel()
	r := rand.New(rand.NewSource(99))
	seen := map[string]int{}
	for range 700 {
		s := sceneByChance(r)
		for range 6 {
			wantAsModelled(t, s.y, s.machine(), 8, seen)
		}
	}
	wanted := []string{
		"eval 1: tells", "eval 2: tells", "eval 3: tells", "eval 4: tells", "eval 5: tells", "eval 5: ends 1", "eval 6: goes", "eval 6: ends 6",
		"eval 7: tells", "eval 7: ends 7", "eval 8: goes", "eval 8: ends 6", "eval 9 cons: goes", "eval 9 cons: ends 6", "eval 9 make: goes",
		"eval 9 make: tells", "eval 9 make: ends 1", "eval 9 make: ends 5", "eval 10: goes", "eval 10: ends 6", "eval 11: goes", "eval 11: ends 6",
		"back to none", "back 6: goes", "back 8 left: goes", "back 8 left one: goes", "back 8: goes", "back 8: ends 2", "back 8: ends 5",
		"back 10: tells", "back 10: ends 1", "back 11 left: goes", "back 11 left one: goes", "back 11: tells",
		"back 9 cons left one: goes", "back 9 cons: tells", "back 9 cons: ends 7", "back 9 print: tells", "back 9 print: ends 7", "back 9 error: ends 4",
		"back 9 make left: goes", "back 9 make left one: goes", "back 9 make: ends 1", "back 9 make: ends 5", "back 9 make: tells",
		"back 9 field: tells", "back 9 field: ends 2", "back 9 field: ends 3", "back 9 is: tells", "back 9 +: tells", "back 9 +: ends 2", "back 9 +: ends 3", "back 9 car: tells", "back 9 car: ends 2",
	}
	for _, s := range wanted {
		if seen[s] == 0 {
			t.Errorf("%q was never there", s)
		}
	}
}

// Whole programs from their Start on, each step held against the model.
func TestProgramsByChance(t *testing.T) {
	t.Parallel()
	r := rand.New(rand.NewSource(100))
	seen := map[string]int{}
	for range 150 {
		s := sceneByChance(r)
		for unit := range s.y.Units {
			m, ok := impl.Start(s.y, unit)
			if !ok {
				t.Fatal("a unit of a right system does not start")
			}
			m.Env = s.env()
			wantAsModelled(t, s.y, m, 30, seen)
		}
	}
}

// spoilMachine makes one thing in m another; whether it is right then is asked behind that.
func (s scene) spoilMachine(m *impl.Machine) {
	odd := []int{-1, 0, 1, 2, 3, 4, 7, 8, 50, 1000}
	n, v := odd[s.r.Intn(len(odd))], impl.Value{Kind: s.r.Intn(9), N: odd[s.r.Intn(len(odd))]}
	env := &m.Env
	if len(m.Stack) > 0 && s.r.Intn(2) == 0 {
		f := &m.Stack[s.r.Intn(len(m.Stack))]
		env = &f.Env
		switch s.r.Intn(5) {
		case 0:
			f.Unit = n
		case 1:
			f.Node = n
		case 2:
			f.Vals = append(slices.Clone(f.Vals), v)
		}
	}
	switch s.r.Intn(9) {
	case 0:
		m.Mode = n
	case 1:
		m.Unit = n
	case 2:
		m.Node = n
	case 3:
		m.Val = v
	case 4:
		m.End = n
	case 5:
		*env = append(slices.Clone(*env), impl.Bind{Name: s.pick("a", "%t", "if", "", "7"), Val: s.value()})
	case 6:
		*env = append(slices.Clone(*env), impl.Bind{Name: "a", Val: v})
	case 7:
		m.Stack = slices.Repeat(m.Stack, 1+s.r.Intn(20))
	}
}

// rightMachine says what a right machine is in the document's own words.
func rightMachine(y impl.Sys, m impl.Machine) bool {
	if !rightSys(y) || m.End < 0 || m.End > 7 || len(m.Stack) > 120 {
		return false
	}
	none := m.Val == impl.Value{}
	switch m.Mode {
	case 1:
		if !none {
			return false
		}
	case 2, 3:
		if !rightVal(y.Heap, m.Val) && !(none && m.Mode == 3) {
			return false
		}
	default:
		return false
	}
	envs := [][]impl.Bind{m.Env}
	places := [][2]int{{m.Unit, m.Node}}
	for _, f := range m.Stack {
		envs = append(envs, f.Env)
		places = append(places, [2]int{f.Unit, f.Node})
	}
	for _, at := range places {
		if at[0] < 0 || at[0] >= len(y.Units) || at[1] < 0 || at[1] >= len(y.Units[at[0]].Prog.Nodes) {
			return false
		}
	}
	for _, env := range envs {
		for _, b := range env {
			if !readsAsName(b.Name) || !rightVal(y.Heap, b.Val) {
				return false
			}
		}
	}
	return !slices.ContainsFunc(m.Stack, func(f impl.Frame) bool { return !rightFrame(y, f) })
}

func rightFrame(y impl.Sys, f impl.Frame) bool {
	n := y.Units[f.Unit].Prog.Nodes[f.Node]
	for _, v := range f.Vals {
		if !rightVal(y.Heap, v) {
			return false
		}
	}
	switch n.Kind {
	case impl.NdIf, impl.NdSet:
		return len(f.Vals) == 0
	case impl.NdCall, impl.NdPrim, impl.NdSeq:
		return len(f.Vals) < len(n.Args)
	}
	return false
}

func TestSpoiltMachinesByChance(t *testing.T) {
	t.Parallel()
	r := rand.New(rand.NewSource(101))
	counts := map[bool]int{}
	for i := range 2500 {
		s := sceneByChance(r)
		m := s.machine()
		s.spoilMachine(&m)
		if i%7 == 0 {
			spoil(r, &s.y)
		}
		want := rightMachine(s.y, m)
		wantMachine(t, "spoilt", s.y, m, want)
		counts[want]++
	}
	if counts[true] < 200 || counts[false] < 200 {
		t.Error("one sort was hardly there", counts)
	}
}

// roomyPart is v once more, each list with spare room behind it, which is filled.
func roomyPart(v reflect.Value) reflect.Value {
	z := reflect.New(v.Type()).Elem()
	switch v.Kind() {
	case reflect.Slice:
		list := reflect.MakeSlice(v.Type(), v.Len()+2, v.Len()+2)
		for i := range v.Len() {
			list.Index(i).Set(roomyPart(v.Index(i)))
		}
		for i := range 2 {
			fill(list.Index(v.Len() + i))
		}
		z.Set(list.Slice(0, v.Len()))
	case reflect.Struct:
		for i := range v.NumField() {
			z.Field(i).Set(roomyPart(v.Field(i)))
		}
	case reflect.String:
		z.SetString(strings.Clone(v.String()))
	default:
		z.Set(v)
	}
	return z
}

// fill writes what no step would write.
func fill(v reflect.Value) {
	switch v.Kind() {
	case reflect.Int:
		v.SetInt(-99)
	case reflect.String:
		v.SetString("spare")
	case reflect.Struct:
		for i := range v.NumField() {
			fill(v.Field(i))
		}
	}
}

// wholePart is v once more, each list with what stands in the room behind it.
func wholePart(v reflect.Value) reflect.Value {
	z := reflect.New(v.Type()).Elem()
	switch v.Kind() {
	case reflect.Slice:
		list := reflect.MakeSlice(v.Type(), v.Cap(), v.Cap())
		for i := range v.Cap() {
			list.Index(i).Set(wholePart(v.Slice(0, v.Cap()).Index(i)))
		}
		z.Set(list)
	case reflect.Struct:
		for i := range v.NumField() {
			z.Field(i).Set(wholePart(v.Field(i)))
		}
	default:
		z.Set(v)
	}
	return z
}

func roomyOf[T any](x T) T { return roomyPart(reflect.ValueOf(x)).Interface().(T) }
func wholeOf[T any](x T) T { return wholePart(reflect.ValueOf(x)).Interface().(T) }

// room is a stretch of memory, with the bytes of a list (and of the room behind it) or of a text.
type room struct {
	from, to uintptr
	text     bool
	given    bool // it stands in what was handed in
}

func roomsIn(v reflect.Value, given bool, all []room) []room {
	switch v.Kind() {
	case reflect.Slice:
		if size := uintptr(v.Cap()) * v.Type().Elem().Size(); size > 0 {
			all = append(all, room{v.Pointer(), v.Pointer() + size, false, given})
		}
		for i := range v.Len() {
			all = roomsIn(v.Index(i), given, all)
		}
	case reflect.Struct:
		for i := range v.NumField() {
			all = roomsIn(v.Field(i), given, all)
		}
	case reflect.String:
		if s := v.String(); len(s) > 0 {
			from := uintptr(unsafe.Pointer(unsafe.StringData(s)))
			all = append(all, room{from, from + uintptr(len(s)), true, given})
		}
	}
	return all
}

func roomsOf(given bool, all ...any) []room {
	var rooms []room
	for _, x := range all {
		rooms = roomsIn(reflect.ValueOf(x), given, rooms)
	}
	return rooms
}

// shareNone: does no list and no text of what is told stand in what is handed in, and no list of it in another one?
func shareNone(in, out []any) bool {
	rooms := append(roomsOf(true, in...), roomsOf(false, out...)...)
	slices.SortFunc(rooms, func(a, b room) int { return int(a.from) - int(b.from) })
	for i, a := range rooms {
		for _, b := range rooms[i+1:] {
			if b.from >= a.to {
				break
			}
			if a.given != b.given || !a.given && !a.text && !b.text {
				return false
			}
		}
	}
	return true
}

func TestShareNoneSeesWhatIsShared(t *testing.T) {
	one, word := make([]int, 2, 4), strings.Clone("word")
	for what, c := range map[string]struct {
		in, out any
		none    bool
	}{
		"nothing":         {one, []int{1}, true},
		"all of it":       {one, one, false},
		"a part":          {one, one[1:], false},
		"the room behind": {one, one[2:4], false},
		"a text":          {[]string{word}, []string{word}, false},
		"a part of it":    {[]string{word}, []string{word[2:]}, false},
		"twice one list":  {nil, [][]int{one, one}, false},
		"twice one text":  {nil, []string{word, word}, true},
		"given twice":     {[][]int{one, one}, []string{word}, true},
	} {
		in := []any{c.in}
		if c.in == nil {
			in = nil
		}
		if shareNone(in, []any{c.out}) != c.none {
			t.Error(what)
		}
	}
}

// casesOfSteps are machines of all sorts, right and not, in systems with spare room.
func casesOfSteps(t *testing.T, ask func(y impl.Sys, m impl.Machine)) {
	r := rand.New(rand.NewSource(102))
	for i := range 300 {
		s := sceneByChance(r)
		m := s.machine()
		switch i % 6 {
		case 0:
			s.spoilMachine(&m)
		case 1:
			m.Mode = impl.MoEnd
		}
		ask(roomyOf(s.y), roomyOf(m))
	}
	y := withUnit(t, 1, aRow)
	for _, m := range eachMode(y) {
		ask(roomyOf(y), roomyOf(m))
	}
	for _, text := range append(slices.Clone(waits), "x", "7", "'symbol", "(lambda (k) (f x y))", "(make v)", "(make pt 1 2)") {
		y := withUnit(t, 1, text)
		env := binds("x", symVal("symbol"), "y", pairVal(1))
		ask(roomyOf(y), roomyOf(atRoot(y, env)))
		if n := len(y.Units[3].Prog.Nodes[y.Units[3].Prog.Root].Args); n > 0 && text[1] != 'l' {
			ask(roomyOf(y), roomyOf(backAt(y, env, symVal("symbol"))))
			ask(roomyOf(y), roomyOf(backAt(y, env, pairVal(1))))
			if text[1] != 'i' && text[1] != 's' || text[1:3] == "is" {
				ask(roomyOf(y), roomyOf(backAt(y, env, symVal("symbol"), slices.Repeat(vals(fnVal(2)), n-1)...)))
			}
		}
	}
}

func TestStepLeavesItsArguments(t *testing.T) {
	t.Parallel()
	right := 0
	casesOfSteps(t, func(y impl.Sys, m impl.Machine) {
		sysBefore, macBefore := wholeOf(y), wholeOf(m)
		if impl.MachineOk(y, m) {
			right++
		}
		for unit := -1; unit <= len(y.Units); unit++ {
			impl.Start(y, unit)
		}
		impl.Step(y, m)
		if !alike(wholeOf(y), sysBefore) || !alike(wholeOf(m), macBefore) {
			t.Errorf("what is handed in is changed by a step of %s", shown(m))
		}
		// what stands in the spare room is not looked at
		z, n := impl.Step(deepSys(y), deepMachine(m))
		if zz, nn := impl.Step(y, m); !alike(z, zz) || !alike(n, nn) {
			t.Errorf("a step of %s is another one without spare room", shown(m))
		}
	})
	if right < 200 {
		t.Error("hardly one was right", right)
	}
}

func TestStepAnswersNewMemory(t *testing.T) {
	long := 0
	casesOfSteps(t, func(y impl.Sys, m impl.Machine) {
		z, n := impl.Step(y, m)
		if !shareNone([]any{y, m}, []any{z, n}) {
			t.Errorf("what is told shares memory with what is handed in, or with itself: a step of %s", shown(m))
		}
		long += len(roomsOf(false, z, n))
	})
	if long == 0 {
		t.Error("nothing was told")
	}
}

// No two lists of one answer share memory, even where those that are handed in do.
func TestStepTellsListsThatShareNone(t *testing.T) {
	y := withUnit(t, 0, aRow)
	one := binds("x", numVal(1), "y", symVal("symbol"))
	given := vals(numVal(1), fnVal(3))
	root := y.Units[3].Prog.Root
	f := impl.Frame{Unit: 3, Node: root, Vals: given, Env: one}
	y.Insts[1].Names, y.Insts[1].Vals = y.Insts[0].Names, y.Insts[0].Vals
	y.Insts[2].Types = y.Insts[0].Types
	y.Units = append(y.Units, y.Units...)
	for _, m := range []impl.Machine{
		{Mode: impl.MoEval, Unit: 3, Node: root, Env: one, Stack: []impl.Frame{f, f}},
		{Mode: impl.MoBack, Unit: 3, Node: root, Env: one, Val: numVal(1), Stack: []impl.Frame{f, f}},
		{Mode: impl.MoEnd, Unit: 3, Node: root, Env: one, Stack: []impl.Frame{f, f}},
	} {
		wantMachine(t, "shared lists", y, m, true)
		if z, n := impl.Step(y, m); !shareNone([]any{y, m}, []any{z, n}) {
			t.Errorf("lists are shared behind a step of %s", shown(m))
		}
	}
}

// Nothing is kept: the same step has the same answer, whatever was asked between.
func TestStepKeepsNothing(t *testing.T) {
	y := withUnit(t, 1, "(set! v (cons v x))")
	m := atRoot(y, binds("x", numVal(1)))
	var first []any
	for range 3 {
		var all []any
		z, n := y, m
		for range 12 {
			z, n = impl.Step(z, n)
			all = append(all, z, n)
		}
		if first == nil {
			first = all
		}
		for i := range all {
			if !alike(all[i], first[i]) {
				t.Fatal("a step has another answer when it is asked again")
			}
		}
		impl.Step(impl.Sys{}, impl.Machine{})
		runText(t, sessionWith(0), "(begin (set! x 5) (print x) x)", 30)
	}
}
