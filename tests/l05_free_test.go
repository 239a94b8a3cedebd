package tests

import (
	"math"
	"math/rand"
	"reflect"
	"slices"
	"strings"
	"testing"
	"unsafe"

	"loop.example/g00765/impl"
)

func meant(t *testing.T, s string) impl.Prog {
	t.Helper()
	p, code := expand(t, s)
	if code != impl.XpOk {
		t.Fatalf("Expand(%.80q) tells %d", s, code)
	}
	return p
}

// names: the words of a text, so that a row of the tests is short.
func names(s string) []string { return strings.Fields(s) }

func wantFreeAt(t *testing.T, p impl.Prog, i int, want string) {
	t.Helper()
	if l := impl.Free(p, i); !slices.Equal(l, names(want)) {
		t.Errorf("Free(%.300s, %d) = %v; want [%s]", progText(p), i, l, want)
	}
}

func wantFree(t *testing.T, s, want string) {
	t.Helper()
	p := meant(t, s)
	wantFreeAt(t, p, p.Root, want)
}

func wantSetsOf(t *testing.T, p impl.Prog, want string) {
	t.Helper()
	if l := impl.Sets(p); !slices.Equal(l, names(want)) {
		t.Errorf("Sets(%.300s) = %v; want [%s]", progText(p), l, want)
	}
}

func wantSets(t *testing.T, s, want string) {
	t.Helper()
	wantSetsOf(t, meant(t, s), want)
}

func wantDepthOf(t *testing.T, p impl.Prog, want int) {
	t.Helper()
	if n := impl.Depth(p); n != want {
		t.Errorf("Depth(%.300s) = %d; want %d", progText(p), n, want)
	}
}

func wantDepth(t *testing.T, s string, want int) {
	t.Helper()
	wantDepthOf(t, meant(t, s), want)
}

// wantNothing asks for the answers of a Prog that is not right.
func wantNothing(t *testing.T, what string, p impl.Prog) {
	t.Helper()
	for i := -1; i <= len(p.Nodes); i++ {
		if l := impl.Free(p, i); len(l) != 0 {
			t.Errorf("%s: Free at %d = %v; want nothing", what, i, l)
		}
	}
	if l := impl.Sets(p); len(l) != 0 {
		t.Errorf("%s: Sets = %v; want nothing", what, l)
	}
	if n := impl.Depth(p); n != 0 {
		t.Errorf("%s: Depth = %d; want 0", what, n)
	}
}

func program(nodes ...impl.Node) impl.Prog {
	return impl.Prog{Nodes: nodes, Root: len(nodes) - 1}
}

func variable(s string) impl.Node { return impl.Node{Kind: impl.NdVar, S: s} }
func sequence(args ...int) impl.Node {
	return impl.Node{Kind: impl.NdSeq, Args: args}
}
func setting(s string, arg int) impl.Node {
	return impl.Node{Kind: impl.NdSet, S: s, Args: []int{arg}}
}
func binding(arg int, s ...string) impl.Node {
	return impl.Node{Kind: impl.NdLam, Names: s, Args: []int{arg}}
}

func TestFreeOfEachKind(t *testing.T) {
	for s, want := range map[string]string{
		"7": "", "#t": "", "'()": "", "'a": "", "'(a b . c)": "", "x": "x",
		"(if a b c)":         "a b c",
		"(lambda () x)":      "x",
		"(lambda (x) x)":     "",
		"(lambda (x) y)":     "y",
		"(f)":                "f",
		"(f x y z)":          "f x y z",
		"(+ x y)":            "x y",
		"(car x)":            "x",
		"(cons (car x) y)":   "x y",
		"(make pt)":          "",
		"(make pt x y)":      "x y",
		"(field pt 3 x)":     "x",
		"(is pt x)":          "x",
		"(set! x 1)":         "",
		"(set! x y)":         "y",
		"(begin a b c)":      "a b c",
		"(begin 1 'a #t)":    "",
		"(let ((x 1)) x)":    "",
		"(let ((x y)) x)":    "y",
		"(cond (a b) (c d))": "a b c d",
		"(and a b c)":        "a b c",
		"(when a b c)":       "a b c",
	} {
		wantFree(t, s, want)
	}
}

func TestFreeInTheOrderInWhichTheyFirstStandEachOnce(t *testing.T) {
	wantFree(t, "(f x f x f)", "f x")
	wantFree(t, "(z y x w v)", "z y x w v")
	wantFree(t, "(f (g b a) (h a b) c)", "f g b a h c")
	wantFree(t, "(begin b (if c a b) a (lambda () d b))", "b c a d")
	wantFree(t, "(let ((x c)) (f x b))", "f b c")      // the function stands ahead of what is handed to it
	wantFree(t, "(or a b)", "b a")                     // as it does here
	wantFree(t, "(or a a)", "a")                       // in the function and behind it
	wantFree(t, "(let* ((x y) (y x)) (f x y))", "f y") // the y of the first, not that of the second
	wantFree(t, "(lambda (x) (f x (let ((y z)) (y g f))))", "f g z")
	// Args in their order, whatever their numbers are
	wantFreeAt(t, program(variable("b"), variable("a"), sequence(1, 0)), 2, "a b")
	wantFreeAt(t, program(variable("c"), variable("a"), binding(0), variable("b"), sequence(3, 1, 2)), 4, "b a c")
	wantFreeAt(t, program(variable("x"), variable("x"), variable("y"), binding(0, "x"), sequence(3, 2, 1)), 4, "y x")
}

func TestFreeOfNamesThatAreBoundInOnePlaceAndFreeInAnother(t *testing.T) {
	wantFree(t, "(begin (lambda (x) x) x)", "x")
	wantFree(t, "(begin x (lambda (x) x))", "x")
	wantFree(t, "(begin (lambda (x) x) y x)", "y x") // it stands where it is free, not where it is bound
	wantFree(t, "(begin (lambda (x) x y) x z)", "y x z")
	wantFree(t, "((lambda (x) x) x)", "x")
	wantFree(t, "(f (lambda (f) (f x)) (lambda (x) (f x)))", "f x")
	wantFree(t, "(let ((x x)) x)", "x")
	wantFree(t, "(let ((x y) (y x)) (f x y))", "f y x")
	wantFree(t, "(if (let ((a 1)) a) a (let ((a 2)) a))", "a")
	wantFree(t, "(lambda (y) (begin (lambda (x) x) (lambda () x) y))", "x")
	wantFree(t, "(begin (lambda (x) 1) x)", "x") // bound, though nothing asks for it there
	wantFree(t, "(begin (lambda (x) (lambda (x) x)) x)", "x")
}

func TestFreeOfNamesThatAnInnerFunctionBindsAgain(t *testing.T) {
	wantFree(t, "(lambda (x) (begin (lambda (x) x) x))", "")
	wantFree(t, "(lambda (x) (begin x (lambda (x) x) (lambda (x) x) x))", "")
	wantFree(t, "(lambda (x y) (begin ((lambda (y) (y x)) y) y x z))", "z")
	wantFree(t, "(lambda (x) (lambda (y) (lambda (x) (x y z))))", "z")
	wantFree(t, "(lambda (x) (begin (lambda (y) (begin (lambda (x) (x y)) x y)) x y))", "y")
	wantFree(t, "(let* ((x 1) (x x) (x (f x))) x)", "f")
	wantFree(t, "(or (or (or a b) c) (or d e))", "e d c b a")
}

func TestFreeTellsNoNameOfTheFunctionItself(t *testing.T) {
	wantFree(t, "(lambda (a b c d e f g h) (a b c d e f g h))", "")
	wantFree(t, "(lambda (a b c d e f g h) (a b c d (e f i) g h j))", "i j")
	wantFree(t, "(lambda (x) (lambda (y) (x y z)))", "z")
	p := meant(t, "(lambda (x) (lambda (y) (x y z)))")
	for i, want := range []string{"x", "y", "z", "x y z", "x z", "z"} { // what is around a node binds nothing in it
		wantFreeAt(t, p, i, want)
	}
	p = meant(t, "(or a b)")
	for i, want := range []string{"%t", "%t", "b", "%t b", "b", "a", "b a"} {
		wantFreeAt(t, p, i, want)
	}
}

func TestFreeTakesNoOtherNames(t *testing.T) {
	wantFree(t, "(set! q x)", "x")
	wantFree(t, "(set! x x)", "x")
	wantFree(t, "(set! x (set! y (set! z 1)))", "")
	wantFree(t, "(begin (set! x 1) (set! y x))", "x")
	wantFree(t, "(begin x (set! x 1))", "x")
	wantFree(t, "(lambda (x) (set! x x))", "")
	wantFree(t, "(lambda (x) (set! y x))", "")
	wantFree(t, "(begin (set! x 1) x)", "x") // a NdSet binds nothing
	wantFree(t, "(set! x (lambda (y) (x y)))", "x")
	wantFree(t, "(make x y)", "y")
	wantFree(t, "(make x x)", "x") // nor does a type
	wantFree(t, "(field x 0 x)", "x")
	wantFree(t, "(is x x)", "x")
	wantFree(t, "(lambda (x) (make x (is x x) y))", "y")
	wantFree(t, "(f 'x 'y)", "f")
}

func TestFreeOfNodesThatAreNot(t *testing.T) {
	for _, p := range append(ofEachKind(), meant(t, "(f x y)"), meant(t, "x")) {
		for _, i := range []int{-1, -2, len(p.Nodes), len(p.Nodes) + 1, impl.MaxNodes, math.MinInt, math.MaxInt} {
			wantFreeAt(t, p, i, "")
		}
	}
}

func TestSets(t *testing.T) {
	for s, want := range map[string]string{
		"7": "", "x": "", "'set!": "", "(f x)": "", "(lambda (x) x)": "", "(make pt x)": "",
		"(set! x 1)":          "x",
		"(set! x x)":          "x",
		"(set! x y)":          "x",
		"(set! x (set! y 2))": "y x", // the inner one ends first
		"(set! x (set! x 2))": "x",
		"(begin (set! a 1) (set! b 1) (set! a 2))":   "a b",
		"(begin (set! b 1) (set! a 1) (set! c b))":   "b a c",
		"(lambda (x) (set! x 1))":                    "x", // bound or not
		"(lambda (x) (lambda (y) (set! z (f x y))))": "z",
		"(begin (lambda (x) (set! x 1)) (set! x 2))": "x",
		"(let ((x (set! a 1))) (set! b x))":          "b a", // the function stands ahead
		"(or (set! a 1) (set! b 2))":                 "b a",
		"(if (set! c 1) (set! b 2) (set! a 3))":      "c b a",
		"(make x (set! y x))":                        "y",
	} {
		wantSets(t, s, want)
	}
	// in the order of the nodes, not in that of the Args
	one := impl.Node{Kind: impl.NdNum, N: 1}
	wantSetsOf(t, program(one, setting("b", 0), one, setting("a", 2), sequence(3, 1)), "b a")
	wantSetsOf(t, program(one, setting("%t", 0)), "%t")
	all := program(one)
	for i, name := range namesUpTo(impl.MaxNodes - 1) {
		all = program(append(all.Nodes, setting(name, i))...)
	}
	wantSetsOf(t, all, strings.Join(namesUpTo(impl.MaxNodes-1), " "))
}

func TestDepth(t *testing.T) {
	for s, want := range map[string]int{
		"7": 1, "x": 1, "'a": 1, "'()": 1, "#f": 1, "(make pt)": 1,
		"(f)":                       2,
		"(lambda (x) x)":            2,
		"(set! x 1)":                2,
		"(begin 1 2 3)":             2,
		"(f 1 2 3 4 5 6 7 8)":       2,
		"(+ 1 (* 2 3))":             3,
		"(+ (* 2 3) 1)":             3,
		"(if (f 1) 2 3)":            3,
		"(if 1 (f 2) 3)":            3,
		"(if 1 2 (f 3))":            3,
		"(f 1 (g (h 2)) (i 3) 4)":   4,
		"(f (i 3) 1 (g (h 2)))":     4,
		"(f (g (h 2)) (i 3))":       4,
		"'(1 2 3)":                  4,
		"(let ((x 1)) x)":           3,
		"(let ((x (f (g 1)))) x)":   4,
		"(begin (begin (begin 1)))": 1,
		"(or a b)":                  4,
		"((f))":                     3,
	} {
		wantDepth(t, s, want)
	}
	for i, p := range ofEachKind() {
		want := 2
		if len(p.Nodes) == 1 {
			want = 1
		}
		wantDepthOf(t, p, want)
		wantDepthOf(t, within(p), want+1)
		if t.Failed() {
			t.Fatal("kind", i)
		}
	}
}

// chain is n nodes, each inside of the next one: a variable, and functions
// around it by turns without names and with one.
func chain(n int) impl.Prog {
	p := program(variable("x7"))
	for i := range n - 1 {
		lam := binding(i)
		if i%2 == 1 {
			lam.Names = []string{"x" + impl.Dec(i)}
		}
		p = program(append(p.Nodes, lam)...)
	}
	return p
}

func TestFreeDepthAndSetsOfNodesInsideOfEachOther(t *testing.T) {
	for _, n := range []int{1, 2, impl.MaxNodes - 1, impl.MaxNodes} {
		p := chain(n)
		for i := range n {
			want := "x7"
			if i >= 8 { // node 8 is the function of x7
				want = ""
			}
			wantFreeAt(t, p, i, want)
		}
		wantDepthOf(t, p, n)
		wantSetsOf(t, p, "")
		side := program(slices.Repeat([]impl.Node{variable("x")}, n)...)
		if n > 2 {
			side.Nodes[n-1] = over(sequence(), n-1).Nodes[n-1]
			wantFreeAt(t, side, n-1, "x")
			wantDepthOf(t, side, 2)
		}
	}
	for _, n := range []int{impl.MaxNodes + 1, 2 * impl.MaxNodes} {
		wantNothing(t, impl.Dec(n)+" nodes", chain(n))
	}
	deep := chain(1 << 16)
	if len(impl.Free(deep, deep.Root)) != 0 || len(impl.Free(deep, 0)) != 0 || len(impl.Sets(deep)) != 0 || impl.Depth(deep) != 0 {
		t.Error("65536 nodes tell something")
	}
	sets := program(variable("x"))
	for i := range impl.MaxNodes {
		if i == impl.MaxNodes-1 {
			wantSetsOf(t, sets, "y")
			wantFreeAt(t, sets, sets.Root, "x")
			wantDepthOf(t, sets, impl.MaxNodes)
		}
		sets = program(append(sets.Nodes, setting("y", i))...)
	}
	wantNothing(t, "a NdSet too many", sets)
}

func TestFreeSetsAndDepthOfProgsThatAreNotRight(t *testing.T) {
	x, y := variable("x"), variable("y")
	pair := func(n impl.Node) impl.Node { n.Args = []int{0, 1}; return n }
	for what, p := range map[string]impl.Prog{
		"nothing":                     {},
		"a Root alone":                {Root: 1},
		"a Root below 0":              {Nodes: []impl.Node{x}, Root: -1},
		"a Root that is not the last": {Nodes: []impl.Node{x, setting("q", 0)}, Root: 0},
		"a Root past the last":        {Nodes: []impl.Node{x, setting("q", 0)}, Root: 2},
		"a node in two places":        program(x, sequence(0, 0)),
		"a node in two nodes":         program(x, setting("q", 0), sequence(0, 1)),
		"a node in no place":          program(x, y, setting("q", 0)),
		"an Arg that is the node":     program(setting("q", 0)),
		"an Arg behind the node":      program(setting("q", 1), x),
		"an Arg below 0":              program(x, setting("q", -1)),
		"an Arg past the last":        program(x, setting("q", 2)),
		"Args around each other":      program(x, setting("q", 2), setting("q", 1)),
		"a NdVar that is no name":     program(x, variable("if"), sequence(0, 1)),
		"a NdVar without a name":      program(x, variable(""), sequence(0, 1)),
		"a NdVar that is a number":    program(x, variable("7"), sequence(0, 1)),
		"a NdSet that is no name":     program(x, setting("car", 0)),
		"a NdSet without a name":      program(x, setting("", 0)),
		"a NdSet of two":              program(x, y, pair(setting("q", 0))),
		"a NdLam of names alike":      program(x, binding(0, "y", "y")),
		"a NdLam of no name":          program(x, binding(0, "let")),
		"a NdLam of nine names":       program(x, binding(0, namesUpTo(9)...)),
		"a NdLam of two":              program(x, y, pair(binding(0, "x"))),
		"a NdSeq of one":              program(x, sequence(0)),
		"a kind that is none":         program(x, impl.Node{Kind: 12, Args: []int{0}}),
		"a Kind of 0":                 program(x, impl.Node{Args: []int{0}}),
		"a number that is too great":  program(x, impl.Node{Kind: impl.NdNum, N: impl.MaxWord + 1}, sequence(0, 1)),
		"a NdVar with an Arg":         program(x, impl.Node{Kind: impl.NdVar, S: "y", Args: []int{0}}),
		"a NdVar with Names":          program(x, impl.Node{Kind: impl.NdVar, S: "y", Names: []string{"x"}}, sequence(0, 1)),
		"a wrong node beside a right": program(x, setting("q", 0), impl.Node{Kind: 99}, sequence(1, 2)),
	} {
		wantNothing(t, what, p)
	}
}

// plantation makes right programs by chance, their nodes not in the order of their Args.
type plantation struct{ r *rand.Rand }

func (m plantation) some(low, high int) []string {
	pool := []string{"a", "b", "c", "d", "%t"}
	m.r.Shuffle(len(pool), func(i, k int) { pool[i], pool[k] = pool[k], pool[i] })
	return slices.Clone(pool[:low+m.r.Intn(high-low+1)])
}

func (m plantation) leaf() impl.Node {
	switch m.r.Intn(8) {
	case 0:
		return impl.Node{Kind: impl.NdNum, N: m.r.Intn(9)}
	case 1:
		return impl.Node{Kind: impl.NdSym, S: "a"}
	case 2:
		return impl.Node{Kind: impl.NdPrim, S: "make", Names: m.some(1, 1)}
	}
	return variable(m.some(1, 1)[0])
}

// branch is a node without its Args, and how many it takes.
func (m plantation) branch() (impl.Node, int) {
	switch m.r.Intn(10) {
	case 0:
		return impl.Node{Kind: impl.NdIf}, 3
	case 1:
		return impl.Node{Kind: impl.NdCall}, 1 + m.r.Intn(4)
	case 2:
		return impl.Node{Kind: impl.NdPrim, S: "cons"}, 2
	case 3:
		return impl.Node{Kind: impl.NdPrim, S: "make", Names: m.some(1, 1)}, m.r.Intn(4)
	case 4:
		return impl.Node{Kind: impl.NdPrim, S: "field", N: m.r.Intn(8), Names: m.some(1, 1)}, 1
	case 5:
		return impl.Node{Kind: impl.NdSet, S: m.some(1, 1)[0]}, 1
	case 6:
		return impl.Node{Kind: impl.NdSeq}, 2 + m.r.Intn(3)
	}
	return impl.Node{Kind: impl.NdLam, Names: m.some(0, 3)}, 1
}

// take moves n of the nodes that are no Arg yet into those of a node.
func (m plantation) take(open *[]int, n int) []int {
	m.r.Shuffle(len(*open), func(i, k int) { (*open)[i], (*open)[k] = (*open)[k], (*open)[i] })
	args := slices.Clone((*open)[:n])
	*open = slices.Delete(*open, 0, n)
	return args
}

func (m plantation) program(n int) impl.Prog {
	var p impl.Prog
	var open []int
	for range n {
		node, args := m.branch()
		if args > len(open) || m.r.Intn(3) == 0 {
			node, args = m.leaf(), 0
		}
		node.Args = m.take(&open, args)
		open = append(open, len(p.Nodes))
		p.Nodes = append(p.Nodes, node)
	}
	root := impl.Node{Kind: impl.NdLam, Names: m.some(0, 2)}
	if len(open) > 1 {
		root = impl.Node{Kind: impl.NdSeq}
	}
	root.Args = m.take(&open, len(open))
	return program(append(p.Nodes, root)...)
}

// parents tells of each node the one of which it is an Arg, of the Root -1.
func parents(p impl.Prog) []int {
	all := slices.Repeat([]int{-1}, len(p.Nodes))
	for i, n := range p.Nodes {
		for _, arg := range n.Args {
			all[arg] = i
		}
	}
	return all
}

// leavesOf tells the nodes in node i that have no Args, as they stand.
func leavesOf(p impl.Prog, i int) []int {
	if len(p.Nodes[i].Args) == 0 {
		return []int{i}
	}
	var all []int
	for _, arg := range p.Nodes[i].Args {
		all = append(all, leavesOf(p, arg)...)
	}
	return all
}

// freeByClimbing asks from each variable upward who binds it, up to node i.
func freeByClimbing(p impl.Prog, i int) []string {
	up := parents(p)
	var free []string
	for _, leaf := range leavesOf(p, i) {
		if p.Nodes[leaf].Kind != impl.NdVar || slices.Contains(free, p.Nodes[leaf].S) {
			continue
		}
		bound := false
		for k := leaf; k != up[i]; k = up[k] {
			bound = bound || p.Nodes[k].Kind == impl.NdLam && slices.Contains(p.Nodes[k].Names, p.Nodes[leaf].S)
		}
		if !bound {
			free = append(free, p.Nodes[leaf].S)
		}
	}
	return free
}

// depthByClimbing is the longest way from a node up to the Root.
func depthByClimbing(p impl.Prog) int {
	up := parents(p)
	most := 0
	for i := range p.Nodes {
		n := 0
		for k := i; k >= 0; k = up[k] {
			n++
		}
		most = max(most, n)
	}
	return most
}

// wantPromised asks P5 of each node, and holds all answers against the others.
func wantPromised(t *testing.T, p impl.Prog) {
	t.Helper()
	var sets []string
	for i, n := range p.Nodes {
		free := impl.Free(p, i)
		if want := freeByClimbing(p, i); !slices.Equal(free, want) {
			t.Errorf("Free(%.300s, %d) = %v; want %v", progText(p), i, free, want)
		}
		for _, name := range free {
			is := func(leaf int) bool { return p.Nodes[leaf].Kind == impl.NdVar && p.Nodes[leaf].S == name }
			if !slices.ContainsFunc(leavesOf(p, i), is) {
				t.Errorf("Free(%.300s, %d): %s is no variable there", progText(p), i, name)
			}
			if n.Kind == impl.NdLam && slices.Contains(n.Names, name) {
				t.Errorf("Free(%.300s, %d): %s is a name of the function itself", progText(p), i, name)
			}
		}
		if n.Kind == impl.NdSet && !slices.Contains(sets, n.S) {
			sets = append(sets, n.S)
		}
	}
	wantSetsOf(t, p, strings.Join(sets, " "))
	wantDepthOf(t, p, depthByClimbing(p))
}

func TestFreeSetsAndDepthByChance(t *testing.T) {
	t.Parallel()
	m := plantation{rand.New(rand.NewSource(5))}
	free, none := 0, 0
	for i := range 1500 {
		p := m.program(1 + i%40)
		if !impl.ProgOk(p) {
			t.Fatal("no right program", progText(p))
		}
		wantPromised(t, p)
		if len(impl.Free(p, p.Root)) > 1 {
			free++
		} else {
			none++
		}
	}
	if free < 100 || none < 100 {
		t.Error("too much alike", free, none)
	}
	for range 5 {
		wantPromised(t, m.program(impl.MaxNodes-1))
	}
	f := maker{rand.New(rand.NewSource(6))}
	for i := range 1000 {
		if p, code := impl.Expand(read(t, f.form(1+i%3)), 0); code == impl.XpOk {
			wantPromised(t, p)
		}
	}
}

// roomy is p with spare room behind each of its lists, which is filled.
func roomy(p impl.Prog) impl.Prog {
	q := impl.Prog{Nodes: append(slices.Clone(p.Nodes), variable("spare"))[:len(p.Nodes)], Root: p.Root}
	for i, n := range p.Nodes {
		q.Nodes[i].Names = append(slices.Clone(n.Names), "spare")[:len(n.Names)]
		q.Nodes[i].Args = append(slices.Clone(n.Args), -9)[:len(n.Args)]
	}
	return q
}

// whole is p with what stands in the room that roomy made.
func whole(p impl.Prog) impl.Prog {
	q := impl.Prog{Nodes: slices.Clone(p.Nodes[:len(p.Nodes)+1]), Root: p.Root}
	for i, n := range p.Nodes {
		q.Nodes[i].Names = slices.Clone(n.Names[:len(n.Names)+1])
		q.Nodes[i].Args = slices.Clone(n.Args[:len(n.Args)+1])
	}
	return q
}

func TestFreeSetsAndDepthLeaveTheirArgument(t *testing.T) {
	m := plantation{rand.New(rand.NewSource(7))}
	for i := range 100 {
		p := roomy(m.program(1 + i))
		if i%4 == 0 {
			p.Nodes[0].S = "if" // no name
		}
		before := whole(p)
		for k := range p.Nodes {
			impl.Free(p, k)
		}
		impl.Sets(p)
		impl.Depth(p)
		if !reflect.DeepEqual(whole(p), before) {
			t.Errorf("%.300s is changed", progText(p))
		}
	}
}

// sharesText: does one of the names stand where a text of the program stands?
func sharesText(l []string, p impl.Prog) bool {
	for _, n := range p.Nodes {
		for _, s := range append(slices.Clone(n.Names), n.S) {
			for _, name := range l {
				if len(s) > 0 && unsafe.StringData(s) == unsafe.StringData(name) {
					return true
				}
			}
		}
	}
	return false
}

func TestFreeAndSetsAnswerNewMemory(t *testing.T) {
	p := meant(t, "(lambda (x) (set! first (f x y)) (set! second (g f)) (lambda (y) (z y first)))")
	for _, ask := range []func() []string{
		func() []string { return impl.Free(p, p.Root) },
		func() []string { return impl.Sets(p) },
	} {
		one, two := ask(), ask()
		want := slices.Clone(two)
		if len(one) < 2 || sharesText(one, p) {
			t.Error("an answer shares a text, or is too short", one)
		}
		for i := range one {
			one[i] = "other"
		}
		_ = append(one, "behind")
		if !slices.Equal(two, want) || !slices.Equal(ask(), want) {
			t.Errorf("one answer is written into another: %v; want %v", two, want)
		}
	}
	wantPromised(t, p)
}
