package tests

import (
	"fmt"
	"math"
	"reflect"
	"slices"
	"strings"
	"testing"

	"loop.example/g00765/impl"
)

var words = []string{"quote", "if", "lambda", "begin", "set!", "let", "let*", "cond", "else", "and", "or", "when", "define"}

var arities = map[string]int{
	"+": 2, "-": 2, "*": 2, "<": 2, "=": 2, "eq?": 2, "cons": 2,
	"car": 1, "cdr": 1, "null?": 1, "pair?": 1, "not": 1, "print": 1, "error": 1,
	"make": 0, "field": 1, "is": 1,
}

func wantName(t *testing.T, s string, want bool) {
	t.Helper()
	if is := impl.IsName(s); is != want {
		t.Errorf("IsName(%q) = %v; want %v", s, is, want)
	}
}

func wantArity(t *testing.T, s string, want int) {
	t.Helper()
	if n := impl.Arity(s); n != want {
		t.Errorf("Arity(%q) = %d; want %d", s, n, want)
	}
}

func wantProg(t *testing.T, what string, p impl.Prog, want bool) {
	t.Helper()
	if ok := impl.ProgOk(p); ok != want {
		t.Errorf("%s: ProgOk = %v; want %v: %.300s", what, ok, want, fmt.Sprintf("%+v", p))
	}
}

// readsAsSymbol: is s a DaSym as Read makes it?
func readsAsSymbol(s string) bool {
	d, bad := impl.Read(s)
	return bad == -1 && len(d.Cells) == 1 && d.Cells[0] == sym(s)
}

// readsAsName says what a name is in the document's own words.
func readsAsName(s string) bool {
	_, primitive := arities[s]
	return s == "%t" || readsAsSymbol(s) && !slices.Contains(words, s) && !primitive
}

// primitives are sorted, so that each run asks in the same order.
func primitives() []string {
	var all []string
	for s := range arities {
		all = append(all, s)
	}
	slices.Sort(all)
	return all
}

// nearby: texts like s but for a byte.
func nearby(s string) []string {
	all := []string{s + s}
	for i := range len(s) + 1 {
		for _, c := range []string{"a", "z", "1", "!", "?", "*", "-", "%", "#", ".", " ", "\n", "A", "\x00", "\xff"} {
			all = append(all, s[:i]+c+s[i:])
			if i < len(s) {
				all = append(all, s[:i]+c+s[i+1:])
			}
		}
		if i < len(s) {
			all = append(all, s[:i]+s[i+1:], s[:i]+strings.ToUpper(s[i:i+1])+s[i+1:])
		}
	}
	return slices.DeleteFunc(all, func(n string) bool { return n == s })
}

// over is a program of a node whose Args are args NdNums.
func over(n impl.Node, args int) impl.Prog {
	var p impl.Prog
	n.Args = nil
	for i := range args {
		p.Nodes = append(p.Nodes, impl.Node{Kind: impl.NdNum, N: i % 1000})
		n.Args = append(n.Args, i)
	}
	p.Nodes = append(p.Nodes, n)
	p.Root = args
	return p
}

// within puts the Root of p into a NdLam, as no node is judged as a Root alone.
func within(p impl.Prog) impl.Prog {
	nodes := append(slices.Clone(p.Nodes), impl.Node{Kind: impl.NdLam, Args: []int{p.Root}})
	return impl.Prog{Nodes: nodes, Root: len(nodes) - 1}
}

func namesUpTo(n int) []string {
	var all []string
	for i := range n {
		all = append(all, "x"+impl.Dec(i))
	}
	return all
}

func TestNamesTold(t *testing.T) {
	for _, s := range []string{
		"%t", "x", "f1", "a", "z", "set", "library", "import", "export", "record", "convert", "t", "quot", "quotes", "iff",
		"!", "?", "/", ">", "_", "--", "->", "<=", "+1", "-0", "-01", "-a", "x?", "let**", "lets", "begin0", "=>", "-1234567890",
		"abcdefghijklmnop", strings.Repeat("-", 16), "_0123456789abcde",
	} {
		wantName(t, s, true)
		wantArity(t, s, -1)
	}
	for _, s := range []string{
		"", "%", "%u", "%tt", "t%", "%t ", " %t", "%T", "%%t", "%t%t", "%x", // no hidden name but the one
		"0", "7", "-1", "-7", "1000000", "1000001", "-1000001", "999999999", "1a", "1234567890", // numbers, and what begins as one
		"abcdefghijklmnopq", strings.Repeat("x", 17), strings.Repeat("x", 1000), // too long
		"#t", "#f", "#", "x#", ".", "x.y", "..", // not of a symbol's bytes
		"()", "(x)", "'x", "x y", " x", "x ", "x\n", "\tx", "x;", ";x", "x)", "X", "aB", "\x00", "x\x00", "\xff", "é", "\"x\"",
	} {
		wantName(t, s, false)
		wantArity(t, s, -1)
	}
}

func TestWordsAreNoNames(t *testing.T) {
	for _, w := range words {
		wantName(t, w, false)
		wantArity(t, w, -1)
		for _, n := range nearby(w) {
			wantName(t, n, readsAsName(n))
		}
	}
}

func TestPrimitivesAreNoNames(t *testing.T) {
	for _, p := range primitives() {
		wantName(t, p, false)
		wantArity(t, p, arities[p])
		for _, n := range nearby(p) {
			wantName(t, n, readsAsName(n))
			if _, is := arities[n]; !is {
				wantArity(t, n, -1)
			}
		}
	}
}

func TestNamesAreWhatReadMakes(t *testing.T) {
	names := 0
	eachText("if%t-1+o. r", 4, func(s string) {
		wantName(t, s, readsAsName(s))
		if impl.IsName(s) {
			names++
		}
	})
	if names == 0 {
		t.Error("there is no name at all")
	}
}

// ofEachKind: of each kind of node, and each primitive, an ordinary right program.
func ofEachKind() []impl.Prog {
	all := []impl.Prog{
		over(impl.Node{Kind: impl.NdNum, N: 7}, 0),
		over(impl.Node{Kind: impl.NdNum}, 0),
		over(impl.Node{Kind: impl.NdBool, N: 1}, 0),
		over(impl.Node{Kind: impl.NdBool}, 0),
		over(impl.Node{Kind: impl.NdNil}, 0),
		over(impl.Node{Kind: impl.NdSym, S: "a"}, 0),
		over(impl.Node{Kind: impl.NdVar, S: "x"}, 0),
		over(impl.Node{Kind: impl.NdIf}, 3),
		over(impl.Node{Kind: impl.NdLam}, 1),
		over(impl.Node{Kind: impl.NdLam, Names: []string{"x", "y"}}, 1),
		over(impl.Node{Kind: impl.NdCall}, 1),
		over(impl.Node{Kind: impl.NdCall}, 4),
		over(impl.Node{Kind: impl.NdSet, S: "x"}, 1),
		over(impl.Node{Kind: impl.NdSeq}, 2),
		over(impl.Node{Kind: impl.NdSeq}, 3),
		over(impl.Node{Kind: impl.NdPrim, S: "make", Names: []string{"pt"}}, 0),
		over(impl.Node{Kind: impl.NdPrim, S: "make", Names: []string{"pt"}}, 3),
		over(impl.Node{Kind: impl.NdPrim, S: "field", N: 2, Names: []string{"pt"}}, 1),
		over(impl.Node{Kind: impl.NdPrim, S: "is", Names: []string{"pt"}}, 1),
	}
	for _, s := range primitives() {
		if s != "make" && s != "field" && s != "is" {
			all = append(all, over(impl.Node{Kind: impl.NdPrim, S: s}, arities[s]))
		}
	}
	return all
}

func TestProgramsOfEachKind(t *testing.T) {
	for i, p := range ofEachKind() {
		wantProg(t, "kind "+impl.Dec(i), p, true)
		wantProg(t, "within "+impl.Dec(i), within(p), true)
	}
	if kinds := []int{impl.NdNum, impl.NdBool, impl.NdNil, impl.NdSym, impl.NdVar, impl.NdIf, impl.NdLam, impl.NdCall, impl.NdPrim, impl.NdSet, impl.NdSeq}; !slices.Equal(kinds, []int{1, 2, 3, 4, 5, 6, 7, 8, 9, 10, 11}) {
		t.Error("kinds", kinds)
	}
	if impl.MaxNodes != 400 {
		t.Error("nodes", impl.MaxNodes)
	}
}

func TestEmptyListsAreNoLists(t *testing.T) {
	for i, p := range ofEachKind() {
		for k := range p.Nodes {
			if n := &p.Nodes[k]; len(n.Names) == 0 {
				n.Names = []string{}
			}
			if n := &p.Nodes[k]; len(n.Args) == 0 {
				n.Args = []int{}
			}
		}
		wantProg(t, "empty lists of "+impl.Dec(i), p, true)
	}
}

// A field that is not named for a kind is zero.
func TestFieldsThatAreNotNamed(t *testing.T) {
	hasN := func(n impl.Node) bool { return n.Kind <= impl.NdBool || n.S == "field" }
	for i, p := range ofEachKind() {
		n := p.Nodes[p.Root]
		for what, change := range map[string]func(*impl.Node){
			"N 1":         func(n *impl.Node) { n.N = 1 },
			"N -1":        func(n *impl.Node) { n.N = -1 },
			"S x":         func(n *impl.Node) { n.S = "x" },
			"S car":       func(n *impl.Node) { n.S = "car" },
			"S blank":     func(n *impl.Node) { n.S = " " },
			"Names x":     func(n *impl.Node) { n.Names = []string{"x"} },
			"Names empty": func(n *impl.Node) { n.Names = []string{""} },
		} {
			field := what[:strings.IndexByte(what, ' ')]
			if field == "N" && hasN(n) || field == "S" && n.S != "" || field == "Names" && (len(n.Names) > 0 || n.Kind == impl.NdLam) {
				continue
			}
			q := impl.Prog{Nodes: slices.Clone(p.Nodes), Root: p.Root}
			change(&q.Nodes[q.Root])
			wantProg(t, what+" of "+impl.Dec(i), q, false)
			wantProg(t, what+" within "+impl.Dec(i), within(q), false)
		}
	}
	for _, n := range []impl.Node{
		{Kind: impl.NdNum, N: 7}, {Kind: impl.NdBool, N: 1}, {Kind: impl.NdNil}, {Kind: impl.NdSym, S: "a"}, {Kind: impl.NdVar, S: "x"},
	} {
		wantProg(t, "an Arg of a leaf", over(n, 1), false)
		wantProg(t, "three Args of a leaf", over(n, 3), false)
	}
}

func TestEdgesOfN(t *testing.T) {
	for _, c := range []struct {
		n    int
		want bool
	}{
		{-impl.MaxWord, true}, {impl.MaxWord, true}, {-impl.MaxWord - 1, false}, {impl.MaxWord + 1, false},
		{math.MinInt, false}, {math.MaxInt, false}, {0, true}, {-1, true},
	} {
		wantProg(t, "NdNum", over(impl.Node{Kind: impl.NdNum, N: c.n}, 0), c.want)
	}
	for n := -2; n <= 10; n++ {
		wantProg(t, "NdBool", over(impl.Node{Kind: impl.NdBool, N: n}, 0), n == 0 || n == 1)
		field := impl.Node{Kind: impl.NdPrim, S: "field", N: n, Names: []string{"pt"}}
		wantProg(t, "field", over(field, 1), n >= 0 && n <= 7)
		field.S = "is"
		wantProg(t, "is", over(field, 1), n == 0)
		field.S = "make"
		wantProg(t, "make", over(field, 1), n == 0)
	}
	wantProg(t, "field", over(impl.Node{Kind: impl.NdPrim, S: "field", N: math.MaxInt, Names: []string{"pt"}}, 1), false)
	wantProg(t, "field", over(impl.Node{Kind: impl.NdPrim, S: "field", N: math.MinInt, Names: []string{"pt"}}, 1), false)
}

func TestHowManyArgs(t *testing.T) {
	type most struct{ low, high int }
	args := map[int]most{
		impl.NdNum: {0, 0}, impl.NdBool: {0, 0}, impl.NdNil: {0, 0}, impl.NdSym: {0, 0}, impl.NdVar: {0, 0},
		impl.NdIf: {3, 3}, impl.NdLam: {1, 1}, impl.NdCall: {1, 9}, impl.NdSet: {1, 1}, impl.NdSeq: {2, impl.MaxNodes - 1},
	}
	texts := map[int]string{impl.NdSym: "a", impl.NdVar: "x", impl.NdSet: "x"}
	for kind, m := range args {
		for n := range impl.MaxNodes + 3 {
			what := impl.Dec(n) + " Args of kind " + impl.Dec(kind)
			wantProg(t, what, over(impl.Node{Kind: kind, S: texts[kind]}, n), n >= m.low && n <= m.high)
		}
	}
	for _, s := range primitives() {
		node := impl.Node{Kind: impl.NdPrim, S: s}
		m := most{arities[s], arities[s]}
		switch s {
		case "make":
			m.high = 8
			fallthrough
		case "field", "is":
			node.Names = []string{"pt"}
		}
		for n := range 12 {
			wantProg(t, impl.Dec(n)+" Args of "+s, over(node, n), n >= m.low && n <= m.high)
		}
	}
}

func TestNamesOfNodes(t *testing.T) {
	for n := range 12 {
		wantProg(t, "names of a NdLam", over(impl.Node{Kind: impl.NdLam, Names: namesUpTo(n)}, 1), n <= 8)
	}
	for _, names := range [][]string{
		{"x", "x"}, {"x", "y", "x"}, {"x", "y", "y"}, {"%t", "%t"}, {"x1", "x2", "x3", "x4", "x5", "x6", "x7", "x1"},
		{""}, {"x", ""}, {"7"}, {"if"}, {"x", "car"}, {"%u"}, {"abcdefghijklmnopq"}, {"x", "y z"}, {"X"}, {"#t"},
	} {
		wantProg(t, "a NdLam", over(impl.Node{Kind: impl.NdLam, Names: names}, 1), false)
	}
	for _, names := range [][]string{{"%t"}, {"x", "%t"}, {"x", "xx"}, {"abcdefghijklmnop", "abcdefghijklmno"}, {"library"}} {
		wantProg(t, "a NdLam", over(impl.Node{Kind: impl.NdLam, Names: names}, 1), true)
	}
	for _, s := range []string{"make", "field", "is"} {
		node := impl.Node{Kind: impl.NdPrim, S: s}
		wantProg(t, "no type of "+s, over(node, 1), false)
		for _, names := range [][]string{{"pt", "pu"}, {"pt", "pt"}, {"pt", ""}, {""}, {"if"}, {"make"}, {"7"}, {"%u"}, {"pt "}} {
			node.Names = names
			wantProg(t, "names of "+s, over(node, 1), false)
		}
		for _, names := range [][]string{{"pt"}, {"%t"}, {"x"}} {
			node.Names = names
			wantProg(t, "names of "+s, over(node, 1), true)
		}
	}
}

func TestTextsOfNodes(t *testing.T) {
	all := []string{"x", "%t", "a1", "", "7", "-1", "1a", "#t", "%u", "x y", "x ", "X", ".", "abcdefghijklmnop", "abcdefghijklmnopq", "()", "'x", "-0", "--"}
	all = append(append(all, words...), primitives()...)
	for _, s := range all {
		_, primitive := arities[s]
		wantProg(t, "NdSym", over(impl.Node{Kind: impl.NdSym, S: s}, 0), readsAsSymbol(s))
		wantProg(t, "NdVar", over(impl.Node{Kind: impl.NdVar, S: s}, 0), readsAsName(s))
		wantProg(t, "NdSet", over(impl.Node{Kind: impl.NdSet, S: s}, 1), readsAsName(s))
		wantProg(t, "NdPrim", over(impl.Node{Kind: impl.NdPrim, S: s}, arities[s]), primitive && s != "make" && s != "field" && s != "is")
		for n := range 4 {
			if !primitive {
				wantProg(t, "NdPrim", over(impl.Node{Kind: impl.NdPrim, S: s}, n), false)
				wantProg(t, "NdPrim", over(impl.Node{Kind: impl.NdPrim, S: s, Names: []string{"pt"}}, n), false)
			}
		}
	}
}

func TestKindsThatAreNone(t *testing.T) {
	for _, kind := range []int{0, -1, 12, 13, 14, 100, math.MinInt, math.MaxInt} {
		for args := range 4 {
			for _, n := range []impl.Node{
				{}, {N: 1}, {S: "x"}, {S: "car"}, {S: "make", Names: []string{"pt"}}, {Names: []string{"x"}}, {S: "field", Names: []string{"pt"}},
			} {
				n.Kind = kind
				wantProg(t, "a kind that is none", over(n, args), false)
				wantProg(t, "a kind that is none", within(over(n, args)), false)
			}
		}
	}
}

func TestWhereNodesStand(t *testing.T) {
	one := impl.Node{Kind: impl.NdNum, N: 1}
	two := func(a, b int) impl.Node { return impl.Node{Kind: impl.NdSeq, Args: []int{a, b}} }
	lam := func(a int) impl.Node { return impl.Node{Kind: impl.NdLam, Args: []int{a}} }
	for i, c := range []struct {
		nodes []impl.Node
		root  int
		want  bool
	}{
		{nil, 0, false}, {[]impl.Node{}, 0, false}, {nil, -1, false}, {nil, 1, false},
		{[]impl.Node{one}, 0, true}, {[]impl.Node{one}, 1, false}, {[]impl.Node{one}, -1, false}, {[]impl.Node{one}, math.MaxInt, false}, {[]impl.Node{one}, math.MinInt, false},
		{[]impl.Node{one, lam(0)}, 1, true}, {[]impl.Node{one, lam(0)}, 0, false}, {[]impl.Node{one, lam(0)}, 2, false},
		{[]impl.Node{one, lam(1)}, 1, false}, {[]impl.Node{one, lam(2)}, 1, false}, {[]impl.Node{one, lam(-1)}, 1, false}, {[]impl.Node{one, lam(math.MaxInt)}, 1, false}, {[]impl.Node{one, lam(math.MinInt)}, 1, false},
		{[]impl.Node{lam(1), one}, 0, false}, {[]impl.Node{lam(1), one}, 1, false}, {[]impl.Node{lam(0)}, 0, false}, {[]impl.Node{lam(-1)}, 0, false},
		{[]impl.Node{one, one}, 1, false}, {[]impl.Node{one, one}, 0, false}, {[]impl.Node{one, one, lam(0)}, 2, false}, {[]impl.Node{one, one, lam(1)}, 2, false},
		{[]impl.Node{one, one, two(0, 1)}, 2, true}, {[]impl.Node{one, one, two(1, 0)}, 2, true}, {[]impl.Node{one, one, two(0, 0)}, 2, false}, {[]impl.Node{one, one, two(1, 1)}, 2, false},
		{[]impl.Node{one, one, two(0, 2)}, 2, false}, {[]impl.Node{one, one, two(0, -1)}, 2, false}, {[]impl.Node{one, two(0, 0)}, 1, false},
		{[]impl.Node{one, lam(0), lam(1)}, 2, true}, {[]impl.Node{one, lam(0), lam(0)}, 2, false}, {[]impl.Node{one, lam(0), two(0, 1)}, 2, false},
		{[]impl.Node{one, lam(2), lam(1)}, 2, false}, {[]impl.Node{one, lam(2), lam(0)}, 2, false},
		{[]impl.Node{one, one, lam(0), two(1, 2)}, 3, true}, {[]impl.Node{one, one, lam(0), two(2, 1)}, 3, true}, {[]impl.Node{one, one, lam(0), two(0, 1)}, 3, false},
		{[]impl.Node{one, one, two(0, 1), one}, 2, false}, {[]impl.Node{one, one, two(0, 1), one}, 3, false},
	} {
		wantProg(t, "nodes "+impl.Dec(i), impl.Prog{Nodes: c.nodes, Root: c.root}, c.want)
	}
}

func TestHowManyNodes(t *testing.T) {
	for _, n := range []int{1, 2, impl.MaxNodes - 1, impl.MaxNodes, impl.MaxNodes + 1, 2 * impl.MaxNodes, 1 << 16} {
		chain := over(impl.Node{Kind: impl.NdNil}, 0)
		for range n - 1 {
			chain.Nodes = append(chain.Nodes, impl.Node{Kind: impl.NdLam, Args: []int{chain.Root}})
			chain.Root++
		}
		wantProg(t, impl.Dec(n)+" nodes inside of each other", chain, n <= impl.MaxNodes)
	}
	for _, n := range []int{impl.MaxNodes - 1, impl.MaxNodes, impl.MaxNodes + 1, 1 << 16} {
		wantProg(t, impl.Dec(n)+" nodes side by side", over(impl.Node{Kind: impl.NdSeq}, n-1), n <= impl.MaxNodes)
	}
	long := make([]int, 1<<16)
	wantProg(t, "more Args than nodes", impl.Prog{Nodes: []impl.Node{{Kind: impl.NdNil}, {Kind: impl.NdSeq, Args: long}}, Root: 1}, false)
}

// rightNode says what a node is in the document's own words; its Args are as many as asked for.
func rightNode(n impl.Node, args int) bool {
	number, text, names := n.N == 0, n.S == "", len(n.Names) == 0
	typed := len(n.Names) == 1 && readsAsName(n.Names[0])
	switch n.Kind {
	case impl.NdNum:
		return n.N >= -1000000 && n.N <= 1000000 && text && names && args == 0
	case impl.NdBool:
		return (n.N == 0 || n.N == 1) && text && names && args == 0
	case impl.NdNil:
		return number && text && names && args == 0
	case impl.NdSym:
		return number && readsAsSymbol(n.S) && names && args == 0
	case impl.NdVar:
		return number && readsAsName(n.S) && names && args == 0
	case impl.NdIf:
		return number && text && names && args == 3
	case impl.NdLam:
		unlike := len(slices.Compact(slices.Sorted(slices.Values(n.Names)))) == len(n.Names)
		all := !slices.ContainsFunc(n.Names, func(s string) bool { return !readsAsName(s) })
		return number && text && unlike && all && len(n.Names) <= 8 && args == 1
	case impl.NdCall:
		return number && text && names && args >= 1 && args <= 9
	case impl.NdSet:
		return number && readsAsName(n.S) && names && args == 1
	case impl.NdSeq:
		return number && text && names && args >= 2
	case impl.NdPrim:
		takes, primitive := arities[n.S]
		switch n.S {
		case "make":
			return number && typed && args <= 8
		case "field":
			return n.N >= 0 && n.N <= 7 && typed && args == 1
		case "is":
			return number && typed && args == 1
		}
		return primitive && number && names && args == takes
	}
	return false
}

func TestNodesOfAllShapes(t *testing.T) {
	t.Parallel()
	texts := []string{"", "x", "%t", "7", "if", "car", "cons", "make", "field", "is"}
	lists := [][]string{nil, {"x"}, {"%t"}, {"if"}, {""}, {"x", "y"}, {"x", "x"}, namesUpTo(8), namesUpTo(9)}
	numbers := []int{0, 1, -1, 2, 7, 8, impl.MaxWord, impl.MaxWord + 1, -impl.MaxWord, -impl.MaxWord - 1}
	right := 0
	for kind := -1; kind <= 17; kind++ {
		for _, s := range texts {
			for _, names := range lists {
				for _, n := range numbers {
					for _, args := range []int{0, 1, 2, 3, 4, 8, 9, 10} {
						node := impl.Node{Kind: kind, N: n, S: s, Names: names}
						want := rightNode(node, args)
						wantProg(t, "shape", over(node, args), want)
						if want {
							right++
						}
					}
				}
			}
		}
	}
	if right == 0 {
		t.Error("no shape is right")
	}
}

func TestProgOkLeavesItsArgument(t *testing.T) {
	for i, p := range ofEachKind() {
		q := impl.Prog{Nodes: slices.Clone(p.Nodes), Root: p.Root}
		for k := range q.Nodes {
			q.Nodes[k].Names = slices.Clone(p.Nodes[k].Names)
			q.Nodes[k].Args = slices.Clone(p.Nodes[k].Args)
		}
		impl.ProgOk(p)
		if !reflect.DeepEqual(p, q) {
			t.Errorf("program %d is changed: %+v; it was %+v", i, p, q)
		}
	}
}
