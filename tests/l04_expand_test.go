package tests

import (
	"math"
	"math/rand"
	"reflect"
	"slices"
	"strings"
	"testing"

	"loop.example/g00765/impl"
)

// nodeText writes a node down: its kind, what it has, the numbers of its Args.
func nodeText(n impl.Node) string {
	var all []string
	switch n.Kind {
	case impl.NdNum:
		all = append(all, impl.Dec(n.N))
	case impl.NdBool:
		all = append(all, []string{"#f", "#t"}[n.N])
	case impl.NdNil:
		all = append(all, "()")
	case impl.NdSym:
		all = append(all, "'"+n.S)
	case impl.NdIf:
		all = append(all, "if")
	case impl.NdLam:
		all = append(all, "lambda("+strings.Join(n.Names, " ")+")")
	case impl.NdCall:
		all = append(all, "call")
	case impl.NdPrim:
		all = append(append(all, "prim", n.S), n.Names...)
		if n.S == "field" {
			all = append(all, "at", impl.Dec(n.N))
		}
	case impl.NdSet:
		all = append(all, "set!", n.S)
	case impl.NdSeq:
		all = append(all, "begin")
	default:
		all = append(all, n.S)
	}
	for _, arg := range n.Args {
		all = append(all, impl.Dec(arg))
	}
	return strings.Join(all, " ")
}

func progText(p impl.Prog) string {
	var all []string
	for _, n := range p.Nodes {
		all = append(all, nodeText(n))
	}
	return strings.Join(all, " | ")
}

func read(t *testing.T, s string) impl.Data {
	t.Helper()
	d, bad := impl.Read(s)
	if bad != -1 {
		t.Fatalf("Read(%.60q) is refused at %d", s, bad)
	}
	return d
}

// expand tells what the first form of s means, which must be right, or the code.
func expand(t *testing.T, s string) (impl.Prog, int) {
	t.Helper()
	p, code := impl.Expand(read(t, s), 0)
	if code == impl.XpOk && !impl.ProgOk(p) {
		t.Errorf("Expand(%.80q) is not ProgOk: %s", s, progText(p))
	}
	if code != impl.XpOk && (len(p.Nodes) != 0 || p.Root != 0) {
		t.Errorf("Expand(%.80q) = %s beside the code %d; want the zero Prog", s, progText(p), code)
	}
	return p, code
}

// wantMeant asks for the nodes, one by one; ProgOk tells that all else is zero.
func wantMeant(t *testing.T, s string, want ...string) {
	t.Helper()
	p, code := expand(t, s)
	if all := strings.Join(want, " | "); code != impl.XpOk || progText(p) != all {
		t.Errorf("Expand(%.80q) = %s, %d; want %s", s, progText(p), code, all)
	}
}

func wantCode(t *testing.T, s string, want int) {
	t.Helper()
	if _, code := expand(t, s); code != want {
		t.Errorf("Expand(%.80q) tells %d; want %d", s, code, want)
	}
}

func wantBad(t *testing.T, all ...string) {
	t.Helper()
	for _, s := range all {
		wantCode(t, s, impl.XpBad)
	}
}

// wantAlike asks whether a short form means what a long one does. What or binds
// cannot be written, so the long form has the name tt in its place.
func wantAlike(t *testing.T, short, long string) {
	t.Helper()
	a, code := expand(t, short)
	b, other := expand(t, long)
	if code != impl.XpOk || other != impl.XpOk {
		t.Errorf("%.80q tells %d, %.80q %d; want %d of both", short, code, long, other, impl.XpOk)
		return
	}
	if got, want := strings.ReplaceAll(progText(a), "%t", "tt"), progText(b); got != want || a.Root != b.Root {
		t.Errorf("%.80q means %s; %.80q means %s", short, got, long, want)
	}
}

func repeated(s string, n int) string { return strings.TrimSpace(strings.Repeat(s+" ", n)) }

func TestExpandCodes(t *testing.T) {
	if impl.XpOk != 0 || impl.XpBad != 1 || impl.XpBig != 2 {
		t.Error("codes", impl.XpOk, impl.XpBad, impl.XpBig)
	}
}

func TestExpandAtoms(t *testing.T) {
	for _, s := range []string{"7", "0", "-7", "1000000", "-1000000", "#t", "#f", "x", "f1", "library", "abcdefghijklmnop", "-", "--", "-0", "set", "iff", "define!"} {
		if s == "-" {
			wantBad(t, s)
			continue
		}
		wantMeant(t, s, s)
	}
	wantBad(t, "()", "( )")
	for _, s := range append(slices.Clone(words), primitives()...) {
		wantBad(t, s, "(f "+s+")", "("+s+" . 1)")
	}
}

func TestExpandQuote(t *testing.T) {
	wantMeant(t, "'7", "7")
	wantMeant(t, "'-7", "-7")
	wantMeant(t, "'#t", "#t")
	wantMeant(t, "'#f", "#f")
	wantMeant(t, "'()", "()")
	wantMeant(t, "'a", "'a")
	wantMeant(t, "(quote a)", "'a")
	wantMeant(t, "(quote . (a))", "'a")
	wantMeant(t, "'(a . 1)", "'a", "1", "prim cons 0 1")
	wantMeant(t, "'(a)", "'a", "()", "prim cons 0 1")
	wantMeant(t, "'(a b)", "'a", "'b", "()", "prim cons 1 2", "prim cons 0 3")
	wantMeant(t, "'((1 . #t) () . x)", "1", "#t", "prim cons 0 1", "()", "'x", "prim cons 3 4", "prim cons 2 5")
	wantMeant(t, "''a", "'quote", "'a", "()", "prim cons 1 2", "prim cons 0 3")
	wantMeant(t, "'(if)", "'if", "()", "prim cons 0 1")
	wantMeant(t, "(car '(lambda (x x)))", "'lambda", "'x", "'x", "()", "prim cons 2 3", "prim cons 1 4", "()", "prim cons 5 6", "prim cons 0 7", "prim car 8")
	for _, s := range append(slices.Clone(words), primitives()...) {
		wantMeant(t, "'"+s, "'"+s)
	}
	wantBad(t, "(quote)", "(quote a b)", "(quote . a)", "(quote a . b)", "(f . 'a)", "(quote a b c)")
}

func TestExpandCoreForms(t *testing.T) {
	wantMeant(t, "(if 1 2 3)", "1", "2", "3", "if 0 1 2")
	wantMeant(t, "(if (if a b c) x #f)", "a", "b", "c", "if 0 1 2", "x", "#f", "if 3 4 5")
	wantMeant(t, "(lambda () 1)", "1", "lambda() 0")
	wantMeant(t, "(lambda (x) x)", "x", "lambda(x) 0")
	wantMeant(t, "(lambda (y x) 1 2 3)", "1", "2", "3", "begin 0 1 2", "lambda(y x) 3")
	wantMeant(t, "(begin 1)", "1")
	wantMeant(t, "(begin (begin (begin x)))", "x")
	wantMeant(t, "(begin 1 2)", "1", "2", "begin 0 1")
	wantMeant(t, "(begin 1 (begin 2 3) 4)", "1", "2", "3", "begin 1 2", "4", "begin 0 3 4")
	wantMeant(t, "(set! x 1)", "1", "set! x 0")
	wantMeant(t, "(set! x (set! y 2))", "2", "set! y 0", "set! x 1")
	wantMeant(t, "(f)", "f", "call 0")
	wantMeant(t, "(f 1 (g 2) 3)", "f", "1", "g", "2", "call 2 3", "3", "call 0 1 4 5")
	wantMeant(t, "(1 2)", "1", "2", "call 0 1")
	wantMeant(t, "(#t)", "#t", "call 0")
	wantMeant(t, "('a)", "'a", "call 0")
	wantMeant(t, "((f))", "f", "call 0", "call 1")
	wantMeant(t, "((lambda (x) x) 1)", "x", "lambda(x) 0", "1", "call 1 2")
	wantMeant(t, "(f . (1 . (2)))", "f", "1", "2", "call 0 1 2")
}

func TestExpandPrimitives(t *testing.T) {
	for _, s := range primitives() {
		if s == "make" || s == "field" || s == "is" {
			continue
		}
		one, two := "(f 1)", "y"
		if arities[s] == 1 {
			wantMeant(t, "("+s+" "+one+")", "f", "1", "call 0 1", "prim "+s+" 2")
		} else {
			wantMeant(t, "("+s+" "+one+" "+two+")", "f", "1", "call 0 1", "y", "prim "+s+" 2 3")
		}
		for n := range 11 {
			want := impl.XpBad
			if n == arities[s] {
				want = impl.XpOk
			}
			wantCode(t, "("+s+" "+repeated("1", n)+")", want)
		}
	}
	wantMeant(t, "(make pt)", "prim make pt")
	wantMeant(t, "(make pt 1)", "1", "prim make pt 0")
	wantMeant(t, "(make pt 1 (make pu) x)", "1", "prim make pu", "x", "prim make pt 0 1 2")
	wantMeant(t, "(is pt x)", "x", "prim is pt 0")
	for i := range 8 {
		wantMeant(t, "(field pt "+impl.Dec(i)+" x)", "x", "prim field pt at "+impl.Dec(i)+" 0")
	}
	wantMeant(t, "(field x 3 (field y 0 x))", "x", "prim field y at 0 0", "prim field x at 3 1")
}

func TestExpandShortForms(t *testing.T) {
	wantMeant(t, "(let ((x 1)) x)", "x", "lambda(x) 0", "1", "call 1 2")
	wantMeant(t, "(let ((x 1) (y 2)) x y)", "x", "y", "begin 0 1", "lambda(x y) 2", "1", "2", "call 3 4 5")
	wantMeant(t, "(let () 5)", "5", "lambda() 0", "call 1")
	wantMeant(t, "(let* () 5)", "5")
	wantMeant(t, "(let* () 5 6)", "5", "6", "begin 0 1")
	wantMeant(t, "(let* ((x 1) (y 2)) 3)", "3", "lambda(y) 0", "2", "call 1 2", "lambda(x) 3", "1", "call 4 5")
	wantMeant(t, "(cond)", "#f")
	wantMeant(t, "(cond (else 1))", "1")
	wantMeant(t, "(cond (else 1 2))", "1", "2", "begin 0 1")
	wantMeant(t, "(cond (a 1))", "a", "1", "#f", "if 0 1 2")
	wantMeant(t, "(cond (a 1) (b 2 3))", "a", "1", "b", "2", "3", "begin 3 4", "#f", "if 2 5 6", "if 0 1 7")
	wantMeant(t, "(cond (a 1) (else 2))", "a", "1", "2", "if 0 1 2")
	wantMeant(t, "(and)", "#t")
	wantMeant(t, "(and x)", "x")
	wantMeant(t, "(and x y)", "x", "y", "#f", "if 0 1 2")
	wantMeant(t, "(and x y z)", "x", "y", "z", "#f", "if 1 2 3", "#f", "if 0 4 5")
	wantMeant(t, "(or)", "#f")
	wantMeant(t, "(or x)", "x")
	wantMeant(t, "(or x y)", "%t", "%t", "y", "if 0 1 2", "lambda(%t) 3", "x", "call 4 5")
	wantMeant(t, "(or x y z)", "%t", "%t", "%t", "%t", "z", "if 2 3 4", "lambda(%t) 5", "y", "call 6 7", "if 0 1 8", "lambda(%t) 9", "x", "call 10 11")
	wantMeant(t, "(when a 1)", "a", "1", "#f", "if 0 1 2")
	wantMeant(t, "(when a 1 2)", "a", "1", "2", "begin 1 2", "#f", "if 0 3 4")
}

func TestExpandShortBesideLong(t *testing.T) {
	for _, c := range [][2]string{
		{"(let ((x 1) (y (f x))) (g x) y)", "((lambda (x y) (g x) y) 1 (f x))"},
		{"(let () 1 2)", "((lambda () 1 2))"},
		{"(let ((x (let ((x 1)) x))) x)", "((lambda (x) x) ((lambda (x) x) 1))"},
		{"(let* ((x 1)) x 2)", "(let ((x 1)) x 2)"},
		{"(let* ((x 1) (x 2)) x)", "(let ((x 1)) (let ((x 2)) x))"},
		{"(let* ((x 1) (y x) (x y)) (f x) y)", "((lambda (x) ((lambda (y) ((lambda (x) (begin (f x) y)) y)) x)) 1)"},
		{"(cond (a b c) ((f) d) (e 'else) (else g h))", "(if a (begin b c) (if (f) d (if e 'else (begin g h))))"},
		{"(cond (a b) (c d))", "(if a b (if c d #f))"},
		{"(and a (and b c) d e)", "(if a (if (if b c #f) (if d e #f) #f) #f)"},
		{"(and (and) (or))", "(if #t #f #f)"},
		{"(or a b)", "((lambda (tt) (if tt tt b)) a)"},
		{"(or a (f b) c d)", "((lambda (tt) (if tt tt ((lambda (tt) (if tt tt ((lambda (tt) (if tt tt d)) c))) (f b)))) a)"},
		{"(or (or a b) c)", "((lambda (tt) (if tt tt c)) ((lambda (tt) (if tt tt b)) a))"},
		{"(when (a) b c d)", "(if (a) (begin b c d) #f)"},
		{"(when a b)", "(if a b #f)"},
		{"'(a (b . 2) ())", "(cons 'a (cons (cons 'b 2) (cons '() '())))"},
		{"(lambda (x) (when x (set! y x)) (cond (x (or x y))))", "(lambda (x) (begin (if x (set! y x) #f) (if x ((lambda (tt) (if tt tt y)) x) #f)))"},
	} {
		wantAlike(t, c[0], c[1])
	}
}

func TestExpandTopsAmongTops(t *testing.T) {
	d := read(t, "(f 1) x () (if) 7")
	for top, want := range map[int]string{0: "f | 1 | call 0 1", 1: "x", 4: "7"} {
		if p, code := impl.Expand(d, top); code != impl.XpOk || progText(p) != want || p.Root != len(p.Nodes)-1 {
			t.Errorf("Top %d = %s, %d; want %s", top, progText(p), code, want)
		}
	}
	for _, top := range []int{2, 3, -1, 5, 6, len(d.Cells) - 1, len(d.Cells), math.MinInt, math.MaxInt} {
		if p, code := impl.Expand(d, top); code != impl.XpBad || len(p.Nodes) != 0 || p.Root != 0 {
			t.Errorf("Top %d = %s, %d; want the zero Prog, %d", top, progText(p), code, impl.XpBad)
		}
	}
	if _, code := impl.Expand(read(t, ""), 0); code != impl.XpBad {
		t.Error("a Top where there is none", code)
	}
}

func TestExpandOfDataThatAreNotRight(t *testing.T) {
	for i, d := range []impl.Data{
		{},
		{Cells: row(num(1))},
		{Tops: []int{0}},
		{Cells: row(num(1)), Tops: []int{1}},
		{Cells: row(num(1)), Tops: []int{0, 0}},
		{Cells: row(num(1), num(2)), Tops: []int{0}},
		{Cells: row(num(1), num(2)), Tops: []int{1, 0}},
		{Cells: row(num(impl.MaxWord + 1)), Tops: []int{0}},
		{Cells: row(flag(2)), Tops: []int{0}},
		{Cells: row(sym("%t")), Tops: []int{0}},
		{Cells: row(sym("7")), Tops: []int{0}},
		{Cells: row(sym("x y")), Tops: []int{0}},
		{Cells: row(impl.Datum{Kind: impl.DaNum, S: "x"}), Tops: []int{0}},
		{Cells: row(impl.Datum{Kind: 6}), Tops: []int{0}},
		{Cells: row(none(), sym("f"), pair(1, 0)), Tops: []int{2}},
		{Cells: row(sym("f"), none(), pair(0, 2)), Tops: []int{2, 1}},
		{Cells: row(sym("f"), none(), pair(-1, 1)), Tops: []int{2, 0}},
		{Cells: row(num(1), sym("x"), num(impl.MaxWord+1)), Tops: []int{0, 1, 2}}, // the first one alone would be right
		nested(1 << 16),
	} {
		if p, code := impl.Expand(d, 0); code != impl.XpBad || len(p.Nodes) != 0 || p.Root != 0 {
			t.Errorf("Data %d = %s, %d; want the zero Prog, %d", i, progText(p), code, impl.XpBad)
		}
	}
}

func TestExpandNamesThatAreWords(t *testing.T) {
	for _, s := range append(slices.Clone(words), primitives()...) {
		wantBad(t,
			"(lambda ("+s+") 1)", "(lambda (x "+s+") 1)", "(set! "+s+" 1)", "(let (("+s+" 1)) 1)", "(let ((x 1) ("+s+" 1)) 1)",
			"(let* (("+s+" 1)) 1)", "(let* ((x 1) ("+s+" 1)) 1)", "(make "+s+")", "(make "+s+" 1)", "(field "+s+" 0 1)", "(is "+s+" 1)",
			"(f "+s+")", "(begin "+s+")", "(begin 1 "+s+")", "(if "+s+" 1 2)", "(if 1 "+s+" 2)", "(if 1 2 "+s+")", "(set! x "+s+")",
			"(let ((x "+s+")) 1)", "(let () "+s+")", "(let* ((x "+s+")) 1)", "(cond (1 "+s+"))", "(cond ("+s+" 1) (1 2))", "(and "+s+")", "(and 1 "+s+")",
			"(or "+s+")", "(or "+s+" 1)", "(or 1 "+s+")", "(when "+s+" 1)", "(when 1 "+s+")", "(car "+s+")", "(make pt "+s+")",
		)
	}
	for _, s := range []string{"7", "#t", "()", "(x)", "'x"} {
		wantBad(t, "(lambda ("+s+") 1)", "(set! "+s+" 1)", "(let (("+s+" 1)) 1)", "(let* (("+s+" 1)) 1)", "(make "+s+")", "(field "+s+" 0 1)", "(is "+s+" 1)")
	}
	for _, s := range []string{"library", "import", "export", "record", "convert", "set", "iff", "let**", "makes", "t"} {
		wantMeant(t, "(lambda ("+s+") "+s+")", s, "lambda("+s+") 0")
		wantMeant(t, "(set! "+s+" ("+s+"))", s, "call 0", "set! "+s+" 1")
		wantMeant(t, "(is "+s+" "+s+")", s, "prim is "+s+" 0")
	}
	wantBad(t, "(define x 1)", "(define (f x) x)", "(else 1)", "(else)", "(define)")
}

func TestExpandNamesUnlikeAndHowMany(t *testing.T) {
	for n := range 12 {
		names := namesUpTo(n)
		want := impl.XpOk
		if n > 8 {
			want = impl.XpBad
		}
		wantCode(t, "(lambda ("+strings.Join(names, " ")+") 1)", want)
		var both []string
		for _, name := range names {
			both = append(both, "("+name+" 1)")
		}
		wantCode(t, "(let ("+strings.Join(both, " ")+") 1)", want)
		wantCode(t, "(let* ("+strings.Join(both, " ")+") 1)", impl.XpOk)
		wantCode(t, "(f "+repeated("1", n)+")", want)
		wantCode(t, "((f) "+repeated("1", n)+")", want)
		wantCode(t, "(make pt "+repeated("1", n)+")", want)
	}
	wantBad(t, "(lambda (x x) 1)", "(lambda (x y x) 1)", "(lambda (x y z y) 1)", "(let ((x 1) (x 2)) 1)", "(let ((x 1) (y 2) (x 3)) 1)",
		"(lambda (a b c d e f g a) 1)", "(let ((a 1) (b 1) (c 1) (d 1) (e 1) (f 1) (g 1) (a 1)) 1)")
	wantCode(t, "(lambda (x) (lambda (x) x))", impl.XpOk)
	wantCode(t, "(let* ((x 1) (x 2) (x 3)) x)", impl.XpOk)
}

func TestExpandPartsTooFewOrTooMany(t *testing.T) {
	wantBad(t,
		"(if)", "(if 1)", "(if 1 2)", "(if 1 2 3 4)",
		"(lambda)", "(lambda ())", "(lambda (x))", "(lambda x)", "(lambda x x)", "(lambda 1 1)",
		"(begin)", "(set!)", "(set! x)", "(set! x 1 2)", "(set! 1 2)",
		"(let)", "(let ())", "(let ((x 1)))", "(let x 1)", "(let (x) 1)", "(let ((x)) 1)", "(let ((x 1 2)) 1)", "(let (()) 1)", "(let (x 1) 1)", "(let 1 1)", "(let f ((x 1)) x)",
		"(let*)", "(let* ())", "(let* ((x 1)))", "(let* x 1)", "(let* (x) 1)", "(let* ((x)) 1)", "(let* ((x 1 2)) 1)", "(let* (()) 1)", "(let* ((x 1) y) 1)",
		"(cond (1))", "(cond ())", "(cond 1)", "(cond x)", "(cond (else))", "(cond else)", "(cond (1 2) (3))", "(cond (1 2) (else))", "(cond (1 2) ())",
		"(cond (else 1) (2 3))", "(cond (else 1) (else 2))", "(cond (1 2) (else 3) (4 5))", "(cond (else 1) (2))", "(cond ((else) 1))",
		"(when)", "(when 1)",
		"(make)", "(make 1)", "(make (pt))",
		"(field)", "(field pt)", "(field pt 1)", "(field pt 1 x y)", "(field pt 8 x)", "(field pt -1 x)", "(field pt 1000000 x)", "(field pt x 1)", "(field pt #t x)", "(field pt #f x)", "(field pt () x)", "(field pt '0 x)", "(field pt (+ 0 1) x)",
		"(is)", "(is pt)", "(is pt 1 2)",
		"(())", "(() 1)", "(f ())", "(f 1 ())",
	)
}

func TestExpandListsEndWithNil(t *testing.T) {
	wantBad(t,
		"(f . 1)", "(f . x)", "(f 1 . 2)", "(1 . 2)", "(f (g . 1))", "((f . 1))", "(f . #t)",
		"(quote . x)", "(quote x . y)", "(if 1 2 . 3)", "(if 1 2 3 . 4)",
		"(lambda (x) . 1)", "(lambda (x) 1 . 2)", "(lambda (x . y) 1)", "(lambda x . 1)", "(begin . 1)", "(begin 1 . 2)",
		"(set! x . 1)", "(set! x 1 . 2)",
		"(let ((x 1)) . 1)", "(let ((x 1)) 1 . 2)", "(let ((x 1) . y) 1)", "(let ((x . 1)) 1)", "(let ((x 1 . 2)) 1)", "(let ((x 1) . 2) 1)",
		"(let* () . 1)", "(let* () 1 . 2)", "(let* ((x 1) . y) 1)", "(let* ((x . 1)) 1)", "(let* ((x 1 . 2)) 1)",
		"(cond . 1)", "(cond (1 2) . 3)", "(cond (1 . 2))", "(cond (1 2 . 3))", "(cond (else . 1))", "(cond (else 1 . 2))", "(cond (1 2) (else 3) . 4)",
		"(and . 1)", "(and 1 . 2)", "(and 1 2 . 3)", "(or . 1)", "(or 1 . 2)", "(or 1 2 . 3)", "(when 1 . 2)", "(when 1 2 . 3)",
		"(make . pt)", "(make pt . 1)", "(make pt 1 . 2)", "(field pt 1 . x)", "(field pt 1 x . 2)", "(is pt . x)", "(is pt x . 1)",
		"(car . x)", "(car x . y)", "(cons 1 . 2)", "(cons 1 2 . 3)",
	)
	wantMeant(t, "(if . (1 2 . (3)))", "1", "2", "3", "if 0 1 2")
	wantMeant(t, "(let ((x . (1)) . ()) . (x))", "x", "lambda(x) 0", "1", "call 1 2")
	wantMeant(t, "(cond (a . (1)) . ((else . (2))))", "a", "1", "2", "if 0 1 2")
}

// sized is a form of just so many nodes, of 1 or of 3 and more.
func sized(n int) string {
	if n == 1 {
		return "1"
	}
	return "(begin " + repeated("1", n-1) + ")"
}

func TestExpandEdgeOfNodes(t *testing.T) {
	for _, n := range []int{1, 3, impl.MaxNodes - 1, impl.MaxNodes} {
		p, code := expand(t, sized(n))
		if code != impl.XpOk || len(p.Nodes) != n || p.Root != n-1 {
			t.Errorf("%d nodes: %d, Root %d, code %d", n, len(p.Nodes), p.Root, code)
		}
	}
	wantCode(t, sized(impl.MaxNodes+1), impl.XpBig)
	room := func(nodes int) string { return sized(impl.MaxNodes - nodes) }
	past := func(nodes int) string { return sized(impl.MaxNodes - nodes + 1) }
	for _, c := range []struct {
		ahead, behind string
		nodes         int // of all but the part between these
	}{
		{"(car ", ")", 1}, {"(lambda (x) ", ")", 1}, {"(set! x ", ")", 1}, {"(", ")", 1}, {"(begin ", ")", 0}, {"(f ", ")", 2}, {"(if 1 2 ", ")", 3}, {"(begin 1 ", ")", 2},
		{"(cons 1 ", ")", 2}, {"(make pt ", ")", 1}, {"(field pt 0 ", ")", 1}, {"(is pt ", ")", 1},
		{"(let ((x 1)) ", ")", 3}, {"(let ((x ", ")) 1)", 3}, {"(let () ", ")", 2}, {"(let* () ", ")", 0}, {"(let* ((x 1)) ", ")", 3}, {"(let* ((x ", ")) 1)", 3},
		{"(cond (else ", "))", 0}, {"(cond (", " 1))", 3}, {"(cond (1 ", "))", 3}, {"(cond (1 2) (else ", "))", 3},
		{"(and ", ")", 0}, {"(and 1 ", ")", 3}, {"(and ", " 1)", 3}, {"(or ", ")", 0}, {"(or 1 ", ")", 6}, {"(or ", " 1)", 6}, {"(when ", " 1)", 3}, {"(when 1 ", ")", 3},
	} {
		wantCode(t, c.ahead+room(c.nodes)+c.behind, impl.XpOk)
		wantCode(t, c.ahead+past(c.nodes)+c.behind, impl.XpBig)
	}
}

func TestExpandManyParts(t *testing.T) {
	for _, c := range []struct {
		form func(n int) string
		most int // parts with which there are no more than MaxNodes
	}{
		{func(n int) string { return "(begin " + repeated("1", n) + ")" }, 399},
		{func(n int) string { return "(and " + repeated("1", n) + ")" }, 134},
		{func(n int) string { return "(or " + repeated("1", n) + ")" }, 67},
		{func(n int) string { return "(cond " + repeated("(1 2)", n) + ")" }, 133},
		{func(n int) string { return "(cond " + repeated("(1 2)", n) + " (else 3))" }, 133},
		{func(n int) string { return "(let* (" + repeated("(x 1)", n) + ") 2)" }, 133},
		{func(n int) string { return "(car '(" + repeated("1", n) + "))" }, 199},
		{func(n int) string { return "'(" + repeated("a", n) + " . b)" }, 199},
	} {
		wantCode(t, c.form(c.most), impl.XpOk)
		wantCode(t, c.form(c.most+1), impl.XpBig)
	}
	wantCode(t, "'("+repeated("1", 490)+")", impl.XpBig)
}

// B stands for what has more than MaxNodes nodes.
func TestExpandWhichIsAskedFirst(t *testing.T) {
	for s, want := range map[string]int{
		// how many parts a form has, of which kinds, and which names, ahead of its parts
		"(if B 1)": impl.XpBad, "(if B 1 2 3)": impl.XpBad, "(f B . 1)": impl.XpBad, "(and B . 1)": impl.XpBad, "(or B . 1)": impl.XpBad, "(begin B . 1)": impl.XpBad,
		"(lambda (x x) B)": impl.XpBad, "(lambda (if) B)": impl.XpBad, "(lambda x B)": impl.XpBad, "(set! if B)": impl.XpBad, "(set! x B 1)": impl.XpBad,
		"(let ((x B) (x 1)) 1)": impl.XpBad, "(let ((x B) (if 1)) 1)": impl.XpBad, "(let ((x B) (y)) 1)": impl.XpBad, "(let ((x B)))": impl.XpBad, "(let ((x B) . 1) 1)": impl.XpBad,
		"(let* ((x B) (if 1)) 1)": impl.XpBad, "(let* ((x 1) (y)) B)": impl.XpBad, "(let* ((x B)))": impl.XpBad, "(let* ((x 1) (if 2)) B)": impl.XpBad,
		"(when B)": impl.XpBad, "(make if B)": impl.XpBad, "(field pt 8 B)": impl.XpBad, "(field if 0 B)": impl.XpBad, "(is 1 B)": impl.XpBad, "(is pt B 1)": impl.XpBad,
		"(car B 1)": impl.XpBad, "(cons B)": impl.XpBad, "(f B 1 2 3 4 5 6 7 8)": impl.XpBad, "(make pt B 1 2 3 4 5 6 7 8)": impl.XpBad,
		"(define x B)": impl.XpBad, "(else B)": impl.XpBad, "(() B)": impl.XpBad,
		// part by part, in the order of the nodes
		"(f B else)": impl.XpBig, "(f else B)": impl.XpBad, "(begin B ())": impl.XpBig, "(begin () B)": impl.XpBad, "(cons B (if))": impl.XpBig, "(cons (if) B)": impl.XpBad,
		"(if B else 1)": impl.XpBig, "(if else B 1)": impl.XpBad, "(and B else)": impl.XpBig, "(and else B)": impl.XpBad, "(when B else)": impl.XpBig, "(when else B)": impl.XpBad,
		"(make pt B else)": impl.XpBig, "(make pt else B)": impl.XpBad, "(B else)": impl.XpBig,
		// the function of a let stands ahead of what is handed to it, that of an or too
		"(let ((x else)) B)": impl.XpBig, "(let ((x B)) else)": impl.XpBad, "(let ((x B) (y else)) 1)": impl.XpBig, "(let ((x else) (y B)) 1)": impl.XpBad,
		"(let* ((x else)) B)": impl.XpBig, "(let* ((x B)) else)": impl.XpBad, "(let* ((x else) (y B)) 1)": impl.XpBig, "(let* ((x B) (y else)) 1)": impl.XpBad,
		"(or else B)": impl.XpBig, "(or B else)": impl.XpBad, "(or else 1 B)": impl.XpBig, "(or 1 else B)": impl.XpBig, "(or B else 1)": impl.XpBad,
		// a cond clause by clause
		"(cond (B 1) (2))": impl.XpBig, "(cond (2) (B 1))": impl.XpBad, "(cond (1 B) (else))": impl.XpBig, "(cond (1 B) 2)": impl.XpBig, "(cond (B))": impl.XpBad,
		"(cond (else B) (1 2))": impl.XpBad, "(cond (1 B) (else 2) (3 4))": impl.XpBig, "(cond (1 else) (B 1))": impl.XpBad, "(cond (1 2) (3 . 4) (B 1))": impl.XpBad, "(cond (B 1) . 2)": impl.XpBad,
	} {
		wantCode(t, strings.ReplaceAll(s, "B", sized(impl.MaxNodes+1)), want)
		wantCode(t, strings.ReplaceAll(s, "B", "'("+repeated("1", 201)+")"), want)
	}
	ones := func(n int) string { return "(begin " + repeated("1", n) }
	for _, bad := range []string{"else", "()", "(if)", "(car)", "(car else)", "(lambda (x x) 1)", "(set! x car)"} {
		wantCode(t, ones(impl.MaxNodes)+" "+bad+")", impl.XpBad) // as full as it can be, but not past that
		wantCode(t, ones(impl.MaxNodes+1)+" "+bad+")", impl.XpBig)
		wantCode(t, ones(impl.MaxNodes)+" (f "+bad+"))", impl.XpBig)
	}
}

// sexp is a datum as a tree: an atom, or a list with what stands behind its point.
type sexp struct {
	atom impl.Datum
	list []sexp
	end  *sexp
}

func treeOf(c []impl.Datum, i int) sexp {
	if c[i].Kind != impl.DaPair && c[i].Kind != impl.DaNil {
		return sexp{atom: c[i]}
	}
	var s sexp
	for ; c[i].Kind == impl.DaPair; i = c[i].R {
		s.list = append(s.list, treeOf(c, c[i].L))
	}
	if c[i].Kind != impl.DaNil {
		end := treeOf(c, i)
		s.end = &end
	}
	return s
}

func symbol(s string) sexp      { return sexp{atom: sym(s)} }
func boolean(n int) sexp        { return sexp{atom: flag(n)} }
func listOf(l ...sexp) sexp     { return sexp{list: l} }
func (s sexp) isList() bool     { return s.atom.Kind == 0 && s.end == nil }
func (s sexp) isName() bool     { return readsAsName(s.atom.S) }
func (s sexp) parts(n int) bool { return s.isList() && len(s.list) == n }

// model makes programs by the table's own words: a short form is written as the
// long one beside it, and that is made.
type model struct{ nodes []impl.Node }

func (m *model) need(ok bool) {
	if !ok {
		panic(impl.XpBad)
	}
}

func (m *model) add(n impl.Node) int {
	if len(m.nodes) == impl.MaxNodes {
		panic(impl.XpBig)
	}
	m.nodes = append(m.nodes, n)
	return len(m.nodes) - 1
}

func (m *model) each(l []sexp) []int {
	var all []int
	for _, s := range l {
		all = append(all, m.form(s))
	}
	return all
}

// long writes a short form as the long one; false where it is none.
func (m *model) long(s sexp) (sexp, bool) {
	word, rest := s.list[0].atom.S, s.list[1:]
	begin := func(l []sexp) sexp { return listOf(append([]sexp{symbol("begin")}, l...)...) }
	again := func(l []sexp) sexp { return listOf(append([]sexp{symbol(word)}, l...)...) }
	three := func(a, b, c sexp) sexp { return listOf(symbol("if"), a, b, c) }
	function := func(names sexp, body ...sexp) sexp {
		return listOf(append([]sexp{symbol("lambda"), names}, body...)...)
	}
	if (word == "let" || word == "let*") && s.list[0].atom.Kind == impl.DaSym {
		m.need(len(rest) > 1 && rest[0].isList())
		for _, b := range rest[0].list {
			m.need(b.parts(2) && b.list[0].isName())
		}
	}
	switch {
	case word == "let":
		var names, values []sexp
		for _, b := range rest[0].list {
			names, values = append(names, b.list[0]), append(values, b.list[1])
		}
		return listOf(append([]sexp{function(listOf(names...), rest[1:]...)}, values...)...), true
	case word == "let*" && len(rest[0].list) == 0:
		return begin(rest[1:]), true
	case word == "let*":
		inner := again(append([]sexp{listOf(rest[0].list[1:]...)}, rest[1:]...))
		return listOf(symbol("let"), listOf(rest[0].list[0]), inner), true
	case word == "cond" && len(rest) == 0:
		return boolean(0), true
	case word == "cond":
		clause := rest[0]
		m.need(clause.isList() && len(clause.list) > 1)
		if len(rest) == 1 && clause.list[0].atom.S == "else" {
			return begin(clause.list[1:]), true
		}
		return three(clause.list[0], begin(clause.list[1:]), again(rest[1:])), true
	case word == "and" && len(rest) == 0:
		return boolean(1), true
	case word == "or" && len(rest) == 0:
		return boolean(0), true
	case (word == "and" || word == "or") && len(rest) == 1:
		return rest[0], true
	case word == "and":
		return three(rest[0], again(rest[1:]), boolean(0)), true
	case word == "or":
		hidden := symbol("%t")
		return listOf(function(listOf(hidden), three(hidden, hidden, again(rest[1:]))), rest[0]), true
	case word == "when":
		m.need(len(rest) > 1)
		return three(rest[0], begin(rest[1:]), boolean(0)), true
	}
	return sexp{}, false
}

func (m *model) quoted(s sexp) int {
	switch {
	case s.atom.Kind == impl.DaSym:
		return m.add(impl.Node{Kind: impl.NdSym, S: s.atom.S})
	case s.atom.Kind != 0:
		return m.form(s)
	case len(s.list) == 0 && s.end != nil:
		return m.quoted(*s.end)
	case len(s.list) == 0:
		return m.add(impl.Node{Kind: impl.NdNil})
	}
	first := m.quoted(s.list[0])
	return m.add(impl.Node{Kind: impl.NdPrim, S: "cons", Args: []int{first, m.quoted(sexp{list: s.list[1:], end: s.end})}})
}

func (m *model) form(s sexp) int {
	switch s.atom.Kind {
	case impl.DaNum:
		return m.add(impl.Node{Kind: impl.NdNum, N: s.atom.N})
	case impl.DaBool:
		return m.add(impl.Node{Kind: impl.NdBool, N: s.atom.N})
	case impl.DaSym:
		m.need(s.isName())
		return m.add(impl.Node{Kind: impl.NdVar, S: s.atom.S})
	}
	m.need(s.isList() && len(s.list) > 0)
	if long, short := m.long(s); short {
		return m.form(long)
	}
	return m.core(s.list[0].atom.S, s.list[1:], s)
}

func (m *model) core(word string, rest []sexp, s sexp) int {
	takes, primitive := arities[word]
	switch {
	case word == "quote":
		m.need(len(rest) == 1)
		return m.quoted(rest[0])
	case word == "if":
		m.need(len(rest) == 3)
		return m.add(impl.Node{Kind: impl.NdIf, Args: m.each(rest)})
	case word == "begin":
		m.need(len(rest) > 0)
		if len(rest) == 1 {
			return m.form(rest[0])
		}
		return m.add(impl.Node{Kind: impl.NdSeq, Args: m.each(rest)})
	case word == "lambda":
		m.need(len(rest) > 1 && rest[0].isList() && len(rest[0].list) <= 8)
		var names []string
		for _, x := range rest[0].list {
			m.need(x.isName() && !slices.Contains(names, x.atom.S))
			names = append(names, x.atom.S)
		}
		return m.add(impl.Node{Kind: impl.NdLam, Names: names, Args: []int{m.core("begin", rest[1:], s)}})
	case word == "set!":
		m.need(len(rest) == 2 && rest[0].isName())
		return m.add(impl.Node{Kind: impl.NdSet, S: rest[0].atom.S, Args: m.each(rest[1:])})
	case word == "make" || word == "is":
		m.need(len(rest) > 0 && len(rest) < 10 && rest[0].isName() && (word == "make" || len(rest) == 2))
		return m.add(impl.Node{Kind: impl.NdPrim, S: word, Names: []string{rest[0].atom.S}, Args: m.each(rest[1:])})
	case word == "field":
		m.need(len(rest) == 3 && rest[0].isName() && rest[1].atom.Kind == impl.DaNum && rest[1].atom.N >= 0 && rest[1].atom.N <= 7)
		return m.add(impl.Node{Kind: impl.NdPrim, S: word, N: rest[1].atom.N, Names: []string{rest[0].atom.S}, Args: m.each(rest[2:])})
	case primitive:
		m.need(len(rest) == takes)
		return m.add(impl.Node{Kind: impl.NdPrim, S: word, Args: m.each(rest)})
	}
	m.need(len(rest) <= 8)
	return m.add(impl.Node{Kind: impl.NdCall, Args: m.each(s.list)})
}

// modelled tells the program by the model, or the code.
func modelled(d impl.Data, top int) (p impl.Prog, code int) {
	defer func() {
		if why, is := recover().(int); is {
			p, code = impl.Prog{}, why
		}
	}()
	var m model
	root := m.form(treeOf(d.Cells, d.Tops[top]))
	return impl.Prog{Nodes: m.nodes, Root: root}, impl.XpOk
}

func sameNode(a, b impl.Node) bool {
	return a.Kind == b.Kind && a.N == b.N && a.S == b.S && slices.Equal(a.Names, b.Names) && slices.Equal(a.Args, b.Args)
}

// wantModelled holds Expand of each Top of s against the model, and tells its codes.
func wantModelled(t *testing.T, s string, codes *[3]int) {
	t.Helper()
	d, bad := impl.Read(s)
	if bad != -1 {
		return
	}
	for top := range d.Tops {
		p, code := impl.Expand(d, top)
		want, wanted := modelled(d, top)
		if code != wanted || p.Root != want.Root || !slices.EqualFunc(p.Nodes, want.Nodes, sameNode) {
			t.Errorf("Expand(%.200q, %d) = %.300s, %d; want %.300s, %d", s, top, progText(p), code, progText(want), wanted)
		}
		if code == impl.XpOk && !impl.ProgOk(p) {
			t.Errorf("Expand(%.200q, %d) is not ProgOk: %.300s", s, top, progText(p))
		}
		codes[code]++
	}
}

// eachForm goes through all lists of at most n of the parts behind a head.
func eachForm(heads, parts []string, n int, f func(string)) {
	rows := []string{""}
	for range n + 1 {
		var next []string
		for _, r := range rows {
			for _, h := range heads {
				f("(" + h + r + ")")
			}
			for _, p := range parts {
				next = append(next, r+" "+p)
			}
		}
		rows = next
	}
}

func TestExpandOfAllSmallForms(t *testing.T) {
	t.Parallel()
	heads := append(append(slices.Clone(words), primitives()...), "f", "1", "#t", "()", "(f)", "'a")
	parts := []string{"x", "3", "else", "()", "(x)", "(x 1)", "((x 1))", "((x 1) (y 2))", ". x", "(else x 1)", "'(x . y)"}
	var codes [3]int
	eachForm(heads, parts, 3, func(s string) { wantModelled(t, s, &codes) })
	if codes[impl.XpOk] < 1000 || codes[impl.XpBad] < 1000 {
		t.Error("codes", codes)
	}
}

// maker writes forms down by chance, the same ones at each run.
type maker struct{ r *rand.Rand }

func (m maker) pick(all ...string) string { return all[m.r.Intn(len(all))] }

func (m maker) forms(low, high, deep int) string {
	var all []string
	for range low + m.r.Intn(high-low+1) {
		all = append(all, m.form(deep))
	}
	return strings.Join(all, " ")
}

func (m maker) datum(deep int) string {
	if deep == 0 || m.r.Intn(3) == 0 {
		return m.pick("a", "if", "7", "-1", "#t", "#f", "()", "x")
	}
	var all []string
	for range m.r.Intn(4) {
		all = append(all, m.datum(deep-1))
	}
	if len(all) > 0 && m.r.Intn(4) == 0 {
		all = append(all, ".", m.datum(deep-1))
	}
	return "(" + strings.Join(all, " ") + ")"
}

func (m maker) rows(high, deep int) string {
	var all []string
	for _, name := range namesUpTo(m.r.Intn(high + 1)) {
		all = append(all, "("+name+" "+m.form(deep)+")")
	}
	return "(" + strings.Join(all, " ") + ")"
}

func (m maker) clauses(deep int) string {
	var all []string
	for range m.r.Intn(4) {
		all = append(all, "("+m.forms(2, 3, deep)+")")
	}
	if m.r.Intn(2) == 0 {
		all = append(all, "(else "+m.forms(1, 2, deep)+")")
	}
	return strings.Join(all, " ")
}

func (m maker) form(deep int) string {
	if deep == 0 {
		return m.pick("x", "y", "x0", "7", "#t", "#f", "'a", "f")
	}
	deep--
	switch m.r.Intn(16) {
	case 0:
		return "'" + m.datum(3)
	case 1:
		return "(if " + m.forms(3, 3, deep) + ")"
	case 2:
		return "(lambda (" + strings.Join(namesUpTo(m.r.Intn(9)), " ") + ") " + m.forms(1, 3, deep) + ")"
	case 3:
		return "(begin " + m.forms(1, 4, deep) + ")"
	case 4:
		return "(set! x " + m.form(deep) + ")"
	case 5:
		return "(let " + m.rows(8, deep) + " " + m.forms(1, 3, deep) + ")"
	case 6:
		return "(let* " + m.rows(10, deep) + " " + m.forms(1, 3, deep) + ")"
	case 7:
		return "(cond " + m.clauses(deep) + ")"
	case 8:
		return "(and " + m.forms(0, 4, deep) + ")"
	case 9:
		return "(or " + m.forms(0, 4, deep) + ")"
	case 10:
		return "(when " + m.forms(2, 4, deep) + ")"
	case 11:
		return "(make pt " + m.forms(0, 8, deep) + ")"
	case 12:
		return "(field pt " + impl.Dec(m.r.Intn(8)) + " " + m.form(deep) + ")"
	case 13:
		return "(is pt " + m.form(deep) + ")"
	case 14:
		s := m.pick("+", "-", "*", "<", "=", "eq?", "cons", "car", "cdr", "null?", "pair?", "not", "print", "error")
		return "(" + s + " " + m.forms(arities[s], arities[s], deep) + ")"
	}
	return "(" + m.forms(1, 9, deep) + ")"
}

// wide is a form with about as many nodes as there may be.
func (m maker) wide() string {
	return "(" + m.pick("or", "or 7", "and", "let* ((x 1) (y 2))", "when x") + " " + m.forms(50, 90, 1) + ")"
}

// tokens: s cut into its words and brackets.
func tokens(s string) []string {
	for _, c := range []string{"(", ")", "'"} {
		s = strings.ReplaceAll(s, c, " "+c+" ")
	}
	return strings.Fields(s)
}

// spoilt is s with one token gone, doubled or another.
func (m maker) spoilt(s string) string {
	all := tokens(s)
	i := m.r.Intn(len(all))
	switch m.r.Intn(4) {
	case 0:
		all = slices.Delete(all, i, i+1)
	case 1:
		all = slices.Insert(all, i, all[i])
	case 2:
		all = slices.Insert(all, i, m.pick("x", "7", "()", "else", "."))
	default:
		all[i] = m.pick("x", "7", "#f", "if", "else", "let", "let*", "cond", "car", "cons", "or", "and", "when", "make", "field", "quote", "lambda")
	}
	return strings.Join(all, " ")
}

func TestExpandOfFormsByChance(t *testing.T) {
	t.Parallel()
	m := maker{rand.New(rand.NewSource(4))}
	var right, spoilt [3]int
	for i := range 6000 {
		s := m.form(1 + i%4)
		if i%10 == 0 {
			s = m.wide()
		}
		wantModelled(t, s, &right)
		for range 3 {
			wantModelled(t, m.spoilt(s), &spoilt)
		}
	}
	if right[impl.XpOk] < 1000 || right[impl.XpBad] != 0 || right[impl.XpBig] < 10 {
		t.Error("right forms", right)
	}
	if spoilt[impl.XpOk] < 100 || spoilt[impl.XpBad] < 1000 || spoilt[impl.XpBig] < 10 {
		t.Error("spoilt forms", spoilt)
	}
}

func TestExpandLeavesItsArgument(t *testing.T) {
	for _, s := range []string{"(let ((x 1)) (or x '(a . b)) (make pt x))", "(if 1 2)", sized(impl.MaxNodes + 1)} {
		d := read(t, s)
		cells, tops := slices.Clone(d.Cells), slices.Clone(d.Tops)
		room := impl.Data{Cells: append(slices.Clone(cells), num(9), num(9)), Tops: append(slices.Clone(tops), 9)}
		impl.Expand(impl.Data{Cells: room.Cells[:len(cells)], Tops: room.Tops[:len(tops)]}, 0)
		if !sameData(room, impl.Data{Cells: append(cells, num(9), num(9)), Tops: append(tops, 9)}) {
			t.Errorf("Expand(%.60q) writes into its argument", s)
		}
	}
}

func TestExpandAnswersNewMemory(t *testing.T) {
	const text = "(let* ((x 1) (y 2)) (lambda (a b) (or a (f b y 3))) (make pt x y) (cond (x '(1 2))))"
	d := read(t, text)
	one, _ := impl.Expand(d, 0)
	two, _ := impl.Expand(d, 0)
	want, _ := modelled(d, 0)
	if !slices.EqualFunc(one.Nodes, want.Nodes, sameNode) {
		t.Fatal("the program is another", progText(one))
	}
	for i := range one.Nodes {
		n := &one.Nodes[i]
		for k := range n.Args {
			n.Args[k] = -1 - i
		}
		for k := range n.Names {
			n.Names[k] = "n" + impl.Dec(i)
		}
		n.Args, n.Names = append(n.Args, -1-i), append(n.Names, "n"+impl.Dec(i)) // into the spare room, too
	}
	for i, n := range one.Nodes {
		if slices.ContainsFunc(n.Args, func(a int) bool { return a != -1-i }) || slices.ContainsFunc(n.Names, func(s string) bool { return s != "n"+impl.Dec(i) }) {
			t.Errorf("node %d shares its lists: %v", i, n)
		}
	}
	if !slices.EqualFunc(two.Nodes, want.Nodes, sameNode) {
		t.Error("one answer is written into another")
	}
	if three, code := impl.Expand(read(t, text), 0); code != impl.XpOk || !reflect.DeepEqual(two, three) {
		t.Error("an answer is kept, or another one is told")
	}
}
