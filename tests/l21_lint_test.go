package tests

import (
	"fmt"
	"math/rand"
	"slices"
	"strings"
	"testing"

	"loop.example/g00765/impl"
)

// modelLint says it in the document's own words; what is free is asked from each
// variable upward, and each name is asked of by itself.
func modelLint(s impl.Src, given []string) []impl.Note {
	if !rightSrc(s) {
		return nil
	}
	var told []impl.Note
	tell := func(kind int, name string) {
		if n := (impl.Note{Kind: kind, Name: name}); !slices.Contains(told, n) {
			told = append(told, n)
		}
	}
	programs := slices.Concat(s.Defs, s.Convs)
	used := map[string]int{}
	for _, d := range programs {
		for _, name := range freeByClimbing(d.Prog, d.Prog.Root) {
			used[name]++
			if !slices.Contains(namesOfDefs(s.Defs), name) && !slices.Contains(given, name) {
				tell(impl.LnFree, name)
			}
		}
	}
	for _, name := range namesOfDefs(s.Defs) {
		if !slices.Contains(s.Exports, name) && used[name] == 0 {
			tell(impl.LnUnused, name)
		}
	}
	for _, d := range programs {
		for _, n := range d.Prog.Nodes {
			if n.Kind == impl.NdSet && !slices.Contains(namesOfDefs(s.Defs), n.S) {
				tell(impl.LnSet, n.S)
			}
		}
	}
	return told
}

// modelCompare says it in the document's own words.
func modelCompare(a, b impl.Src) []string {
	if !rightSrc(a) || !rightSrc(b) {
		return nil
	}
	var told []string
	for _, name := range b.Exports {
		if !slices.Contains(a.Exports, name) {
			told = append(told, "+"+name)
		}
	}
	for _, name := range a.Exports {
		if !slices.Contains(b.Exports, name) {
			told = append(told, "-"+name)
		}
	}
	for _, one := range a.Types {
		for _, other := range b.Types {
			if one.Name == other.Name && one.Size != other.Size {
				told = append(told, "~"+one.Name)
			}
		}
	}
	return told
}

// notesOf are those of a text: names that are free, unused, and set, with a | between.
func notesOf(text string) []impl.Note {
	var all []impl.Note
	for i, part := range strings.Split(text, "|") {
		for _, name := range names(part) {
			all = append(all, impl.Note{Kind: i + 1, Name: name})
		}
	}
	return all
}

// wantLintOf asks for these notes, and P21 of them.
func wantLintOf(t *testing.T, s impl.Src, given []string, want []impl.Note) {
	t.Helper()
	got := impl.Lint(s, given)
	if !alike(got, want) {
		t.Errorf("Lint(%s, %s) = %s; want %s", shown(s), shown(given), shown(got), shown(want))
	}
	for _, n := range got {
		if n.Kind == impl.LnUnused && slices.Contains(s.Exports, n.Name) {
			t.Errorf("Lint(%s, %s): %s is exported, and told unused", shown(s), shown(given), n.Name)
		}
	}
}

// wantLint asks for the notes of the library aa with these forms.
func wantLint(t *testing.T, forms, given, want string) {
	t.Helper()
	s := source(t, "(library aa) "+forms)
	wantLintOf(t, s, names(given), notesOf(want))
	wantLintOf(t, s, names(given), modelLint(s, names(given)))
}

// turnedAbout is what is told, with + and - changed for each other.
func turnedAbout(told []string) []string {
	var groups [3][]string
	for _, line := range told {
		at := strings.Index("-+~", line[:1])
		groups[at] = append(groups[at], "+-~"[at:at+1]+line[1:])
	}
	return slices.Concat(groups[0], groups[1], groups[2])
}

// sameSizes puts what begins with ~ in order: each of two sources has an order of its own.
func sameSizes(told []string) []string {
	told = slices.Clone(told)
	from := len(told)
	for from > 0 && told[from-1][0] == '~' {
		from--
	}
	slices.Sort(told[from:])
	return told
}

// wantCompareOf asks for these lines, and P21 of them.
func wantCompareOf(t *testing.T, a, b impl.Src, want []string) {
	t.Helper()
	one, other := impl.Compare(a, b), impl.Compare(b, a)
	if !alike(one, want) {
		t.Errorf("Compare(%s, %s) = %s; want %s", shown(a), shown(b), shown(one), shown(want))
	}
	if !alike(sameSizes(other), sameSizes(turnedAbout(one))) {
		t.Errorf("Compare of %s and %s is %s; the other way round %s", shown(a), shown(b), shown(one), shown(other))
	}
	for _, s := range []impl.Src{a, b} {
		if told := impl.Compare(s, deepSrc(s)); len(told) != 0 {
			t.Errorf("Compare of %s with itself = %q", shown(s), told)
		}
	}
}

// wantCompare asks for the lines of two libraries with these forms.
func wantCompare(t *testing.T, a, b, want string) {
	t.Helper()
	one, other := source(t, "(library aa) "+a), source(t, "(library aa) "+b)
	wantCompareOf(t, one, other, names(want))
	wantCompareOf(t, one, other, modelCompare(one, other))
	wantCompareOf(t, other, one, modelCompare(other, one))
}

func TestKindsOfNotes(t *testing.T) {
	for i, kind := range []int{impl.LnFree, impl.LnUnused, impl.LnSet} {
		if kind != i+1 {
			t.Error("kind", i+1, "is", kind)
		}
	}
}

func TestNothingIsOdd(t *testing.T) {
	wantLint(t, "", "", "")
	wantLint(t, "", "f g h", "")
	wantLint(t, "(import bb cc)", "", "")
	wantLint(t, "(record pt 2) (record qt 0)", "", "")
	wantLint(t, "(define v 1) (export v)", "", "")
	wantLint(t, "(define (f x) (g x)) (define (g x) (f x))", "", "")
	wantLint(t, "(import bb) (define (f x) (g x)) (export f)", "g", "")
	wantLint(t, "(define n 1) (define (f) (set! n (+ n 1))) (export f)", "", "")
	wantLint(t, "(record pt 1) (convert pt (lambda (r) (cons (field pt 0 r) '())))", "", "")
	wantLint(t, "(record pt 1) (convert pt '())", "", "")
}

func TestNamesThatAreFree(t *testing.T) {
	export := "(export f) "
	wantLint(t, export+"(define f y)", "", "y")
	wantLint(t, export+"(define f y)", "y", "")
	wantLint(t, export+"(define f f)", "", "")
	wantLint(t, export+"(define (f x) (y x z))", "", "y z")
	wantLint(t, export+"(define (f x) (y x z))", "z", "y")
	wantLint(t, export+"(define (f x) (y x z))", "y", "z")
	wantLint(t, export+"(define (f x) (y x z))", "x z y f", "")
	// a Def may stand behind those who use it
	wantLint(t, export+"(define (f x) (y x z)) (define z 1)", "", "y")
	wantLint(t, export+"(define z 1) (define (f x) (y x z)) (define (y x z) 1)", "", "")
	// each once, in the order in which they stand
	wantLint(t, export+"(define (f x) (z y x z y) (y z))", "", "z y")
	wantLint(t, export+"(define (f x) (z y)) (define (g x) (y w z)) (export g)", "", "z y w")
	wantLint(t, export+"(define (g x) (y w z)) (export g) (define (f x) (z y))", "", "y w z")
	wantLint(t, export+"(define (f x) (z y)) (define (g x) (y w z)) (export g)", "y", "z w")
	// bound in one place, free in another
	wantLint(t, export+"(define (f x) (begin (lambda (y) y) y))", "", "y")
	wantLint(t, export+"(define (f x) (lambda (y) (x y)))", "", "")
	wantLint(t, export+"(define (f x) x) (define (g y) x) (export g)", "", "x")
	wantLint(t, export+"(define (f x) (let* ((a b) (b a)) (or a b c)))", "", "c b")
}

func TestNamesThatAreNotFree(t *testing.T) {
	export := "(export f) "
	// the name of a Type, of a datum, of the library, and a primitive are no variables
	wantLint(t, export+"(record pt 1) (define (f r) (cons (is pt r) (field pt 0 (make pt (cons 'y '(z . w))))))", "", "")
	wantLint(t, export+"(define (f r) (make pt r))", "", "")
	wantLint(t, export+"(define (f r) (or (not r) (null? (when (= 1 2) 3)) (cond (r 1) (else 2))))", "", "")
	wantLint(t, export+"(define (f) aa)", "", "aa")
	// what is imported, or is a Type or a Conv, is not given with that
	wantLint(t, export+"(import bb) (define (f) bb)", "", "bb")
	wantLint(t, export+"(import bb) (define (f) bb)", "bb", "")
	wantLint(t, export+"(record pt 1) (define (f) pt)", "", "pt")
	wantLint(t, export+"(record pt 1) (convert pt f) (define (f) pt)", "", "pt")
	// what is set alone is told as that alone
	wantLint(t, export+"(define (f) (set! y 1))", "", "||y")
	wantLint(t, export+"(define (f) (set! y (y 1)))", "", "y||y")
	wantLint(t, export+"(define (f) (set! y (y 1)))", "y", "||y")
}

func TestWhatIsGiven(t *testing.T) {
	s := source(t, "(library aa) (export f) (define (f x) (y (z w) v)) (define v 1)")
	for _, given := range [][]string{nil, {}, {""}, {"if", "car", "7", "", "(", "Y", "Z", "W"}, {"f", "v", "x"}, {"yz", "wy", "y ", " y", "y\x00", "yy"}} {
		wantLintOf(t, s, given, notesOf("y z w"))
	}
	for _, given := range []string{"y z w", "w z y", "y y z z w w y", "f w v z x y q"} {
		wantLintOf(t, s, names(given), nil)
	}
	wantLintOf(t, s, append(slices.Repeat([]string{"z"}, 1<<16), namesUpTo(1<<16)...), notesOf("y w"))
	// what is given is no Def: it is not told unused, and setting it is told
	wantLint(t, "(define (g) (set! y 1))", "y g", "|g|y")
	wantLint(t, "(export v) (define v 1)", "w", "")
}

func TestDefsThatNobodyUses(t *testing.T) {
	wantLint(t, "(define v 1)", "", "|v")
	wantLint(t, "(define v 1) (define (f) 2)", "", "|v f")
	wantLint(t, "(define (f) 2) (define v 1)", "", "|f v")
	wantLint(t, "(define (f) 2) (export f) (define v 1)", "", "|v")
	wantLint(t, "(define (f) v) (define v 1)", "", "|f")
	wantLint(t, "(define (f) v) (define v 1) (export f)", "", "")
	wantLint(t, "(define (f) v) (define v 1) (export v)", "", "|f")
	// by itself alone
	wantLint(t, "(define (f x) (f x))", "", "")
	wantLint(t, "(define v v)", "", "")
	wantLint(t, "(define (f x) (g x)) (define (g x) (g x))", "", "|f")
	// where it is not meant: a name that is bound, of a datum, of a Type, that is set
	wantLint(t, "(define (f f) f)", "", "|f")
	wantLint(t, "(define v 1) (define (f v) (lambda () v)) (export f)", "", "|v")
	wantLint(t, "(define v 1) (define (f v) (lambda () (v (g v)))) (define (g) (begin (lambda (v) v) v)) (export f)", "", "")
	wantLint(t, "(define v 1) (define f 'v) (export f)", "", "|v")
	wantLint(t, "(record v 1) (define v 1) (define (f) (make v 1)) (export f)", "", "|v")
	wantLint(t, "(define v 1) (define (f) (set! v 2)) (export f)", "", "|v")
	wantLint(t, "(define v 1) (define (f) (set! v v)) (export f)", "", "")
	wantLint(t, "(import v) (define v 1)", "", "|v")
	wantLint(t, "(define aa 1)", "", "|aa")
}

func TestNamesThatAreSet(t *testing.T) {
	export := "(export f v) (define v 1) "
	wantLint(t, export+"(define (f) (set! v 2))", "", "")
	wantLint(t, export+"(define (f) (set! f 2))", "", "")
	wantLint(t, export+"(define (f) (set! y 2))", "", "||y")
	wantLint(t, export+"(define (f) (set! y 2))", "y", "||y")
	// also where a function binds it: what is set is one of the library
	wantLint(t, export+"(define (f y) (set! y 2))", "", "||y")
	wantLint(t, export+"(define (f v) (set! v 2))", "", "")
	wantLint(t, export+"(define (f) (let ((y 1)) (set! y 2)))", "", "||y")
	// each once, in the order of the nodes: what stands inside is ahead
	wantLint(t, export+"(define (f) (set! y 2) (set! z 1) (set! y 3))", "", "||y z")
	wantLint(t, export+"(define (f) (set! y (set! z (set! y 3))))", "", "||y z")
	wantLint(t, export+"(define (f) (set! y (set! z 3)))", "", "||z y")
	wantLint(t, export+"(define (f) (set! z 2) (set! v 3)) (define g (begin (set! y 1) (set! z 1) g))", "", "||z y")
	wantLint(t, export+"(define g (begin (set! y 1) (set! z 1) g)) (define (f) (set! z 2) (set! g 3))", "", "||y z")
	wantLint(t, export+"(define (f) (set! aa 1) (set! pt 1)) (record pt 1)", "", "||aa pt")
}

// What a converter has counts as what a Def has, and stands behind all of them.
func TestConvertersAreLookedAt(t *testing.T) {
	types := "(record pt 2) (record qt 1) "
	wantLint(t, types+"(convert pt w)", "", "w")
	wantLint(t, types+"(convert pt w)", "w", "")
	wantLint(t, types+"(convert pt pt)", "", "pt")
	wantLint(t, types+"(convert pt w) (define w 1)", "", "")
	wantLint(t, types+"(convert pt (lambda (r) (cons r (cons x y))))", "", "x y")
	wantLint(t, types+"(convert qt (y x)) (convert pt (x z))", "", "y x z")
	// a name of a Def and a Conv is told once, where the Def has it
	wantLint(t, types+"(convert pt (w x)) (define (f y) (x y z)) (export f)", "", "x z w")
	wantLint(t, types+"(define (f y) (x y z)) (export f) (convert pt (w x)) (convert qt (z w v))", "", "x z w v")
	// a Def that a converter alone uses
	wantLint(t, types+"(define (f x) x) (convert pt (lambda (r) (f r)))", "", "")
	wantLint(t, types+"(define (f x) x) (define (g x) x) (convert qt g)", "", "|f")
	wantLint(t, types+"(define (f x) x) (convert pt (lambda (f) (f 1)))", "", "|f")
	wantLint(t, types+"(define (f x) x) (convert pt 'f)", "", "|f")
	// a Conv is no Def: its name is neither used nor unused by itself
	wantLint(t, types+"(define pt 1) (convert pt 1)", "", "|pt")
	wantLint(t, types+"(define (f) pt) (convert pt 1) (export f)", "", "pt")
	// what is set there
	wantLint(t, types+"(convert pt (lambda (r) (set! k r)))", "", "||k")
	wantLint(t, types+"(convert pt (lambda (r) (set! k r))) (define k 1)", "", "|k")
	wantLint(t, types+"(convert pt (lambda (r) (set! k r))) (define k 1) (export k)", "", "")
	wantLint(t, types+"(convert pt (lambda (r) (set! r r)))", "", "||r")
	wantLint(t, types+"(convert pt (lambda (r) (set! pt r)))", "", "||pt")
	wantLint(t, types+"(convert pt (set! k (set! l 1))) (define m (set! n (set! k m)))", "", "||k n l")
	wantLint(t, types+"(convert pt (set! k 1)) (convert qt (begin (set! l 1) (set! k 1)))", "", "||k l")
}

// All three sorts at once: first what is free, then what is unused, then what is set.
func TestTheOrderOfNotes(t *testing.T) {
	forms := []string{
		"(record pt 1) (record qt 2)", "(export e)", "(define (e x) (b (c x)))", "(define u (lambda () (set! s a)))",
		"(define k (begin (set! d 1) (set! s 2) k))", "(define v (c u2))", "(convert qt (z a (set! t 1)))", "(convert pt (b y (set! s k)))",
	}
	wantLint(t, strings.Join(forms, ""), "", "b c a u2 z y|u v|s d t")
	wantLint(t, strings.Join(backwards(forms), ""), "", "c u2 a b y z|v u|d s t")
	wantLint(t, strings.Join(forms, ""), "z b t u", "c a u2 y|u v|s d t")
	// one name may be told as two
	wantLint(t, "(define v (begin y (set! y 1)))", "", "y|v|y")
}

// A library with what its Imports export is asked ahead of being put in.
func TestLintWithWhatImportsExport(t *testing.T) {
	w := worldOf(t, "(library aa) (export f g) (define (f x) x) (define g 1) (define h 2)", "(library bb) (export k) (define k 1)")
	s := source(t, "(library cc) (import aa bb) (export m) (define (m x) (f g h k x))")
	var given []string
	for _, lib := range s.Imports {
		given = append(given, impl.Exports(w, lib)...)
	}
	wantLintOf(t, s, given, notesOf("h"))
	w = upgraded(t, w, "(library aa) (export h g) (define h 1) (define g 1)")
	wantLintOf(t, s, append(impl.Exports(w, "aa"), impl.Exports(w, "bb")...), notesOf("f"))
}

// longName is a name of as many bytes as there may be.
func longName(n int) string {
	s := impl.Dec(n)
	return strings.Repeat("a", impl.MaxSym-1-len(s)) + "-" + s
}

// fullSource has as many Defs and Convs as there may be, each of as many nodes; node
// tells the next ones, one or one with its Arg ahead.
func fullSource(t *testing.T, node func(n int) []impl.Node) impl.Src {
	t.Helper()
	s, count := impl.Src{Name: longName(0)}, 0
	full := func(name string) impl.Def {
		var nodes []impl.Node
		var tops []int
		for more := node(count); len(nodes)+len(more) < impl.MaxNodes; more = node(count) {
			if len(more) == 2 {
				more[1].Args = []int{len(nodes)}
			}
			nodes = append(nodes, more...)
			tops = append(tops, len(nodes)-1)
			count++
		}
		return impl.Def{Name: name, Prog: program(append(nodes, impl.Node{Kind: impl.NdSeq, Args: tops})...)}
	}
	for i := range 30 {
		s.Defs = append(s.Defs, full(longName(1000+i)))
	}
	for i := range 8 {
		s.Types = append(s.Types, impl.Type{Name: longName(2000 + i), Size: i + 1})
		s.Convs = append(s.Convs, full(s.Types[i].Name))
	}
	for i := range 30 {
		s.Imports = append(s.Imports, longName(3000+i))
	}
	wantSrc(t, "a full one", s, true)
	return s
}

func longNames(from, count int) []string {
	var all []string
	for i := range count {
		all = append(all, longName(from+i))
	}
	return all
}

func TestLintOfFullSources(t *testing.T) {
	unused := longNames(1000, 30)
	joined := func(l []string) string { return strings.Join(l, " ") }
	// as many names that are free
	s := fullSource(t, func(n int) []impl.Node { return []impl.Node{variable(longName(10000 + n))} })
	free := longNames(10000, 38*399)
	wantLintOf(t, s, nil, notesOf(joined(free)+"|"+joined(unused)))
	wantLintOf(t, s, free, notesOf("|"+joined(unused)))
	wantLintOf(t, s, backwards(free)[1:], notesOf(free[len(free)-1]+"|"+joined(unused)))
	wantLintOf(t, s, free[1000:], notesOf(joined(free[:1000])+"|"+joined(unused)))
	s.Exports = backwards(unused)
	wantLintOf(t, s, nil, notesOf(joined(free)))
	wantLintOf(t, s, free, nil)
	s.Exports = unused[1:]
	wantLintOf(t, s, free, notesOf("|"+unused[0]))
	s.Exports = unused[:29]
	wantLintOf(t, s, free, notesOf("|"+unused[29]))
	// as many names that are set
	s = fullSource(t, func(n int) []impl.Node {
		return []impl.Node{{Kind: impl.NdNum, N: n}, {Kind: impl.NdSet, S: longName(10000 + n)}}
	})
	wantLintOf(t, s, nil, notesOf("|"+joined(unused)+"|"+joined(longNames(10000, 38*199))))
	// all use all: nothing is odd
	s = fullSource(t, func(n int) []impl.Node {
		return []impl.Node{variable(unused[n%30]), {Kind: impl.NdSet, S: unused[n%29]}}
	})
	wantLintOf(t, s, nil, nil)
	// each uses and sets the same one
	s = fullSource(t, func(int) []impl.Node { return []impl.Node{variable("y"), {Kind: impl.NdSet, S: "y"}} })
	wantLintOf(t, s, nil, notesOf("y|"+joined(unused)+"|y"))
	// the last one of all uses just one
	s.Convs[7].Prog = program(variable(unused[17]))
	wantLintOf(t, s, names("y"), notesOf("|"+joined(slices.Delete(slices.Clone(unused), 17, 18))+"|y"))
}

// Nodes inside of each other, as deep as they go, the variable in the innermost.
func TestLintOfDeepSources(t *testing.T) {
	deep := func(inner impl.Node, outer func(arg int) impl.Node) impl.Src {
		nodes := []impl.Node{inner}
		for i := range impl.MaxNodes - 1 {
			nodes = append(nodes, outer(i))
		}
		return impl.Src{Name: "aa", Exports: names("f"), Defs: []impl.Def{{Name: "f", Prog: program(nodes...)}, {Name: "v", Prog: program(variable("f"))}}}
	}
	wantLintOf(t, deep(variable("y"), func(arg int) impl.Node { return binding(arg, "x", "v") }), nil, notesOf("y|v"))
	wantLintOf(t, deep(variable("v"), func(arg int) impl.Node { return binding(arg, "x", "v") }), nil, notesOf("|v"))
	wantLintOf(t, deep(variable("v"), func(arg int) impl.Node { return binding(arg, "x", "f") }), nil, nil)
	wantLintOf(t, deep(variable("v"), func(arg int) impl.Node { return setting("x"+impl.Dec(arg), arg) }), nil, notesOf("||"+strings.Join(namesUpTo(impl.MaxNodes-1), " ")))
}

func TestExportsThatOneOfTwoHas(t *testing.T) {
	defs := "(define f 1) (define g 2) (define h 3) (define v 4) "
	wantCompare(t, "", "", "")
	wantCompare(t, defs, defs, "")
	wantCompare(t, defs+"(export f)", defs+"(export f)", "")
	wantCompare(t, defs, defs+"(export f)", "+f")
	wantCompare(t, defs+"(export f)", defs, "-f")
	wantCompare(t, "", defs+"(export f)", "+f")
	wantCompare(t, defs+"(export f)", "", "-f")
	wantCompare(t, defs+"(export f)", defs+"(export g)", "+g -f")
	// in the order of the one that has them
	wantCompare(t, defs+"(export g f)", defs+"(export v h)", "+v +h -g -f")
	wantCompare(t, defs+"(export g v f)", defs+"(export v h)", "+h -g -f")
	wantCompare(t, defs+"(export f g h v)", defs+"(export v h g f)", "")
	wantCompare(t, defs+"(export f g h)", defs+"(export v h g)", "+v -f")
	wantCompare(t, defs+"(export f) (export v)", defs+"(export v g) (export h)", "+g +h -f")
	// a Def is no Export, and none that has the name of a beginning
	wantCompare(t, defs+"(export f)", defs+"(define ff 1) (export ff)", "+ff -f")
	wantCompare(t, defs+"(export v)", "(define f 1) (define v 2) (export f)", "+f -v")
	// what stands in the Defs is not asked
	wantCompare(t, "(export f) (define f 1)", "(export f) (define (f x) (+ x 1)) (define g 1)", "")
}

func TestTypesOfAnotherSize(t *testing.T) {
	wantCompare(t, "(record pt 1)", "(record pt 1)", "")
	wantCompare(t, "(record pt 1)", "(record pt 2)", "~pt")
	wantCompare(t, "(record pt 0)", "(record pt 8)", "~pt")
	for a := range 9 {
		for b := range 9 {
			want := "~pt"
			if a == b {
				want = ""
			}
			wantCompare(t, "(record pt "+impl.Dec(a)+")", "(record pt "+impl.Dec(b)+")", want)
		}
	}
	// what one of two has alone is not told
	wantCompare(t, "(record pt 1)", "", "")
	wantCompare(t, "", "(record pt 1) (record qt 2)", "")
	wantCompare(t, "(record pt 1)", "(record qt 2)", "")
	wantCompare(t, "(record pt 1) (record qt 2)", "(record qt 3) (record rt 1)", "~qt")
	// two that change their sizes with each other, one that has the size of another
	wantCompare(t, "(record pt 1) (record qt 2)", "(record pt 2) (record qt 1)", "~pt ~qt")
	wantCompare(t, "(record pt 1) (record qt 2)", "(record qt 1) (record pt 1)", "~qt")
	wantCompare(t, "(record pt 1) (record qt 2)", "(record qt 2) (record pt 1)", "")
	// in the order of the first one
	wantCompare(t, "(record pt 1) (record qt 2) (record rt 3)", "(record rt 1) (record qt 2) (record pt 3)", "~pt ~rt")
	wantCompare(t, "(record rt 1) (record qt 2) (record pt 3)", "(record pt 1) (record qt 2) (record rt 3)", "~rt ~pt")
	// a Type is no Export, and a Conv no Type
	wantCompare(t, "(record pt 1) (define pt 1)", "(record pt 2) (define pt 1) (export pt)", "+pt ~pt")
	wantCompare(t, "(record pt 1) (convert pt 1)", "(record pt 1)", "")
}

// What is neither an Export nor a Type is another without being told.
func TestWhatIsNotCompared(t *testing.T) {
	a := deepSrc(wholeSrc(t))
	b := impl.Src{Name: "zz", Exports: slices.Clone(a.Exports), Types: slices.Clone(a.Types)}
	for _, name := range a.Exports {
		b.Defs = append(b.Defs, defOf(t, name, "'other"))
	}
	wantCompareOf(t, a, b, nil)
	b.Imports = names("qq aa")
	b.Convs = []impl.Def{defOf(t, b.Types[1].Name, "k")}
	slices.Reverse(b.Exports)
	slices.Reverse(b.Types)
	slices.Reverse(b.Defs)
	wantCompareOf(t, a, b, nil)
	// + and -, then ~
	b.Types[0].Size++
	b.Exports = b.Exports[1:]
	wantCompareOf(t, a, b, []string{"-" + a.Exports[3], "~" + b.Types[0].Name})
	wantCompareOf(t, b, a, []string{"+" + a.Exports[3], "~" + b.Types[0].Name})
}

func TestCompareFullSources(t *testing.T) {
	all := append(longNames(1000, 30), longNames(4000, 30)...)
	full := func(exports []string, size func(i int) int) impl.Src {
		s := fullSource(t, func(n int) []impl.Node { return []impl.Node{variable("y")} })
		s.Exports = slices.Clone(exports)
		for i, name := range exports {
			s.Defs[29-i].Name = name
		}
		for i := range s.Types {
			s.Types[i].Size = size(i)
		}
		wantSrc(t, "a full one", s, true)
		return s
	}
	up, down, same := func(i int) int { return i + 1 }, func(i int) int { return (i + 2) % 9 }, func(int) int { return 8 }
	sizes := longNames(2000, 8)
	with := func(mark string, l []string) []string { return names(each(l, mark, " ")) }
	wantCompareOf(t, full(all[:30], up), full(all[30:], down), slices.Concat(with("+", all[30:]), with("-", all[:30]), with("~", sizes)))
	wantCompareOf(t, full(all[:30], up), full(all[30:], same), slices.Concat(with("+", all[30:]), with("-", all[:30]), with("~", sizes[:7])))
	wantCompareOf(t, full(all[:30], same), full(backwards(all[:30]), same), nil)
	wantCompareOf(t, full(all[:30], same), full(all[29:59], same), slices.Concat(with("+", all[30:59]), with("-", all[:29])))
	wantCompareOf(t, full(backwards(all[:30]), down), full(all[1:31], down), slices.Concat(with("+", all[30:31]), with("-", all[:1])))
}

func TestLintOfSourcesThatAreNotRight(t *testing.T) {
	// right, these would be told: y is free, u unused, k set
	wantLintOf(t, source(t, "(library aa) (define u (begin y (set! k 1)))"), nil, notesOf("y|u|k"))
	wantLintOf(t, impl.Src{}, nil, nil)
	wantLintOf(t, impl.Src{}, names("y"), nil)
	wantLintOf(t, impl.Src{Defs: []impl.Def{defOf(t, "u", "(begin y (set! k 1))")}}, nil, nil)
	for what, s := range wrongSources(t) {
		s.Defs = append([]impl.Def{defOf(t, "u", "(begin y (set! k 1))")}, s.Defs...)
		if told := impl.Lint(s, nil); len(told) != 0 {
			t.Errorf("%s: Lint = %s", what, shown(told))
		}
		if told := impl.Lint(s, names("y k g h")); len(told) != 0 {
			t.Errorf("%s: Lint = %s", what, shown(told))
		}
	}
}

func TestCompareOfSourcesThatAreNotRight(t *testing.T) {
	right := source(t, "(library aa) (export mine f) (define mine 1) (define f 2) (record pt 8) (record none 7)")
	also := source(t, "(library aa)")
	wantCompareOf(t, right, deepSrc(wholeSrc(t)), names("+v +h +g -mine ~pt ~none"))
	wrong := wrongSources(t)
	wrong["nothing"] = impl.Src{}
	for what, s := range wrong {
		for _, other := range []impl.Src{right, also, s, {}, deepSrc(wholeSrc(t))} {
			if told := impl.Compare(s, other); len(told) != 0 {
				t.Errorf("%s: Compare = %q", what, told)
			}
			if told := impl.Compare(other, s); len(told) != 0 {
				t.Errorf("%s, as the second one: Compare = %q", what, told)
			}
		}
	}
}

// some tells some of a row, in any order.
func (m maker) some(row []string) []string {
	row = slices.Clone(row)
	m.r.Shuffle(len(row), func(i, k int) { row[i], row[k] = row[k], row[i] })
	return row[:m.r.Intn(len(row)+1)]
}

// plot is a right source by chance, its programs with nodes in any order; names are
// few, so that they stand in many places.
func (m maker) plot() impl.Src {
	s := impl.Src{Name: m.pick("aa", "a", "%t"), Imports: m.some(names("bb c d"))}
	p := plantation{m.r}
	for _, name := range m.some(names("a b c d e f %t")) {
		s.Defs = append(s.Defs, impl.Def{Name: name, Prog: p.program(1 + m.r.Intn(12))})
	}
	s.Exports = m.some(namesOfDefs(s.Defs))
	for _, name := range m.some(names("a b pt qt")) {
		s.Types = append(s.Types, impl.Type{Name: name, Size: m.r.Intn(3)})
	}
	for _, name := range m.some(namesOfTypes(s.Types)) {
		s.Convs = append(s.Convs, impl.Def{Name: name, Prog: p.program(1 + m.r.Intn(12))})
	}
	return s
}

// handful is what is given by chance, also what is no name.
func (m maker) handful() []string {
	return append(m.some(names("a b c d e f %t g v w x0 x1")), m.some([]string{"", "if", "a", "b", "zz"})...)
}

// sorts counts what is told, each sort by itself.
func sorts(seen map[string]int, s impl.Src, told []impl.Note) {
	names := []string{"", "free", "unused", "set"}
	for _, n := range told {
		seen[names[n.Kind]]++
		if slices.Contains(namesOfDefs(s.Convs), n.Name) {
			seen["of a Conv's name"]++
		}
	}
	if len(told) == 0 {
		seen["nothing"]++
	}
}

func TestLintByChance(t *testing.T) {
	t.Parallel()
	m, seen := maker{rand.New(rand.NewSource(211))}, map[string]int{}
	for range 6000 {
		s, given := m.plot(), m.handful()
		wantLintOf(t, s, given, modelLint(s, given))
		sorts(seen, s, impl.Lint(s, given))
		if s, code := impl.ParseLib(strings.Join(m.library(8), " ")); code == impl.LbOk {
			wantLintOf(t, s, given, modelLint(s, given))
			sorts(seen, s, impl.Lint(s, given))
		}
	}
	wantAll(t, seen, 500, "free|unused|set|nothing|of a Conv's name")
}

func TestSpoiltSourcesAreNotLinted(t *testing.T) {
	t.Parallel()
	m, wrong, right := maker{rand.New(rand.NewSource(212))}, 0, 0
	for range 6000 {
		s, other := m.plot(), m.plot()
		for range 1 + m.r.Intn(2) {
			m.spoilSrc(&s)
		}
		given := m.handful()
		wantLintOf(t, s, given, modelLint(s, given))
		one, two := impl.Compare(s, other), impl.Compare(other, s)
		if !alike(one, modelCompare(s, other)) || !alike(two, modelCompare(other, s)) {
			t.Errorf("Compare of %s and %s is %q, and %q the other way round", shown(s), shown(other), one, two)
		}
		if rightSrc(s) {
			right++
		} else {
			wrong++
		}
	}
	if right < 1000 || wrong < 1000 {
		t.Error("one sort was hardly there", right, wrong)
	}
}

// What is exported is never told unused, whatever the source and what is given; and
// as soon as it is exported no more it is, where nobody uses it.
func TestWhatIsExportedIsNeverUnused(t *testing.T) {
	t.Parallel()
	m, seen := maker{rand.New(rand.NewSource(213))}, map[string]int{}
	for range 3000 {
		s, given := m.plot(), m.handful()
		if m.r.Intn(3) == 0 {
			m.spoilSrc(&s)
		}
		told := impl.Lint(s, given)
		wantLintOf(t, s, given, told)
		for i, name := range s.Exports {
			z := deepSrc(s)
			z.Exports = slices.Delete(z.Exports, i, i+1)
			less := impl.Lint(z, given)
			others := slices.DeleteFunc(slices.Clone(less), func(n impl.Note) bool { return n.Kind == impl.LnUnused && n.Name == name })
			if rightSrc(s) && !alike(others, told) {
				t.Fatalf("Lint(%s, %q) = %s; without the Export %s it is %s", shown(s), given, shown(told), name, shown(less))
			}
			seen[map[bool]string{true: "unused then", false: "used"}[len(less) > len(others)]]++
		}
	}
	wantAll(t, seen, 500, "used|unused then")
}

// What is given, defined, or used elsewhere changes its own notes alone.
func TestEachThingChangesItsOwnNotes(t *testing.T) {
	t.Parallel()
	m, seen := maker{rand.New(rand.NewSource(214))}, map[string]int{}
	without := func(told []impl.Note, kind int, name string) []impl.Note {
		return slices.DeleteFunc(slices.Clone(told), func(n impl.Note) bool { return n == impl.Note{Kind: kind, Name: name} })
	}
	for range 3000 {
		s, given := m.plot(), m.handful()
		told := impl.Lint(s, given)
		for _, n := range told {
			z := deepSrc(s)
			switch n.Kind {
			case impl.LnFree:
				wantLintOf(t, s, append(slices.Clone(given), n.Name), without(told, impl.LnFree, n.Name))
				z.Defs = append(z.Defs, defOf(t, n.Name, "1"))
				wantLintOf(t, z, given, without(without(told, impl.LnFree, n.Name), impl.LnSet, n.Name))
				seen["free"]++
			case impl.LnUnused:
				z.Exports = append(z.Exports, n.Name)
				wantLintOf(t, z, given, without(told, impl.LnUnused, n.Name))
				z = deepSrc(s)
				if len(z.Types) > 0 && len(z.Convs) == 0 {
					z.Convs = []impl.Def{{Name: z.Types[0].Name, Prog: program(variable(n.Name))}}
					wantLintOf(t, z, given, without(told, impl.LnUnused, n.Name))
					seen["used by a converter"]++
				}
				seen["unused"]++
			case impl.LnSet:
				wantLintOf(t, s, append(slices.Clone(given), n.Name), without(told, impl.LnFree, n.Name))
				z.Defs = append(z.Defs, impl.Def{Name: n.Name, Prog: program(variable(n.Name))})
				wantLintOf(t, z, given, without(without(told, impl.LnFree, n.Name), impl.LnSet, n.Name))
				seen["set"]++
			}
		}
	}
	wantAll(t, seen, 300, "free|unused|set|used by a converter")
}

// Compare both ways are each other's mirror.
func TestCompareByChance(t *testing.T) {
	t.Parallel()
	m, seen := maker{rand.New(rand.NewSource(215))}, map[string]int{}
	for range 6000 {
		a, b := m.plot(), m.plot()
		if m.r.Intn(3) == 0 {
			b = deepSrc(a)
			b.Exports, b.Types, b.Convs = m.some(namesOfDefs(b.Defs)), b.Types[:m.r.Intn(len(b.Types)+1)], nil
			for i := range b.Types {
				b.Types[i].Size = m.r.Intn(3)
			}
		}
		want := modelCompare(a, b)
		wantCompareOf(t, a, b, want)
		for _, line := range want {
			seen[line[:1]]++
		}
		if len(want) == 0 {
			seen["nothing"]++
		}
	}
	wantAll(t, seen, 500, "+|-|~|nothing")
}

// asLinted is what Lint and Compare are handed.
type asLinted struct {
	One   impl.Src
	Other impl.Src
	Given []string
}

// lintedOfAllSorts are right ones and wrong ones.
func lintedOfAllSorts(t *testing.T) []asLinted {
	m := maker{rand.New(rand.NewSource(216))}
	all := []asLinted{{}, {Given: names("a b")}, {One: deepSrc(wholeSrc(t)), Other: impl.Src{}}, {One: deepSrc(wholeSrc(t)), Other: source(t, "(library aa) (record pt 7)"), Given: names("h")}}
	for range 200 {
		one := asLinted{m.plot(), m.plot(), m.handful()}
		if m.r.Intn(4) == 0 {
			m.spoilSrc(&one.One)
		}
		all = append(all, one)
	}
	return all
}

func TestLintAndCompareLeaveWhatIsHandedIn(t *testing.T) {
	told := 0
	for _, l := range lintedOfAllSorts(t) {
		given := roomyOf(l)
		before := wholeOf(given)
		odd, lines := impl.Lint(given.One, given.Given), impl.Compare(given.One, given.Other)
		if !alike(wholeOf(given), before) {
			t.Fatalf("what is handed in is changed: %s", shown(l))
		}
		// what stands in the spare room is not looked at
		if !alike(odd, modelLint(l.One, l.Given)) || !alike(lines, modelCompare(l.One, l.Other)) {
			t.Fatalf("%s is told otherwise with room behind: %s, %q", shown(l), shown(odd), lines)
		}
		if !shareNone([]any{given}, []any{odd, lines}) {
			t.Fatalf("what is told of %s shares memory", shown(l))
		}
		told += len(odd) + len(lines)
	}
	if told < 500 {
		t.Error("hardly one was told", told)
	}
}

// Nothing is kept: one source changes nothing of what is told of another, nor does
// what is written into what was told.
func TestLintAndCompareKeepNothing(t *testing.T) {
	wantAgain(t, lintedOfAllSorts(t), func(l asLinted) string {
		odd, lines := impl.Lint(l.One, l.Given), impl.Compare(l.One, l.Other)
		told := fmt.Sprint(odd, lines)
		for i := range odd[:cap(odd)] {
			odd[:cap(odd)][i] = impl.Note{Kind: -9, Name: "spare"}
		}
		for i := range lines[:cap(lines)] {
			lines[:cap(lines)][i] = "spare"
		}
		return told
	})
}
