package tests

import (
	"fmt"
	"math"
	"math/rand"
	"slices"
	"strings"
	"testing"

	"loop.example/g00765/impl"
)

// wantLib asks for the library of a text, which must be right.
func wantLib(t *testing.T, text string, want impl.Src) {
	t.Helper()
	s, code := impl.ParseLib(text)
	if code != impl.LbOk || !alike(s, want) {
		t.Errorf("ParseLib(%.200q) = %s, %d; want %s", text, shown(s), code, shown(want))
	}
	if !impl.SrcOk(s) {
		t.Errorf("ParseLib(%.200q) is not SrcOk: %s", text, shown(s))
	}
}

// wantLibCode asks for a code; beside one that refuses nothing is told.
func wantLibCode(t *testing.T, text string, want int) {
	t.Helper()
	s, code := impl.ParseLib(text)
	if code != want {
		t.Errorf("ParseLib(%.200q) tells %d; want %d", text, code, want)
	}
	if code != impl.LbOk && !alike(s, impl.Src{}) {
		t.Errorf("ParseLib(%.200q) = %s beside the code %d; want the zero Src", text, shown(s), code)
	}
	if code == impl.LbOk && !impl.SrcOk(s) {
		t.Errorf("ParseLib(%.200q) is not SrcOk: %s", text, shown(s))
	}
}

func wantSrc(t *testing.T, what string, s impl.Src, want bool) {
	t.Helper()
	if ok := impl.SrcOk(s); ok != want {
		t.Errorf("%s: SrcOk = %v; want %v: %s", what, ok, want, shown(s))
	}
}

// wantBadForms puts each form into a library, alone and between others.
func wantBadForms(t *testing.T, forms ...string) {
	t.Helper()
	for _, form := range forms {
		wantLibCode(t, "(library aa) "+form, impl.LbForm)
		wantLibCode(t, "(library aa) (import bb) (define v 1) "+form+" (record pt 2) (export v)", impl.LbForm)
		wantLibCode(t, form, impl.LbForm)
		wantLibCode(t, form+" (library aa)", impl.LbForm)
	}
}

func wantGoodForms(t *testing.T, forms ...string) {
	t.Helper()
	for _, form := range forms {
		wantLibCode(t, "(library aa) "+form, impl.LbOk)
		wantLibCode(t, form, impl.LbForm)
		wantLibCode(t, form+" (library aa)", impl.LbForm)
	}
}

func defOf(t *testing.T, name, text string) impl.Def {
	t.Helper()
	return impl.Def{Name: name, Prog: meant(t, text)}
}

func TestCodesOfLibraries(t *testing.T) {
	for want, code := range []int{impl.LbOk, impl.LbRead, impl.LbForm, impl.LbDup, impl.LbExport} {
		if code != want {
			t.Error("code", want, "is", code)
		}
	}
}

func TestLibrariesOfEachForm(t *testing.T) {
	wantLib(t, "(library aa)", impl.Src{Name: "aa"})
	wantLib(t, "(library aa) (import bb)", impl.Src{Name: "aa", Imports: names("bb")})
	wantLib(t, "(library aa) (import bb cc dd)", impl.Src{Name: "aa", Imports: names("bb cc dd")})
	wantLib(t, "(library aa) (record pt 2)", impl.Src{Name: "aa", Types: []impl.Type{{Name: "pt", Size: 2}}})
	wantLib(t, "(library aa) (define v 7)", impl.Src{Name: "aa", Defs: []impl.Def{defOf(t, "v", "7")}})
	wantLib(t, "(library aa) (define (f) 7)", impl.Src{Name: "aa", Defs: []impl.Def{defOf(t, "f", "(lambda () 7)")}})
	wantLib(t, "(library aa) (define (f x y) (f y) x)", impl.Src{Name: "aa", Defs: []impl.Def{defOf(t, "f", "(lambda (x y) (begin (f y) x))")}})
	wantLib(t, "(library aa) (export v) (define v 7)", impl.Src{Name: "aa", Exports: names("v"), Defs: []impl.Def{defOf(t, "v", "7")}})
	wantLib(t, "(library aa) (convert pt (lambda (r) r)) (record pt 1)", impl.Src{
		Name: "aa", Types: []impl.Type{{Name: "pt", Size: 1}}, Convs: []impl.Def{defOf(t, "pt", "(lambda (r) r)")},
	})
	wantLib(t, "(library aa) (import) (export) (import) (export)", impl.Src{Name: "aa"})
}

// wholeLib is a library with each of the forms, several times each.
const wholeLib = `(library aa)
(import bb cc) (export f v) (record pt 2)
(define v 1)
(define (f x . (y)) (print x) (or y '(a . b)))
(convert pt (lambda (r) (cons (field pt 0 r) (cons v '()))))
(export) (import dd) (record none 0) (define (g) (make pt (h) 2)) ; a remark
(convert none (lambda (r) '())) (export h g)
(define h (lambda (x) (set! v x)))`

func wholeSrc(t *testing.T) impl.Src {
	t.Helper()
	return impl.Src{
		Name: "aa", Imports: names("bb cc dd"), Exports: names("f v h g"),
		Types: []impl.Type{{Name: "pt", Size: 2}, {Name: "none", Size: 0}},
		Defs: []impl.Def{
			defOf(t, "v", "1"), defOf(t, "f", "(lambda (x y) (print x) (or y '(a . b)))"),
			defOf(t, "g", "(lambda () (make pt (h) 2))"), defOf(t, "h", "(lambda (x) (set! v x))"),
		},
		Convs: []impl.Def{
			defOf(t, "pt", "(lambda (r) (cons (field pt 0 r) (cons v '())))"), defOf(t, "none", "(lambda (r) '())"),
		},
	}
}

func TestALibraryOfAllForms(t *testing.T) {
	wantLib(t, wholeLib, wholeSrc(t))
	wantLib(t, strings.ReplaceAll(wholeLib, "\n", "\n\t;(foo\n "), wholeSrc(t))
	wantLib(t, impl.Show(read(t, wholeLib)), wholeSrc(t))
}

// eachOrder goes through all orders of the forms.
func eachOrder(forms []string, f func([]string)) {
	if len(forms) < 2 {
		f(forms)
		return
	}
	for i, first := range forms {
		others := slices.Delete(slices.Clone(forms), i, i+1)
		eachOrder(others, func(l []string) { f(append([]string{first}, l...)) })
	}
}

// What is told is in the order in which it stands, list by list, whatever stands between.
func TestFormsInAnyOrder(t *testing.T) {
	forms := []string{"(import bb cc)", "(import dd)", "(export v f)", "(record pt 2)", "(define v 1)", "(define (f x) x)", "(convert pt f)"}
	orders := 0
	eachOrder(forms, func(l []string) {
		orders++
		want := impl.Src{Name: "aa", Exports: names("v f"), Types: []impl.Type{{Name: "pt", Size: 2}}, Convs: []impl.Def{defOf(t, "pt", "f")}}
		for _, form := range l {
			switch form {
			case "(import bb cc)":
				want.Imports = append(want.Imports, "bb", "cc")
			case "(import dd)":
				want.Imports = append(want.Imports, "dd")
			case "(define v 1)":
				want.Defs = append(want.Defs, defOf(t, "v", "1"))
			case "(define (f x) x)":
				want.Defs = append(want.Defs, defOf(t, "f", "(lambda (x) x)"))
			}
		}
		wantLib(t, "(library aa)"+strings.Join(l, ""), want)
	})
	if orders != 5040 {
		t.Error(orders, "orders")
	}
}

// Each of the five lists has names of its own: one name may stand in all of them.
func TestOneNameInEachList(t *testing.T) {
	wantLib(t, "(library aa) (import v) (export v) (record v 3) (define v v) (convert v v)", impl.Src{
		Name: "aa", Imports: names("v"), Exports: names("v"), Types: []impl.Type{{Name: "v", Size: 3}},
		Defs: []impl.Def{defOf(t, "v", "v")}, Convs: []impl.Def{defOf(t, "v", "v")},
	})
	wantLib(t, "(library aa) (import bb) (export aa) (record aa 3) (define (aa aa) aa) (convert aa aa)", impl.Src{
		Name: "aa", Imports: names("bb"), Exports: names("aa"), Types: []impl.Type{{Name: "aa", Size: 3}},
		Defs: []impl.Def{defOf(t, "aa", "(lambda (aa) aa)")}, Convs: []impl.Def{defOf(t, "aa", "aa")},
	})
}

// asFunction holds (define head body) against the define of the lambda that it stands for.
func asFunction(t *testing.T, own, body string) {
	t.Helper()
	short, code := impl.ParseLib("(library aa) (define (f " + own + ") " + body + ")")
	long, other := impl.ParseLib("(library aa) (define f (lambda (" + own + ") " + body + "))")
	if code != other || !alike(short, long) {
		t.Errorf("a function of (%s) %.100s is %s, %d; its lambda %s, %d", own, body, shown(short), code, shown(long), other)
	}
	if code != impl.LbOk {
		return
	}
	want := impl.Src{Name: "aa", Defs: []impl.Def{defOf(t, "f", "(lambda ("+own+") "+body+")")}}
	wantLib(t, "(library aa) (define (f "+own+") "+body+")", want)
	if root := short.Defs[0].Prog.Nodes[short.Defs[0].Prog.Root]; root.Kind != impl.NdLam || !slices.Equal(root.Names, names(own)) {
		t.Errorf("a function of (%s) is %s", own, shown(root))
	}
}

func TestFunctionsAreTheirLambdas(t *testing.T) {
	for n := range 11 {
		own := strings.Join(namesUpTo(n), " ")
		for _, body := range []string{"1", "x0", "1 2", "(f 1) (g) x0", "(lambda () x0)", "(define x 1)", "()", "", "else", "(or x0 x1) (let* ((x 1) (y x)) y)", repeated("1", 300), repeated("1", 398), repeated("1", 399)} {
			asFunction(t, own, body)
		}
	}
	for _, own := range []string{"f", "x x", "x y x", "if", "car", "7", "#t", "()", "(x)", "'x", "x (y)", "library define"} {
		asFunction(t, own, "1")
	}
	for s, want := range map[string]int{
		"(define (f x y) 1)": impl.LbOk, "(define (f . (x y)) 1)": impl.LbOk, "(define (f . ()) 1)": impl.LbOk, "(define . ((f) . (1)))": impl.LbOk,
		"(define (f . x) 1)": impl.LbForm, "(define (f x . y) 1)": impl.LbForm, "(define (f . 7) 1)": impl.LbForm, "(define (f) . 1)": impl.LbForm, "(define (f) 1 . 2)": impl.LbForm,
		"(define (f))": impl.LbForm, "(define (f x))": impl.LbForm, "(define () 1)": impl.LbForm, "(define (7 x) 1)": impl.LbForm, "(define (if x) 1)": impl.LbForm,
		"(define ((f) x) 1)": impl.LbForm, "(define ('f) 1)": impl.LbForm, "(define (() x) 1)": impl.LbForm, "(define (#t) 1)": impl.LbForm,
	} {
		wantLibCode(t, "(library aa)"+s, want)
	}
}

// As deep as Read takes it, a function is taken, though its lambda, written out as a define, would stand one deeper.
func TestFunctionsAsDeepAsTheyGo(t *testing.T) {
	deep := func(n int) string { return strings.Repeat("(car ", n) + "x" + strings.Repeat(")", n) }
	inside := impl.MaxDeep - 1
	want := impl.Src{Name: "aa", Defs: []impl.Def{defOf(t, "f", "(lambda (x) "+deep(inside)+")")}}
	wantLib(t, "(library aa) (define (f x) "+deep(inside)+")", want)
	wantLibCode(t, "(library aa) (define (f x) "+deep(inside+1)+")", impl.LbRead)
	wantLibCode(t, "(library aa) (define f (lambda (x) "+deep(inside)+"))", impl.LbRead)
	wantLibCode(t, "(library aa) (define f "+deep(inside)+")", impl.LbOk)
}

// A form is as Expand takes it, in a define of either sort and in a convert.
func TestProgramsOfLibraries(t *testing.T) {
	for _, s := range []string{
		"7", "#f", "x", "'()", "'(a b . 3)", "(if a b c)", "(lambda (x) x y)", "(begin 1 2)", "(set! v 1)", "(let ((x 1)) x)", "(let* ((x 1) (y x)) y)",
		"(cond (a 1) (else 2))", "(and a b)", "(or a b c)", "(when a b c)", "(make pt 1 2)", "(field pt 7 x)", "(is pt x)", "(+ 1 2)", "(f 1 2)", "((f))", "(library aa)", "(record pt 2)", "(convert)",
	} {
		wantLib(t, "(library aa) (define v "+s+") (record pt 8) (convert pt "+s+")", impl.Src{
			Name: "aa", Types: []impl.Type{{Name: "pt", Size: 8}}, Defs: []impl.Def{defOf(t, "v", s)}, Convs: []impl.Def{defOf(t, "pt", s)},
		})
	}
	for _, s := range []string{
		"()", "if", "define", "car", "(if)", "(if 1 2)", "(lambda x x)", "(lambda (x x) 1)", "(lambda (x))", "(begin)", "(set! if 1)", "(let ((x)) 1)", "(cond (1))", "(define x 1)", "(define (x) 1)",
		"(car)", "(car 1 2)", "(make)", "(make if)", "(field pt 8 x)", "(field pt -1 x)", "(is pt)", "(f . 1)", "(f 1 2 3 4 5 6 7 8 9)", "(quote)", "(else)", "(f ())", "(f (g (car)))", "(begin 1 (define x 1))",
	} {
		wantBad(t, s)
		wantBadForms(t, "(define v "+s+")", "(define (f) "+s+")", "(define (f x) 1 "+s+")", "(define (f x) "+s+" 1)", "(convert pt "+s+")")
	}
}

func TestNodesOfLibraries(t *testing.T) {
	for _, n := range []int{1, impl.MaxNodes - 2, impl.MaxNodes - 1, impl.MaxNodes, impl.MaxNodes + 1} {
		code := func(most int) int {
			if n > most {
				return impl.LbForm
			}
			return impl.LbOk
		}
		wantLibCode(t, "(library aa) (define v "+sized(n)+")", code(impl.MaxNodes))
		wantLibCode(t, "(library aa) (record pt 0) (convert pt "+sized(n)+")", code(impl.MaxNodes))
		// each form of a function may have as many, but the function has them all, and is one more
		wantLibCode(t, "(library aa) (define (f) "+sized(n)+")", code(impl.MaxNodes-1))
		wantLibCode(t, "(library aa) (define (f) 1 "+sized(n)+")", code(impl.MaxNodes-3))
	}
	// what one program has is not counted in another
	wantLibCode(t, "(library aa) (define v "+sized(200)+") (define w "+sized(201)+")", impl.LbOk)
	if s, _ := impl.ParseLib("(library aa) (define v " + sized(200) + ") (define w " + sized(201) + ")"); len(s.Defs) != 2 || len(s.Defs[0].Prog.Nodes) != 200 || len(s.Defs[1].Prog.Nodes) != 201 {
		t.Error("nodes of two programs", shown(s))
	}
}

func TestTextsThatReadRefuses(t *testing.T) {
	for _, s := range []string{
		"(", ")", "(library aa", "(library aa))", "(library aa) (", "(library aa) (define v 1", "(library aa) )", "(library aa) .", "(library . )", "(. aa)",
		"(library %t)", "(library aa) (import %t)", "(library aa) (define %t 1)", "(library Aa)", "(library \"aa\")", "(library aa) \x00", "(library aa) \xff", "(library aa)\r", "'", "(library aa) '",
		"(library abcdefghijklmnopq)", "(library aa) (define v 1000001)", "(library aa) (record pt 1a)", "(library aa) (define v #true)", "(library a.a)",
		"(foo) (", "(library aa) (library bb) (", "(library aa) (import aa) (", "(library aa) (export v) %",
		"(library aa) (define v " + strings.Repeat("(", impl.MaxDeep) + strings.Repeat(")", impl.MaxDeep) + ")",
	} {
		if _, bad := impl.Read(s); bad == -1 {
			t.Errorf("Read takes %q", s)
		}
		wantLibCode(t, s, impl.LbRead)
	}
	// 5 cells, 3 of each import, 7 of each record: as many as there may be
	full := "(library aa) " + repeated("(import)", 327) + "(record pt 1) (record qt 2)"
	if d := read(t, full); len(d.Cells) != impl.MaxCells {
		t.Fatal(len(d.Cells), "cells")
	}
	wantLibCode(t, full, impl.LbOk)
	wantLibCode(t, full+" ; and no more", impl.LbOk)
	for _, more := range []string{"x", "7", "()", "(import)", "(foo)"} {
		wantLibCode(t, full+more, impl.LbRead)
	}
}

func TestWhereTheLibraryFormStands(t *testing.T) {
	for _, s := range []string{
		"", " \n\t", "; (library aa)", "()", "7", "#t", "aa", "library", "'library", "(quote library)", "library aa",
		"(library)", "(library aa bb)", "(library aa aa)", "(library aa 1)", "(library 7)", "(library #t)", "(library ())", "(library (aa))", "(library 'aa)", "(library . aa)", "(library aa . bb)", "(library aa . 7)",
		"((library aa))", "(library (library aa))", "(begin (library aa))", "'(library aa)", "((library) aa)", "(librar aa)", "(librarys aa)", "(aa library)",
		"(import bb)", "(import)", "(export)", "(define v 1)", "(record pt 1)", "(convert pt 1)", "(foo)",
		"(import bb) (library aa)", "(import) (library aa)", "(define v 1) (library aa)", "(record pt 1) (library aa)", "1 (library aa)", "() (library aa)",
		"(library aa) (library aa)", "(library aa) (library bb)", "(library aa) (import bb) (library cc)", "(library aa) (define v 1) (library aa) (export v)", "(library aa) (library)", "(library) (library aa)",
	} {
		wantLibCode(t, s, impl.LbForm)
	}
	for _, s := range []string{"(library aa)", " (library aa) ", "(library . (aa))", "(library aa . ())", "; a remark\n(library aa);", "(library\n\taa)", "(library aa)(import)"} {
		wantLib(t, s, impl.Src{Name: "aa"})
	}
}

func TestFormsThatAreNone(t *testing.T) {
	wantBadForms(t,
		"7", "#t", "#f", "x", "()", "'x", "''()", "import", "define", "(foo)", "(foo bar)", "((import bb))", "((define v 1))", "(7)", "(())", "(#t bb)", "('import bb)", "(if 1 2 3)", "(begin (define v 1))", "(begin)",
		"(set! v 1)", "(lambda (x) x)", "(print 1)", "(imports bb)", "(exports v)", "(records pt 1)", "(defines v 1)", "(converts pt 1)", "(impor bb)", "(expor v)", "(recor pt 1)", "(defin v 1)", "(conver pt 1)",
		"(let () 1)", "(make pt 1)", "(field pt 0 x)", "(is pt x)", "(quote import)", "(else)", "(cond)", "(and)", "(or)",
	)
}

func TestFormsWithTooManyOrTooFewParts(t *testing.T) {
	wantBadForms(t,
		"(import . bb)", "(import bb . cc)", "(import bb . 7)", "(export . v)", "(export v . w)",
		"(record)", "(record pt)", "(record 2)", "(record pt 2 3)", "(record pt qt 2)", "(record pt . 2)", "(record pt 2 . 3)", "(record 2 pt)",
		"(define)", "(define w)", "(define w 1 2)", "(define w x 1)", "(define w . 1)", "(define w 1 . 2)", "(define 1)", "(define 1 2)", "(define (w))", "(define . w)", "(define (w) . 1)",
		"(convert)", "(convert pt)", "(convert pt 1 2)", "(convert pt . 1)", "(convert pt 1 . 2)", "(convert 1)", "(convert 1 2)", "(convert . pt)",
		"(convert (pt) 1)", "(convert (pt r) r)", "(convert () 1)", // a short form has define alone
		"(record (pt) 2)", "(import (bb))", "(export (v))", "(import bb (cc))", "(import ())", "(export ())",
	)
	wantGoodForms(t, "(import)", "(export)", "(import . ())", "(import . (bb))", "(import bb . ())", "(record . (pt . (2)))", "(define . (v . (1)))", "(define v 1 . ())")
}

func TestSizesInTexts(t *testing.T) {
	for n := -3; n <= 12; n++ {
		form := "(record pt " + impl.Dec(n) + ")"
		if n < 0 || n > 8 {
			wantBadForms(t, form)
			continue
		}
		wantLib(t, "(library aa) "+form, impl.Src{Name: "aa", Types: []impl.Type{{Name: "pt", Size: n}}})
	}
	wantBadForms(t, "(record pt 1000000)", "(record pt -1000000)", "(record pt #t)", "(record pt #f)", "(record pt x)", "(record pt ())", "(record pt (2))", "(record pt '2)", "(record pt (+ 1 1))", "(record pt -0)", "(record pt --)")
}

// everyName puts a text where a name can stand.
func everyName(s string) []string {
	return []string{
		"(import " + s + ")", "(import bb " + s + ")", "(import " + s + " bb)", "(export " + s + ")", "(define v 1) (export v " + s + ")",
		"(record " + s + " 2)", "(define " + s + " 1)", "(define (" + s + ") 1)", "(define (" + s + " x) 1)", "(define (g " + s + ") 1)", "(define (g x " + s + ") 1)", "(convert " + s + " 1)",
	}
}

func TestNamesInTexts(t *testing.T) {
	for _, s := range append(append(slices.Clone(words), primitives()...), "7", "-7", "#t", "#f", "()", "(x)", "'x", "(car x)") {
		wantLibCode(t, "(library "+s+")", impl.LbForm)
		for _, form := range everyName(s) {
			if form == "(define (x) 1)" { // a function
				continue
			}
			wantLibCode(t, "(library aa) "+form, impl.LbForm)
		}
	}
	// the words of a library are no words elsewhere
	for _, s := range []string{"library", "import", "export", "record", "convert", "iff", "t", "->", "-0", "abcdefghijklmnop", "x!?*/<=>+-_9"} {
		wantLib(t, "(library "+s+")", impl.Src{Name: s})
		wantLib(t, "(library aa) (import "+s+") (export "+s+") (record "+s+" 1) (define ("+s+" "+s+") "+s+") (convert "+s+" ("+s+"))", impl.Src{
			Name: "aa", Imports: names(s), Exports: names(s), Types: []impl.Type{{Name: s, Size: 1}},
			Defs: []impl.Def{defOf(t, s, "(lambda ("+s+") "+s+")")}, Convs: []impl.Def{defOf(t, s, "("+s+")")},
		})
	}
}

// manyForms writes n names with a word, cut into forms of at most some of them each.
func manyForms(word string, all []string, each int) string {
	var b strings.Builder
	for part := range slices.Chunk(all, each) {
		b.WriteString("(" + word + " " + strings.Join(part, " ") + ") ")
	}
	return b.String()
}

func each(all []string, ahead, behind string) string {
	var b strings.Builder
	for _, s := range all {
		b.WriteString(ahead + s + behind)
	}
	return b.String()
}

func TestHowManyInTexts(t *testing.T) {
	for _, n := range []int{0, 1, 29, 30, 31, 32, 60} {
		code := impl.LbOk
		if n > 30 {
			code = impl.LbForm
		}
		all := namesUpTo(n)
		for _, cut := range []int{1, 7, 30, 31, 100} {
			wantLibCode(t, "(library aa) "+manyForms("import", all, cut), code)
			own := each(all[:min(n, 30)], "(define ", " 1)")
			wantLibCode(t, "(library aa) "+manyForms("export", all, cut)+own, code)
			wantLibCode(t, "(library aa) "+own+manyForms("export", all, cut), code)
		}
		wantLibCode(t, "(library aa) "+each(all, "(define ", " 1)"), code)
		wantLibCode(t, "(library aa) "+each(all, "(define (", ") 1)"), code)
	}
	for _, n := range []int{0, 1, 7, 8, 9, 10, 30} {
		code := impl.LbOk
		if n > 8 {
			code = impl.LbForm
		}
		all := namesUpTo(n)
		wantLibCode(t, "(library aa) "+each(all, "(record ", " 1)"), code)
		some := each(all[:min(n, 8)], "(record ", " 1)")
		wantLibCode(t, "(library aa) "+some+each(all, "(convert ", " 1)"), code)
		wantLibCode(t, "(library aa) "+each(all, "(convert ", " 1)")+some, code)
	}
	// too many, though two of them are alike or stand nowhere, are too many
	wantLibCode(t, "(library aa) (import "+repeated("bb", 30)+")", impl.LbDup)
	wantLibCode(t, "(library aa) (import "+repeated("bb", 31)+")", impl.LbForm)
	wantLibCode(t, "(library aa) (import "+repeated("aa", 31)+")", impl.LbForm)
	wantLibCode(t, "(library aa) (export "+repeated("v", 31)+")", impl.LbForm)
	wantLibCode(t, "(library aa) (define v 1) (export "+strings.Join(namesUpTo(30), " ")+")", impl.LbExport)
	wantLibCode(t, "(library aa) (define v 1) (export "+strings.Join(namesUpTo(31), " ")+")", impl.LbForm)
	wantLibCode(t, "(library aa)"+repeated("(define v 1)", 30), impl.LbDup)
	wantLibCode(t, "(library aa)"+repeated("(define v 1)", 31), impl.LbForm)
	wantLibCode(t, "(library aa)"+repeated("(record pt 1)", 8), impl.LbDup)
	wantLibCode(t, "(library aa)"+repeated("(record pt 1)", 9), impl.LbForm)
	wantLibCode(t, "(library aa)"+repeated("(convert pt 1)", 8), impl.LbDup)
	wantLibCode(t, "(library aa)"+repeated("(convert pt 1)", 9), impl.LbForm)
}

// As many of all as there may be, at one go.
func TestAFullLibrary(t *testing.T) {
	all, some := namesUpTo(30), namesUpTo(8)
	want := impl.Src{Name: "aa", Imports: all, Exports: all}
	for _, s := range all {
		want.Defs = append(want.Defs, defOf(t, s, "1"))
	}
	for i, s := range some {
		want.Types = append(want.Types, impl.Type{Name: s, Size: i + 1})
		want.Convs = append(want.Convs, defOf(t, s, "2"))
	}
	text := "(library aa) " + manyForms("import", all, 30) + manyForms("export", all, 30) + each(all, "(define ", " 1)")
	for _, p := range want.Types {
		text += "(record " + p.Name + " " + impl.Dec(p.Size) + ")"
	}
	text += each(some, "(convert ", " 2)")
	wantLib(t, text, want)
	for _, more := range []string{"(import y)", "(export x0)", "(define y 1)", "(record y 1)", "(convert x0 1)", "(define (y) 1)"} {
		wantLibCode(t, text+more, impl.LbForm)
		wantLibCode(t, strings.Replace(text, "(import", more+"(import", 1), impl.LbForm)
	}
	wantLib(t, text+"(import) (export)", want)
}

func TestTwoOfOneName(t *testing.T) {
	ground := "(library aa) (define v 1) (define w 2) (record pt 1) (record qt 2) "
	for _, s := range []string{
		"(import bb bb)", "(import bb cc bb)", "(import bb) (import bb)", "(import bb) (define x 1) (import cc bb)", "(import aa)", "(import bb aa)", "(import bb) (import aa)", "(import aa aa)",
		"(export v v)", "(export v w v)", "(export v) (export v)", "(export w v) (import bb) (export w)",
		"(record pt 1)", "(record pt 2)", "(record qt 2)", "(record rt 1) (record rt 1)",
		"(define v 1)", "(define v 2)", "(define (v) 1)", "(define (w x) x)", "(define (x) 1) (define (x) 1)", "(define x 1) (define (x) 1)",
		"(convert pt 1) (convert pt 1)", "(convert pt v) (convert qt v) (convert pt w)",
	} {
		wantLibCode(t, ground+s, impl.LbDup)
		wantLibCode(t, "(library aa) "+s+strings.TrimPrefix(ground, "(library aa)"), impl.LbDup)
	}
	wantLibCode(t, ground+"(import bb cc) (export v w) (record rt 1) (define (x) 1) (convert pt 1) (convert qt 1)", impl.LbOk)
	wantLibCode(t, "(library aa) (import a aaa aab)", impl.LbOk)
}

func TestExportsAndConvertersOfNothing(t *testing.T) {
	ground := "(library aa) (import bb) (define v 1) (record pt 1) "
	for _, s := range []string{
		"(export w)", "(export v w)", "(export w v)", "(export v) (export w)", "(export aa)", "(export bb)", "(export pt)", "(export vv)",
		"(convert qt 1)", "(convert v 1)", "(convert aa 1)", "(convert pt 1) (convert qt 1)", "(convert bb 1)", "(define x 1) (convert x 1)", "(record x 1) (export x)", "(export x) (define (y x) x)",
	} {
		wantLibCode(t, ground+s, impl.LbExport)
		wantLibCode(t, "(library aa) "+s+strings.TrimPrefix(ground, "(library aa)"), impl.LbExport)
	}
}

// Where several of them fit the first one is told, wherever in the text they stand.
func TestTheFirstReasonIsTold(t *testing.T) {
	many := "(import " + strings.Join(namesUpTo(31), " ") + ")"
	faults := [][]string{
		impl.LbRead: {"(foo .)", ")", "(library aa) .", "%", "(define v 1 . )", "\xff"},
		impl.LbForm: {"(foo)", "(library bb)", "(define v)", "(define v if)", "(record pt 9)", "(import 7)", "7", "()", "(define (f x x) 1)", "(convert pt (car))", many},
		impl.LbDup:  {"(import aa)", "(import zz zz)", "(define two 1) (define two 2)", "(record two 1) (record two 1)", "(export two two)", "(convert two 1) (convert two 1)"},
		impl.LbExport: {
			"(export nobody)", "(convert nobody 1)",
		},
	}
	for one, all := range faults {
		for other, others := range faults {
			for _, a := range all {
				for _, b := range others {
					if a == b { // said twice it may be another fault
						continue
					}
					code := min(one, other)
					wantLibCode(t, "(library aa) "+a+" "+b, code)
					wantLibCode(t, "(library aa) (define p 1) "+b+" (record q 2) "+a+" (export p)", code)
				}
			}
		}
	}
	// a library that is missing, or stands where it cannot be, is a form as well
	for _, s := range []string{"(import bb bb)", "(define v 1) (define v 1) (library aa)", "(export v) (library aa)", "(library if) (import bb bb)", "(library aa bb) (export v)"} {
		wantLibCode(t, s, impl.LbForm)
		wantLibCode(t, s+"(", impl.LbRead)
	}
}

// deepSrc is s once more, with no list of it shared.
func deepSrc(s impl.Src) impl.Src {
	s.Imports, s.Exports, s.Types = slices.Clone(s.Imports), slices.Clone(s.Exports), slices.Clone(s.Types)
	for _, l := range []*[]impl.Def{&s.Defs, &s.Convs} {
		*l = slices.Clone(*l)
		for i := range *l {
			(*l)[i].Prog = deepProg((*l)[i].Prog)
		}
	}
	return s
}

// otherwise asks whether wholeSrc is right with one thing in it another.
func otherwise(t *testing.T, what string, want bool, change func(s *impl.Src)) {
	t.Helper()
	s := deepSrc(wholeSrc(t))
	wantSrc(t, "ahead of "+what, s, true)
	change(&s)
	wantSrc(t, what, s, want)
}

func TestSourcesThatAreRight(t *testing.T) {
	wantSrc(t, "nothing", impl.Src{}, false)
	wantSrc(t, "a name alone", impl.Src{Name: "aa"}, true)
	wantSrc(t, "empty lists", impl.Src{Name: "aa", Imports: []string{}, Exports: []string{}, Types: []impl.Type{}, Defs: []impl.Def{}, Convs: []impl.Def{}}, true)
	wantSrc(t, "all of it", wholeSrc(t), true)
	wantSrc(t, "the name that or binds", impl.Src{
		Name: "%t", Imports: names("x"), Exports: names("%t"), Types: []impl.Type{{Name: "%t"}},
		Defs: []impl.Def{defOf(t, "%t", "1")}, Convs: []impl.Def{defOf(t, "%t", "1")},
	}, true)
	wantSrc(t, "that name imports itself", impl.Src{Name: "%t", Imports: names("%t")}, false)
	otherwise(t, "no name", false, func(s *impl.Src) { s.Name = "" })
	otherwise(t, "another name", true, func(s *impl.Src) { s.Name = "zz" })
	otherwise(t, "the name of a def", true, func(s *impl.Src) { s.Name = "v" })
	otherwise(t, "no imports", true, func(s *impl.Src) { s.Imports = nil })
	otherwise(t, "no exports", true, func(s *impl.Src) { s.Exports = nil })
	otherwise(t, "no convs", true, func(s *impl.Src) { s.Convs = nil })
	otherwise(t, "no types, but convs", false, func(s *impl.Src) { s.Types = nil })
	otherwise(t, "no defs, but exports", false, func(s *impl.Src) { s.Defs = nil })
	otherwise(t, "neither types nor convs", true, func(s *impl.Src) { s.Types, s.Convs = nil, nil })
	otherwise(t, "neither defs nor exports", true, func(s *impl.Src) { s.Defs, s.Exports = nil, nil })
	otherwise(t, "another order", true, func(s *impl.Src) {
		slices.Reverse(s.Imports)
		slices.Reverse(s.Exports)
		slices.Reverse(s.Types)
		slices.Reverse(s.Defs)
		slices.Reverse(s.Convs)
	})
}

func TestNamesOfSources(t *testing.T) {
	all := append(append(slices.Clone(words), primitives()...), "", " ", "7", "-7", "#t", "%", "%u", "X", "x y", "x.y", "(x)", "abcdefghijklmnopq", strings.Repeat("x", 1<<16), "\x00", "\xff")
	for _, name := range append(all, "%t", "x", "library", "abcdefghijklmnop") {
		want := readsAsName(name)
		otherwise(t, "Name "+name, want, func(s *impl.Src) { s.Name = name })
		for i := range 3 {
			otherwise(t, "Import "+name, want, func(s *impl.Src) { s.Imports[i] = name })
		}
		for i := range 4 {
			otherwise(t, "Def and Export "+name, want, func(s *impl.Src) {
				s.Exports[i], s.Defs[slices.Index(names("v f g h"), s.Exports[i])].Name = name, name
			})
			otherwise(t, "Export "+name, false, func(s *impl.Src) { s.Exports[i] = name })
			otherwise(t, "Def "+name, false, func(s *impl.Src) { s.Defs[i].Name = name })
			otherwise(t, "Def that is no Export "+name, want, func(s *impl.Src) { s.Defs[i].Name, s.Exports = name, nil })
		}
		for i := range 2 {
			otherwise(t, "Type and Conv "+name, want, func(s *impl.Src) { s.Types[i].Name, s.Convs[i].Name = name, name })
			otherwise(t, "Type "+name, false, func(s *impl.Src) { s.Types[i].Name = name })
			otherwise(t, "Conv "+name, false, func(s *impl.Src) { s.Convs[i].Name = name })
			otherwise(t, "Type without Conv "+name, want, func(s *impl.Src) { s.Types[i].Name, s.Convs = name, nil })
		}
	}
}

func TestUnlikeNamesOfSources(t *testing.T) {
	for i := range 3 {
		otherwise(t, "it imports itself", false, func(s *impl.Src) { s.Imports[i] = s.Name })
		otherwise(t, "it imports itself", false, func(s *impl.Src) { s.Name = s.Imports[i] })
		for k := range i {
			otherwise(t, "two Imports", false, func(s *impl.Src) { s.Imports[i] = s.Imports[k] })
		}
	}
	for i := range 4 {
		for k := range i {
			otherwise(t, "two Exports", false, func(s *impl.Src) { s.Exports[i] = s.Exports[k] })
			otherwise(t, "two Defs", false, func(s *impl.Src) { s.Defs[i].Name = s.Defs[k].Name })
			otherwise(t, "two Defs, no Export", false, func(s *impl.Src) { s.Defs[i].Name, s.Exports = s.Defs[k].Name, nil })
		}
	}
	otherwise(t, "two Defs that are the same", false, func(s *impl.Src) { s.Defs = append(s.Defs, s.Defs[0]) })
	otherwise(t, "two Types", false, func(s *impl.Src) { s.Types[1].Name = s.Types[0].Name })
	otherwise(t, "two Types, no Conv", false, func(s *impl.Src) { s.Types[1].Name, s.Convs = s.Types[0].Name, nil })
	otherwise(t, "two Types that are the same", false, func(s *impl.Src) { s.Types = append(s.Types, s.Types[0]) })
	otherwise(t, "two Convs", false, func(s *impl.Src) { s.Convs[1].Name = s.Convs[0].Name })
	otherwise(t, "two Convs", false, func(s *impl.Src) { s.Convs[0].Name = s.Convs[1].Name })
	otherwise(t, "a name in each list", true, func(s *impl.Src) {
		s.Imports[0], s.Exports[0], s.Types[0].Name, s.Defs[1].Name, s.Convs[0].Name = "q", "q", "q", "q", "q"
	})
}

func TestSizesOfSources(t *testing.T) {
	for _, n := range []int{math.MinInt, -9, -1, 0, 1, 2, 7, 8, 9, 100, math.MaxInt} {
		for i := range 2 {
			otherwise(t, "Size "+impl.Dec(n), n >= 0 && n <= 8, func(s *impl.Src) { s.Types[i].Size = n })
			otherwise(t, "Size without Conv "+impl.Dec(n), n >= 0 && n <= 8, func(s *impl.Src) { s.Types[i].Size, s.Convs = n, nil })
		}
	}
}

func TestHowManySourcesHave(t *testing.T) {
	for _, n := range []int{0, 1, 29, 30, 31, 32, 1 << 16} {
		all := namesUpTo(n)
		wantSrc(t, fmt.Sprint(n, " Imports"), impl.Src{Name: "aa", Imports: all}, n <= 30)
		var defs []impl.Def
		for _, s := range all {
			defs = append(defs, impl.Def{Name: s, Prog: program(variable("x"))})
		}
		wantSrc(t, fmt.Sprint(n, " Defs"), impl.Src{Name: "aa", Defs: defs}, n <= 30)
		wantSrc(t, fmt.Sprint(n, " Defs and Exports"), impl.Src{Name: "aa", Defs: defs, Exports: all}, n <= 30)
		wantSrc(t, fmt.Sprint(n, " Exports"), impl.Src{Name: "aa", Defs: defs[:min(n, 30)], Exports: all}, n <= 30)
	}
	for _, n := range []int{0, 1, 7, 8, 9, 10, 30, 1 << 16} {
		var types []impl.Type
		var convs []impl.Def
		for _, s := range namesUpTo(n) {
			types = append(types, impl.Type{Name: s, Size: 8})
			convs = append(convs, impl.Def{Name: s, Prog: program(variable("x"))})
		}
		wantSrc(t, fmt.Sprint(n, " Types"), impl.Src{Name: "aa", Types: types}, n <= 8)
		wantSrc(t, fmt.Sprint(n, " Types and Convs"), impl.Src{Name: "aa", Types: types, Convs: convs}, n <= 8)
		wantSrc(t, fmt.Sprint(n, " Convs"), impl.Src{Name: "aa", Types: types[:min(n, 8)], Convs: convs}, n <= 8)
	}
}

func TestExportsAndConvsOfSources(t *testing.T) {
	for _, name := range names("q aa bb pt none x") {
		otherwise(t, "Export of no Def "+name, false, func(s *impl.Src) { s.Exports = append(s.Exports, name) })
	}
	for i := range 4 {
		otherwise(t, "a Def goes", false, func(s *impl.Src) { s.Defs = slices.Delete(s.Defs, i, i+1) })
		otherwise(t, "an Export goes", true, func(s *impl.Src) { s.Exports = slices.Delete(s.Exports, i, i+1) })
	}
	for _, name := range names("q aa bb v f x") {
		otherwise(t, "Conv of no Type "+name, false, func(s *impl.Src) { s.Convs = append(s.Convs, defOf(t, name, "1")) })
	}
	for i := range 2 {
		otherwise(t, "a Type goes", false, func(s *impl.Src) { s.Types = slices.Delete(s.Types, i, i+1) })
		otherwise(t, "a Conv goes", true, func(s *impl.Src) { s.Convs = slices.Delete(s.Convs, i, i+1) })
	}
}

func TestProgramsOfSources(t *testing.T) {
	for what, p := range wrongProgs() {
		wantProg(t, what, p, false)
		for i := range 4 {
			otherwise(t, "Def: "+what, false, func(s *impl.Src) { s.Defs[i].Prog = p })
		}
		for i := range 2 {
			otherwise(t, "Conv: "+what, false, func(s *impl.Src) { s.Convs[i].Prog = p })
		}
	}
	for _, p := range append(ofEachKind(), over(impl.Node{Kind: impl.NdSeq}, impl.MaxNodes-1)) {
		otherwise(t, "Def", true, func(s *impl.Src) { s.Defs[3].Prog = p })
		otherwise(t, "Conv", true, func(s *impl.Src) { s.Convs[1].Prog = p })
	}
}

// written is a tree as a text.
func written(s sexp) string {
	switch s.atom.Kind {
	case impl.DaNum:
		return impl.Dec(s.atom.N)
	case impl.DaBool:
		return []string{"#f", "#t"}[s.atom.N]
	case impl.DaSym:
		return s.atom.S
	}
	var all []string
	for _, part := range s.list {
		all = append(all, written(part))
	}
	if s.end != nil {
		all = append(all, ".", written(*s.end))
	}
	return "(" + strings.Join(all, " ") + ")"
}

// expandedAlone is what Expand makes of a form that is written down alone.
func expandedAlone(s sexp) (impl.Prog, bool) {
	d, bad := impl.Read(written(s))
	if bad != -1 {
		return impl.Prog{}, false
	}
	p, code := impl.Expand(d, 0)
	return p, code == impl.XpOk
}

// saidBy puts what a form says into s, by the chapter's own words; false where it is none.
func saidBy(s *impl.Src, form sexp, first bool) bool {
	if !form.isList() || len(form.list) == 0 {
		return false
	}
	word, rest := form.list[0].atom.S, form.list[1:]
	if first != (word == "library") {
		return false
	}
	switch word {
	case "library":
		if len(rest) != 1 || !rest[0].isName() {
			return false
		}
		s.Name = rest[0].atom.S
		return true
	case "import", "export":
		for _, part := range rest {
			if !part.isName() {
				return false
			}
			if word == "import" {
				s.Imports = append(s.Imports, part.atom.S)
			} else {
				s.Exports = append(s.Exports, part.atom.S)
			}
		}
		return true
	case "record":
		if len(rest) != 2 || !rest[0].isName() || rest[1].atom.Kind != impl.DaNum || rest[1].atom.N < 0 || rest[1].atom.N > 8 {
			return false
		}
		s.Types = append(s.Types, impl.Type{Name: rest[0].atom.S, Size: rest[1].atom.N})
		return true
	case "define":
		if len(rest) > 1 && len(rest[0].list) > 0 {
			own := sexp{list: rest[0].list[1:], end: rest[0].end}
			rest = []sexp{rest[0].list[0], {list: append([]sexp{symbol("lambda"), own}, rest[1:]...)}}
		}
		d, ok := namedBy(rest)
		s.Defs = append(s.Defs, d)
		return ok
	case "convert":
		d, ok := namedBy(rest)
		s.Convs = append(s.Convs, d)
		return ok
	}
	return false
}

func namedBy(rest []sexp) (impl.Def, bool) {
	if len(rest) != 2 || !rest[0].isName() {
		return impl.Def{}, false
	}
	p, ok := expandedAlone(rest[1])
	return impl.Def{Name: rest[0].atom.S, Prog: p}, ok
}

func namesOfDefs(l []impl.Def) []string {
	var all []string
	for _, d := range l {
		all = append(all, d.Name)
	}
	return all
}

func namesOfTypes(l []impl.Type) []string {
	var all []string
	for _, d := range l {
		all = append(all, d.Name)
	}
	return all
}

func listsOf(s impl.Src) [5][]string {
	return [5][]string{s.Imports, s.Exports, namesOfTypes(s.Types), namesOfDefs(s.Defs), namesOfDefs(s.Convs)}
}

func tooMany(s impl.Src) bool {
	return len(s.Imports) > 30 || len(s.Exports) > 30 || len(s.Defs) > 30 || len(s.Types) > 8 || len(s.Convs) > 8
}

func twoAlike(s impl.Src) bool {
	for _, l := range listsOf(s) {
		seen := map[string]bool{}
		for _, name := range l {
			if seen[name] {
				return true
			}
			seen[name] = true
		}
	}
	return slices.Contains(s.Imports, s.Name)
}

func ofNothing(s impl.Src) bool {
	for _, name := range s.Exports {
		if !slices.Contains(namesOfDefs(s.Defs), name) {
			return true
		}
	}
	for _, d := range s.Convs {
		if !slices.Contains(namesOfTypes(s.Types), d.Name) {
			return true
		}
	}
	return false
}

// modelLib is ParseLib, by the chapter's own words.
func modelLib(text string) (impl.Src, int) {
	d, bad := impl.Read(text)
	if bad != -1 {
		return impl.Src{}, impl.LbRead
	}
	var s impl.Src
	forms := len(d.Tops) > 0
	for i, top := range d.Tops {
		forms = saidBy(&s, treeOf(d.Cells, top), i == 0) && forms
	}
	switch {
	case !forms || tooMany(s):
		return impl.Src{}, impl.LbForm
	case twoAlike(s):
		return impl.Src{}, impl.LbDup
	case ofNothing(s):
		return impl.Src{}, impl.LbExport
	}
	return s, impl.LbOk
}

// rightSrc is SrcOk, by the chapter's own words.
func rightSrc(s impl.Src) bool {
	ok := readsAsName(s.Name)
	for _, l := range listsOf(s) {
		for _, name := range l {
			ok = ok && readsAsName(name)
		}
	}
	for _, p := range s.Types {
		ok = ok && p.Size >= 0 && p.Size <= 8
	}
	for _, d := range append(slices.Clone(s.Defs), s.Convs...) {
		ok = ok && impl.ProgOk(d.Prog)
	}
	return ok && !tooMany(s) && !twoAlike(s) && !ofNothing(s)
}

// wantModelLib holds ParseLib of a text against the model, and counts its codes.
func wantModelLib(t *testing.T, text string, codes *[5]int) {
	t.Helper()
	s, code := impl.ParseLib(text)
	want, wanted := modelLib(text)
	if code != wanted || !alike(s, want) {
		t.Errorf("ParseLib(%.600q) = %s, %d; want %s, %d", text, shown(s), code, shown(want), wanted)
	}
	if impl.SrcOk(s) != (code == impl.LbOk) {
		t.Errorf("ParseLib(%.600q) tells %d, SrcOk of it is %v", text, code, impl.SrcOk(s))
	}
	codes[code]++
}

// A form of each head with all small parts, alone, behind the library form and behind that with what it may hang on.
func TestLibrariesOfAllSmallForms(t *testing.T) {
	t.Parallel()
	heads := []string{"library", "import", "export", "record", "define", "convert", "foo", "begin", "lambda", "quote", "7", "()", "(import)", "'import"}
	parts := []string{"aa", "v", "pt", "if", "0", "8", "9", "-1", "#t", "()", "(f)", "(f v)", "(f f)", "(v . v)", "(f . x)", "(if v)", "((f))", "'v", "(lambda (x) x)", ". v", "(car)"}
	var codes [5]int
	eachForm(heads, parts, 3, func(s string) {
		wantModelLib(t, s, &codes)
		wantModelLib(t, "(library aa)"+s, &codes)
		wantModelLib(t, "(library aa)(define v 1)"+s+"(record pt 2)", &codes)
	})
	if slices.Min(codes[:]) < 20 || codes[impl.LbOk] < 500 {
		t.Error("codes", codes)
	}
}

// libForm is a form of a library by chance; its names are few, so that some are alike.
func (m maker) libForm() string {
	lib, own, typ := func() string { return m.pick("bb", "cc", "dd", "ee", "ff", "gg") }, func() string { return m.pick("v", "w", "f", "g", "h", "k", "l", "m") }, func() string { return m.pick("pt", "qt", "rt", "st") }
	several := func(f func() string) string {
		var all []string
		for range m.r.Intn(3) {
			all = append(all, f())
		}
		return strings.Join(all, " ")
	}
	switch m.r.Intn(9) {
	case 0:
		return "(import " + several(lib) + ")"
	case 1:
		return "(export " + several(own) + ")"
	case 2, 3:
		return "(record " + typ() + " " + impl.Dec(m.r.Intn(9)) + ")"
	case 4, 5:
		return "(define " + own() + " " + m.form(m.r.Intn(3)) + ")"
	case 6, 7:
		return "(define (" + own() + " " + strings.Join(namesUpTo(m.r.Intn(5)), " ") + ") " + m.forms(1, 3, m.r.Intn(3)) + ")"
	}
	return "(convert " + typ() + " " + m.form(m.r.Intn(3)) + ")"
}

func (m maker) library(most int) []string {
	forms := []string{"(library " + m.pick("aa", "zz", "v", "pt") + ")"}
	for range m.r.Intn(most + 1) {
		forms = append(forms, m.libForm())
	}
	return forms
}

func TestLibrariesByChance(t *testing.T) {
	t.Parallel()
	m := maker{rand.New(rand.NewSource(11))}
	var right, spoilt, moved [5]int
	for i := range 6000 {
		forms := m.library(1 + i%12)
		text := strings.Join(forms, " ")
		wantModelLib(t, text, &right)
		for range 3 {
			wantModelLib(t, m.spoilt(text), &spoilt)
		}
		a, b := m.r.Intn(len(forms)), m.r.Intn(len(forms))
		forms[a], forms[b] = forms[b], forms[a]
		if m.r.Intn(3) == 0 {
			forms = append(forms, forms[a])
		}
		wantModelLib(t, strings.Join(forms, "\n"), &moved)
	}
	if right[impl.LbOk] < 500 || right[impl.LbForm] > 50 || right[impl.LbDup] < 500 || right[impl.LbExport] < 500 {
		t.Error("libraries", right)
	}
	if slices.Min(spoilt[:]) < 200 {
		t.Error("spoilt libraries", spoilt)
	}
	if slices.Min(append(moved[:1], moved[2:]...)) < 200 {
		t.Error("moved forms", moved)
	}
}

// spoilSrc makes one thing of s another.
func (m maker) spoilSrc(s *impl.Src) {
	name := m.pick("v", "w", "pt", "qt", "bb", "cc", "aa", "zz", "if", "", "%t", "car", "7", "q")
	at := func(n int) int { return m.r.Intn(max(n, 1)) }
	switch m.r.Intn(14) {
	case 0:
		s.Name = name
	case 1:
		s.Imports = append(s.Imports, name)
	case 2:
		s.Exports = append(s.Exports, name)
	case 3:
		s.Types = append(s.Types, impl.Type{Name: name, Size: m.r.Intn(11) - 1})
	case 4:
		s.Defs = append(s.Defs, impl.Def{Name: name, Prog: program(variable(name))})
	case 5:
		s.Convs = append(s.Convs, impl.Def{Name: name, Prog: program(variable("x"))})
	case 6:
		s.Imports = s.Imports[at(len(s.Imports)):]
	case 7:
		s.Exports = s.Exports[at(len(s.Exports)):]
	case 8:
		s.Types = s.Types[at(len(s.Types)):]
	case 9:
		s.Defs = s.Defs[at(len(s.Defs)):]
	case 10:
		s.Convs = s.Convs[at(len(s.Convs)):]
	case 11:
		s.Imports = append(s.Imports, namesUpTo(27+m.r.Intn(6))...)
	case 12:
		if len(s.Defs) > 0 {
			p := &s.Defs[at(len(s.Defs))].Prog
			p.Root += m.r.Intn(2)
		}
	case 13:
		if len(s.Types) > 0 {
			s.Types[at(len(s.Types))].Size = m.r.Intn(11) - 1
		}
	}
}

func TestSpoiltSourcesByChance(t *testing.T) {
	t.Parallel()
	m := maker{rand.New(rand.NewSource(111))}
	counts := map[bool]int{}
	for range 20000 {
		s, code := impl.ParseLib(strings.Join(m.library(8), " "))
		if code != impl.LbOk {
			s = deepSrc(wholeSrc(t))
		}
		for range 1 + m.r.Intn(2) {
			m.spoilSrc(&s)
		}
		want := rightSrc(s)
		wantSrc(t, "by chance", s, want)
		counts[want]++
	}
	if counts[true] < 2000 || counts[false] < 2000 {
		t.Error("one sort was hardly there", counts)
	}
}

func TestSrcOkLeavesItsArgument(t *testing.T) {
	m := maker{rand.New(rand.NewSource(112))}
	for i := range 200 {
		s := deepSrc(wholeSrc(t))
		if i > 0 {
			m.spoilSrc(&s)
		}
		s = roomyOf(s)
		before := wholeOf(s)
		ok := impl.SrcOk(s)
		if !alike(wholeOf(s), before) {
			t.Errorf("what is handed in is changed: %s", shown(s))
		}
		// what stands in the spare room is not looked at
		if ok != impl.SrcOk(deepSrc(s)) {
			t.Errorf("SrcOk is another without spare room: %s", shown(s))
		}
	}
}

// textsOfLibraries are right ones and wrong ones.
func textsOfLibraries() []string {
	m := maker{rand.New(rand.NewSource(113))}
	all := []string{wholeLib, "(library aa)", "", "(library aa) (import aa)", "(library aa) (export v)", "(library aa) (define (f x) (lambda (y) (make pt x y '(a b))))", "(library aa) (foo)", "("}
	for range 200 {
		all = append(all, strings.Join(m.library(8), " "))
	}
	return all
}

func TestParseLibAnswersNewMemory(t *testing.T) {
	told := 0
	for _, text := range textsOfLibraries() {
		text = strings.Clone(text)
		one, code := impl.ParseLib(text)
		two, _ := impl.ParseLib(text)
		if !shareNone([]any{text}, []any{one}) {
			t.Errorf("what is told shares memory with the text %.200q, or with itself", text)
		}
		want, _ := modelLib(text)
		if code == impl.LbOk {
			told++
			overwrite(&one)
			if !alike(two, want) {
				t.Errorf("one answer for %.200q is written into another", text)
			}
		}
		if three, again := impl.ParseLib(text); again != code || !alike(three, want) {
			t.Errorf("ParseLib(%.200q) has another answer when it is asked again", text)
		}
	}
	if told < 20 {
		t.Error("hardly one was told", told)
	}
}

// overwrite writes into all lists of s, and into the room behind them.
func overwrite(s *impl.Src) {
	for _, l := range []*[]string{&s.Imports, &s.Exports} {
		for i := range (*l)[:cap(*l)] {
			(*l)[:cap(*l)][i] = "spare"
		}
	}
	for i := range s.Types[:cap(s.Types)] {
		s.Types[:cap(s.Types)][i] = impl.Type{Name: "spare", Size: -9}
	}
	for _, l := range [][]impl.Def{s.Defs, s.Convs} {
		for i := range l {
			for k := range l[i].Prog.Nodes {
				n := &l[i].Prog.Nodes[k]
				for j := range n.Args {
					n.Args[j] = -9
				}
				for j := range n.Names {
					n.Names[j] = "spare"
				}
				*n = impl.Node{Kind: -9}
			}
			l[i] = impl.Def{Name: "spare"}
		}
	}
}

// wantAgain asks all of a row three times in turn: each has the same answer each time.
func wantAgain[T any](t *testing.T, all []T, ask func(x T) string) {
	t.Helper()
	var first []string
	for range 3 {
		for i, x := range all {
			now := ask(x)
			if len(first) <= i {
				first = append(first, now)
			}
			if first[i] != now {
				t.Fatalf("%s has another answer when it is asked again", shown(x))
			}
		}
	}
}

// Nothing is kept: one library changes nothing of what is told of another.
func TestParseLibKeepsNothing(t *testing.T) {
	wantAgain(t, textsOfLibraries(), func(text string) string {
		s, code := impl.ParseLib(text)
		return fmt.Sprint(code, s, impl.SrcOk(s))
	})
}

// A long text is read as any other.
func TestLongTexts(t *testing.T) {
	blanks := strings.Repeat(" \n\t", 1<<16)
	wantLib(t, blanks+"(library"+blanks+"aa)"+blanks+";"+strings.Repeat("(", 1<<16), impl.Src{Name: "aa"})
	wantLibCode(t, strings.Repeat("(", 1<<16), impl.LbRead)
	wantLibCode(t, "(library aa)"+strings.Repeat("(import)", 1<<14), impl.LbRead)
	wantLibCode(t, "(library "+strings.Repeat("a", 1<<16)+")", impl.LbRead)
}
