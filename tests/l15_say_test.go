package tests

import (
	"math/rand"
	"slices"
	"strconv"
	"strings"
	"testing"

	"loop.example/g00765/impl"
)

// modelSay says it in the document's own words, of a right world.
func modelSay(w impl.World, text string) (impl.World, []string) {
	z := deepWorld(w)
	d, bad := impl.Read(text)
	if bad != -1 {
		return z, []string{"read " + strconv.Itoa(bad)}
	}
	var answers []string
	for _, top := range d.Tops {
		answers = append(answers, modelDatum(&z, treeOf(d.Cells, top)))
	}
	return z, answers
}

// modelDatum does what one datum asks for, and tells its answer.
func modelDatum(z *impl.World, s sexp) string {
	word := ""
	if len(s.list) > 0 {
		word = s.list[0].atom.S
	}
	if word == "import" && s.parts(2) && s.list[1].isName() {
		return modelImport(z, s.list[1].atom.S)
	}
	name, form := "", s
	if word == "define" && s.parts(3) && s.list[1].isName() {
		name, form = s.list[1].atom.S, s.list[2]
	}
	if word == "define" && s.isList() && len(s.list) > 2 && len(s.list[1].list) > 0 && s.list[1].list[0].isName() {
		own := sexp{list: s.list[1].list[1:], end: s.list[1].end}
		name, form = s.list[1].list[0].atom.S, sexp{list: append([]sexp{symbol("lambda"), own}, s.list[2:]...)}
	}
	p, ok := expandedAlone(form)
	if !ok {
		return "form"
	}
	if len(z.Sys.Units) == 60 {
		return "full"
	}
	y, m := impl.Eval(z.Sys, 0, p, 1000)
	z.Sys = y
	if name == "" || m.Mode != impl.MoEnd || m.End != impl.EnDone {
		return modelAnswer(y, m)
	}
	return modelDefine(&z.Sys.Insts[0], name, m.Val)
}

func modelImport(z *impl.World, lib string) string {
	session := &z.Sys.Insts[0]
	for _, e := range z.Libs {
		if e.Src.Name != lib {
			continue
		}
		for _, name := range e.Src.Exports {
			if !slices.Contains(session.Names, name) && linkAt(*session, name) == -1 && len(session.Links) < 30 {
				session.Links = append(session.Links, link(name, e.Inst, name))
			}
		}
		return "ok"
	}
	return "no"
}

func modelDefine(session *impl.Inst, name string, v impl.Value) string {
	at := slices.Index(session.Names, name)
	switch {
	case at != -1:
		session.Vals[at] = v
		return "ok"
	case len(session.Names) == 30:
		return "full"
	}
	if k := linkAt(*session, name); k != -1 {
		session.Links = slices.Delete(session.Links, k, k+1)
	}
	session.Names, session.Vals = append(session.Names, name), append(session.Vals, v)
	return "ok"
}

// linkAt tells which Link has this Name; -1 where none has.
func linkAt(in impl.Inst, name string) int {
	return slices.IndexFunc(in.Links, func(l impl.Link) bool { return l.Name == name })
}

// wantSayAsModelled holds Say against the model, and against the same said datum by datum.
func wantSayAsModelled(t *testing.T, w impl.World, text string) (impl.World, []string) {
	t.Helper()
	z, answers := impl.Say(w, text)
	wantZ, want := modelSay(w, text)
	if !slices.Equal(answers, want) || !alike(z, wantZ) {
		t.Fatalf("Say(%s, %q) = %s, %.300q; want %s, %.300q", shown(w), text, shown(z), answers, shown(wantZ), want)
	}
	if !impl.WorldOk(z) || !alike(z.Libs, w.Libs) || !alike(z.Tasks, w.Tasks) || z.Next != w.Next {
		t.Fatalf("Say(%s, %q) makes %s", shown(w), text, shown(z))
	}
	d, bad := impl.Read(text)
	if bad != -1 {
		if !alike(z, w) {
			t.Errorf("Say of %q, which is not read, does something", text)
		}
		return z, answers
	}
	if len(answers) != len(d.Tops) {
		t.Fatalf("%d data have %d answers", len(d.Tops), len(answers))
	}
	part := deepWorld(w)
	for i, top := range d.Tops {
		var one []string
		part, one = impl.Say(part, written(treeOf(d.Cells, top)))
		if !slices.Equal(one, answers[i:i+1]) {
			t.Fatalf("datum %d of %q said alone is answered %q; want %q", i, text, one, answers[i])
		}
	}
	if !alike(part, z) {
		t.Fatalf("%q said in parts makes %s; want %s", text, shown(part), shown(z))
	}
	return z, answers
}

// wantSaid asks for these answers, with a | between, and tells the world.
func wantSaid(t *testing.T, w impl.World, text, want string) impl.World {
	t.Helper()
	z, answers := wantSayAsModelled(t, w, text)
	if got := strings.Join(answers, "|"); got != want {
		t.Fatalf("Say(.., %.300q) answers %.300q; want %.300q", text, got, want)
	}
	return z
}

// wantSession asks for what the session has: its names with their values, and its Links.
func wantSession(t *testing.T, w impl.World, want string, links ...impl.Link) {
	t.Helper()
	var all []string
	session := w.Sys.Insts[0]
	for i, name := range session.Names {
		all = append(all, name+" "+impl.Text(w.Sys.Heap, session.Vals[i]))
	}
	if got := strings.Join(all, ", "); got != want || !alike(session.Links, links) {
		t.Errorf("the session has %s and %v; want %s and %v", got, session.Links, want, links)
	}
}

// talking is a world with that session and no libraries.
func talking(y impl.Sys) impl.World {
	return impl.World{Sys: y, Next: 1}
}

func TestConstantOfSayings(t *testing.T) {
	if impl.SayFuel != 1000 {
		t.Error(impl.SayFuel)
	}
}

func TestNothingSaid(t *testing.T) {
	for _, w := range []impl.World{impl.NewWorld(), fullWorld(t), byHand(t)} {
		for _, text := range []string{"", " ", "\n\t ", "; a remark", "; (define x 1)\n ; 2\n"} {
			if z := wantSaid(t, w, text, ""); !alike(z, w) {
				t.Errorf("Say of %q does something", text)
			}
		}
	}
}

// Each expression is a unit behind the others, at home in the session, and is answered as Answer says.
func TestSaidExpressions(t *testing.T) {
	for _, c := range asked {
		w := wantSaid(t, talking(sessionWith(0)), c.text, c.tells)
		if out := strings.Join(w.Sys.Out, "|"); out != c.out {
			t.Errorf("%s prints %q", c.text, out)
		}
		if want := []impl.Unit{{Home: 0, Prog: meant(t, c.text)}}; !alike(w.Sys.Units, want) {
			t.Errorf("%s leaves the units %s", c.text, shown(w.Sys.Units))
		}
		w = wantSaid(t, fullWorld(t), "1 "+c.text, "1|"+sayAlone(fullWorld(t), c.text))
		if last := w.Sys.Units[len(w.Sys.Units)-1]; last.Home != 0 || !alike(last.Prog, meant(t, c.text)) {
			t.Errorf("%s in a full world leaves the unit %s", c.text, shown(last))
		}
	}
}

// sayAlone is the answer of a text of one datum, by the model.
func sayAlone(w impl.World, text string) string {
	_, answers := modelSay(w, text)
	return answers[0]
}

func TestSaidOneBehindTheOther(t *testing.T) {
	w := wantSaid(t, impl.NewWorld(), "1 'a #t () '() \"", "read 15")
	w = wantSaid(t, w, "1 'a #t () '() (+ 1 2) (lambda () 1)", "1|a|#t|form|()|3|fn")
	if len(w.Sys.Units) != 6 || len(w.Sys.Heap) != 1 {
		t.Error("units and cells", len(w.Sys.Units), len(w.Sys.Heap))
	}
	w = wantSaid(t, w, "(define x 1) (define (bump) (set! x (+ x 1))) (bump) (bump) x ; no more\n(bump)", "ok|ok|2|3|3|4")
	wantSession(t, w, "x 4, bump fn")
	w = wantSaid(t, w, "(print x) (print 'y) (begin (print 1) (print 2))", "4|y|2")
	if !slices.Equal(w.Sys.Out, names("4 y 1 2")) {
		t.Error("printed", w.Sys.Out)
	}
}

func TestDefinedNames(t *testing.T) {
	w := wantSaid(t, impl.NewWorld(), "(define x 1) (define y (+ x 1)) (define z '(a . b)) (define none '()) (define no #f) (define word 'else)", "ok|ok|ok|ok|ok|ok")
	wantSession(t, w, "x 1, y 2, z (a . b), none (), no #f, word else")
	if len(w.Sys.Units) != 6 || !alike(w.Sys.Units[1], impl.Unit{Home: 0, Prog: meant(t, "(+ x 1)")}) {
		t.Error("units", shown(w.Sys.Units))
	}
	// one that is there stays in its place
	w = wantSaid(t, w, "(define y (cons y x)) (define x z) x y (define x x) x", "ok|ok|(a . b)|(2 . 1)|ok|(a . b)")
	wantSession(t, w, "x (a . b), y (2 . 1), z (a . b), none (), no #f, word else")
	// a name of another form
	w = wantSaid(t, impl.NewWorld(), "(define library 1) (define import 2) (define f0 3) (define a0 4) (define ->x! 5) library import (f0) ->x!", "ok|ok|ok|ok|ok|1|2|type|5")
	wantSession(t, w, "library 1, import 2, f0 3, a0 4, ->x! 5")
	// one without a value has one then
	w = wantSaid(t, talking(sessionWith(0)), "n (define n 8) n x", "unbound|ok|8|1")
	wantSession(t, w, "x 1, n 8, loop ")
	// its type is the session's
	w = wantSaid(t, w, "(define p (make pt 1 2)) (field pt 1 p) (is pt p) p", "ok|2|#t|#:pt")
}

func TestDefinedFunctions(t *testing.T) {
	w := wantSaid(t, impl.NewWorld(), "(define (none) 7) (define (one x) x) (define (two x y) (print x) (print y) (cons x y)) (none) (one 'a) (two 1 2) (one) (none 1)", "ok|ok|ok|7|a|(1 . 2)|arity|arity")
	wantSession(t, w, "none fn, one fn, two fn")
	for i, text := range []string{"(lambda () 7)", "(lambda (x) x)", "(lambda (x y) (print x) (print y) (cons x y))"} {
		if want := (impl.Unit{Home: 0, Prog: meant(t, text)}); !alike(w.Sys.Units[i], want) {
			t.Errorf("unit %d is %s; want %s", i, shown(w.Sys.Units[i]), shown(want))
		}
	}
	wantSaid(t, impl.NewWorld(), "(define (fac n) (if (= n 0) 1 (* n (fac (- n 1))))) (fac 5) (fac 9) (fac 10) fac", "ok|120|362880|range|fn")
	wantSaid(t, impl.NewWorld(), "(define (even? n) (if (= n 0) #t (odd? (- n 1)))) (even? 2) (define (odd? n) (if (= n 0) #f (even? (- n 1)))) (even? 2) (even? 7)", "ok|unbound|ok|#t|#f")
	// its own name may be one of its names, and then it is that
	wantSaid(t, impl.NewWorld(), "(define (f f) (cons f f)) (f 1) (define (g a b c d e f g h) (cons a h)) (g 1 2 3 4 5 6 7 8)", "ok|(1 . 1)|ok|(1 . 8)")
	wantSaid(t, impl.NewWorld(), "(define add (lambda (x) (lambda (y) (+ x y)))) (define three (add 3)) (define x 100) (three 4) ((add 1) 1)", "ok|ok|ok|7|2")
	// whoever has the function still has it when its name is another
	wantSaid(t, impl.NewWorld(), "(define (f) 1) (define (g) (f)) (define h f) (define (f) 2) (g) (h) (eq? f h)", "ok|ok|ok|ok|2|1|#f")
}

// A Link is taken like a name, until a name is in its place.
func TestDefinedNamesThatAreLinks(t *testing.T) {
	w := worldOf(t, "(library aa) (export v f set) (define v 4) (define (f x) (+ x v)) (define (set x) (set! v x))")
	w = wantSaid(t, w, "(import aa) v (f 1) (set 7) v (f 1) (set! v 9) v", "ok|4|5|7|7|8|unbound|7")
	wantSession(t, w, "", link("v", 1, "v"), link("f", 1, "f"), link("set", 1, "set"))
	w = wantSaid(t, w, "(define f (f 2)) f (define v 1) v (set 6) v (set! v 3) v", "ok|9|ok|1|6|1|3|3")
	wantSession(t, w, "f 9, v 3", link("set", 1, "set"))
	if impl.Text(w.Sys.Heap, w.Sys.Insts[1].Vals[0]) != "6" {
		t.Error("the library's own is", w.Sys.Insts[1].Vals[0])
	}
	// the Link of this Name, not one that leads to it
	w = worldOf(t, "(library aa) (export v w) (define v 4) (define w 5)")
	w.Sys.Insts[0].Links = []impl.Link{link("w", 1, "v"), link("v", 1, "w"), link("u", 1, "v")}
	w = wantSaid(t, w, "v w u (define v 'mine) v w u", "5|4|4|ok|mine|4|4")
	wantSession(t, w, "v mine", link("w", 1, "v"), link("u", 1, "v"))
	// it goes only where a value comes
	w = wantSaid(t, w, "(define w (car 1)) (define u (if)) (define u (error 1)) w u", "type|form|error 1|4|4")
	wantSession(t, w, "v mine", link("w", 1, "v"), link("u", 1, "v"))
	// a function of the session asks for the name when it runs
	w = wantSaid(t, w, "(define (get) (cons w u)) (get) (define w 1) (get) (define u 2) (get)", "ok|(4 . 4)|ok|(1 . 4)|ok|(1 . 2)")
	wantSession(t, w, "v mine, get fn, w 1, u 2")
}

func TestImports(t *testing.T) {
	w := worldOf(t, "(library aa) (export v f u) (define u 1) (define v 2) (define (f) u) (define hidden 3)", "(library bb) (import aa) (export w v) (define v 5) (define w (f))", "(library cc) (define x 1)")
	z := wantSaid(t, w, "v (import aa) v (f) u hidden w", "unbound|ok|2|1|1|unbound|unbound")
	wantSession(t, z, "", link("v", 1, "v"), link("f", 1, "f"), link("u", 1, "u"))
	// what is a Link already stays
	z = wantSaid(t, z, "(import bb) v w", "ok|2|1")
	wantSession(t, z, "", link("v", 1, "v"), link("f", 1, "f"), link("u", 1, "u"), link("w", 2, "w"))
	again := wantSaid(t, z, "(import aa) (import bb) (import bb) (import cc)", "ok|ok|ok|ok")
	if !alike(again, z) {
		t.Error("what is imported a second time does something", shown(again.Sys))
	}
	// the other way round
	z = wantSaid(t, w, "(import bb) (import aa) v", "ok|ok|5")
	wantSession(t, z, "", link("w", 2, "w"), link("v", 2, "v"), link("f", 1, "f"), link("u", 1, "u"))
	// what the session has stays its own, also without a value
	z = wantSaid(t, w, "(define u 'mine) (define f 'mine) (import aa) u f v (import aa)", "ok|ok|ok|mine|mine|2|ok")
	wantSession(t, z, "u mine, f mine", link("v", 1, "v"))
	z = deepWorld(w)
	z.Sys.Insts[0].Names, z.Sys.Insts[0].Vals = names("v"), vals(impl.Value{})
	z = wantSaid(t, z, "(import aa) v u", "ok|unbound|1")
	wantSession(t, z, "v ", link("f", 1, "f"), link("u", 1, "u"))
	// none of them needs a unit
	if z = wantSaid(t, w, "(import aa) (import zz) (import bb)", "ok|no|ok"); !alike(z.Sys.Units, w.Sys.Units) || !alike(z.Sys.Heap, w.Sys.Heap) || !alike(z.Sys.Insts[1:], w.Sys.Insts[1:]) {
		t.Error("more than Links has come", shown(z.Sys))
	}
	wantSaid(t, z, "(IMPORT aa)", "read 1")
	wantSaid(t, z, "(import aa", "read 10")
}

// A library that is not in Libs any more, or not yet, is none, whatever Insts there are.
func TestImportsOfWhatIsNone(t *testing.T) {
	w := worldOf(t, "(library aa) (export v) (define v 1)")
	for _, z := range []impl.World{w, impl.NewWorld()} {
		if after := wantSaid(t, z, "(import zz) (import a) (import aaa) (import import) (import library)", "no|no|no|no|no"); !alike(after, z) {
			t.Error("something has come", shown(after.Sys))
		}
	}
	w.Libs = nil
	wantSaid(t, w, "(import aa) v", "no|unbound")
}

// The word import is a name, too: what is no import of a name is a call.
func TestWhatIsNoImport(t *testing.T) {
	w := worldOf(t, "(library aa) (export v) (define v 1)", "(library bb)", "(library import)")
	for text, want := range map[string]string{
		"(import)": "unbound", "(import aa bb)": "unbound", "(import 5)": "unbound", "(import 'aa)": "unbound", "(import (aa))": "unbound", "(import #t)": "unbound", "import": "unbound",
		"(import '())": "unbound", "(import ())": "form", "(import . aa)": "form", "(import aa . bb)": "form", "(import if)": "form", "(import else)": "form", "(import car)": "form", "(import define)": "form", "((import) aa)": "unbound",
		"(import aa aa aa aa aa aa aa aa)": "unbound", "(import aa aa aa aa aa aa aa aa aa)": "form", "(begin (import aa))": "unbound", "(lambda () (import aa))": "fn", "'(import aa)": "(import aa)", "(import import)": "ok", "(library aa)": "unbound", "(export v)": "unbound", "(convert pt 1)": "unbound",
	} {
		z := wantSaid(t, w, text, want)
		units := 1
		if want == "form" || want == "ok" {
			units = 0
		}
		if len(z.Sys.Units) != len(w.Sys.Units)+units || len(z.Sys.Insts[0].Links) != 0 {
			t.Errorf("%s leaves %s", text, shown(z.Sys))
		}
	}
	// where the session has such a name it is called
	z := wantSaid(t, w, "(define (import x) (cons x 'called)) (import 5) (import 'aa) (import (+ 1 2)) (import) (import aa) v (import zz)", "ok|(5 . called)|(aa . called)|(3 . called)|arity|ok|1|no")
	wantSession(t, z, "import fn", link("v", 1, "v"))
}

// wrongForms are none, with whatever is there.
func wrongForms() []string {
	all := []string{
		"()", "(if)", "(if 1 2)", "(lambda)", "(lambda (x))", "(lambda x x)", "(lambda (x x) x)", "(quote)", "(quote 1 2)", "(begin)", "(set! x)", "(set! 1 2)", "(let ((x)) x)", "(car)", "(car 1 2)", "(cons 1)",
		"if", "else", "define", "car", "(else)", "(1 . 2)", "(f . x)", "(f x . y)", "(f ())", "(f (if))", "(f 1 2 3 4 5 6 7 8 9)", "(field pt 8 1)", "(make 1)",
		"(define)", "(define x)", "(define x 1 2)", "(define . x)", "(define x . 1)", "(define x 1 . 2)", "(define 5 1)", "(define #t 1)", "(define 'a 1)", "(define () 1)", "(define if 1)", "(define car 1)", "(define define 1)",
		"(define (5) 1)", "(define (if) 1)", "(define (car) 1)", "(define ((f)) 1)", "(define (f))", "(define (f) . 1)", "(define (f) 1 . 2)", "(define (f 5) 1)", "(define (f if) 1)", "(define (f x x) 1)", "(define (f (x)) 1)", "(define (f . x) 1)", "(define (f x . y) 1)",
		"(define (f a b c d e g h i j) 1)", "(define x (if))", "(define x ())", "(define x car)", "(define x (define y 1))", "(define (f) (define y 1))", "(define (f) 1 (if))", "(define (f) () 1)", "(define x (car))", "(define x (f . 1))",
		"(begin (define x 1))", "(if #t (define x 1) 2)", "(lambda () (define x 1))", "(let () (define x 1) x)", "((define x 1))", "(f (define x 1))", "('define x 1 . 2)",
		sized(impl.MaxNodes + 1), "(define x " + sized(impl.MaxNodes+1) + ")", "(define (f) " + sized(impl.MaxNodes) + ")",
	}
	return all
}

func TestSaidFormsThatAreNone(t *testing.T) {
	w := worldOf(t, "(library aa) (export x f) (define x 1) (define (f) 2)")
	w = wantSaid(t, w, "(import aa)", "ok")
	for _, form := range wrongForms() {
		if z := wantSaid(t, w, form, "form"); !alike(z, w) {
			t.Errorf("%s does something", form)
		}
		// those around it are answered as ever
		z := wantSaid(t, w, "(define y 5) "+form+" y", "ok|form|5")
		wantSession(t, z, "y 5", link("x", 1, "x"), link("f", 1, "f"))
		if len(z.Sys.Units) != len(w.Sys.Units)+2 {
			t.Errorf("%s leaves a unit", form)
		}
	}
}

func TestSaidFormsWithAsManyNodesAsThereMayBe(t *testing.T) {
	most := sized(impl.MaxNodes)
	w := wantSaid(t, impl.NewWorld(), most, "1")
	w = wantSaid(t, w, "(define x "+most+") x", "ok|1")
	wantSession(t, w, "x 1")
	w = wantSaid(t, impl.NewWorld(), "(define (f) "+sized(impl.MaxNodes-1)+") (f)", "ok|1")
	if len(w.Sys.Units[0].Prog.Nodes) != impl.MaxNodes {
		t.Error("nodes", len(w.Sys.Units[0].Prog.Nodes))
	}
	// as many data as can be read, and one more
	text := repeated("()", impl.MaxCells)
	wantSaid(t, impl.NewWorld(), text, strings.TrimSuffix(strings.Repeat("form|", impl.MaxCells), "|"))
	wantSaid(t, impl.NewWorld(), text+" 1", "read "+impl.Dec(len(text)+1))
}

func TestSaidTextsThatAreNotRead(t *testing.T) {
	for _, w := range []impl.World{impl.NewWorld(), fullWorld(t), byHand(t)} {
		for text, want := range map[string]string{
			"1 (": "read 3", ")": "read 0", "(": "read 1", "'": "read 1", "1 2 )": "read 4", "(a . )": "read 5", "( . a)": "read 2", "(a . b c)": "read 7", ".": "read 0", "A": "read 0", "1x": "read 0", "\x00": "read 0", "1000001": "read 0",
			"(define zz 1) (print 1) (import aa) (": "read 37", "(define zz 1) (print 1) )": "read 24", "(define zz 1)\n;\n#": "read 16", "abcdefghijklmnopq": "read 0", "7 #x": "read 2", "\"a\"": "read 0", "[1]": "read 0",
			strings.Repeat("(", impl.MaxDeep+1): "read " + impl.Dec(impl.MaxDeep), strings.Repeat("(", impl.MaxDeep): "read " + impl.Dec(impl.MaxDeep), strings.Repeat("'", impl.MaxDeep) + "'a": "read " + impl.Dec(impl.MaxDeep),
		} {
			if z := wantSaid(t, w, text, want); !alike(z, w) {
				t.Errorf("Say of %q does something", text)
			}
		}
	}
}

func TestSaidToWorldsThatAreNotRight(t *testing.T) {
	for _, w := range wrongWorlds(t) {
		for _, text := range []string{"", "1", "(define x 1)", "(import aa)", "(", "(if)", "(print 1) (print 2)"} {
			if z, answers := impl.Say(w, text); len(answers) != 0 || !alike(z, w) {
				t.Fatalf("Say(%s, %q) = %s, %q; want it as it is, and nothing", shown(w), text, shown(z), answers)
			}
		}
	}
}

// What was done ahead of what did not end well stays: what is printed, set, made, and the unit.
func TestWhatDidNotEndWellStays(t *testing.T) {
	for _, c := range gone {
		y, m := started(t, c.text)
		tells := c.tells
		if howMany(t, y, m) > impl.SayFuel {
			tells = "running"
		}
		for _, form := range []string{c.text, "(define n " + c.text + ")", "(define new " + c.text + ")"} {
			w := wantSaid(t, talking(sessionWith(2)), form, tells)
			if tells != "running" && !strings.Contains(tells, "full") {
				x := impl.Text(w.Sys.Heap, w.Sys.Insts[0].Vals[0])
				if out := strings.Join(w.Sys.Out, "|"); out != c.out || x != c.x {
					t.Errorf("%s prints %q and makes x %s", form, out, x)
				}
			}
			if !alike(w.Sys.Units, []impl.Unit{{Home: 0, Prog: meant(t, c.text)}}) {
				t.Errorf("%s leaves the units %s", form, shown(w.Sys.Units))
			}
			if session := w.Sys.Insts[0]; !slices.Equal(session.Names, names("x n loop")) || session.Vals[1].Kind != impl.VaNone {
				t.Errorf("%s leaves the session %s", form, shown(session))
			}
		}
	}
	w := talking(sessionWith(0))
	w = wantSaid(t, w, "(begin (set! x (cons 1 2)) (set! n (lambda () x)) (print 'a) (car 1) (print 'b)) x (n) (define x (begin (set! n 5) (error x))) x n", "type|(1 . 2)|(1 . 2)|error (1 . 2)|(1 . 2)|5")
	if !slices.Equal(w.Sys.Out, names("a")) || len(w.Sys.Heap) != 2 {
		t.Error("printed", w.Sys.Out, "cells", len(w.Sys.Heap))
	}
	// one that has not ended has done what it did, too; it does not go on
	w = wantSaid(t, impl.NewWorld(), "(define k 0) (define (up) (begin (set! k (+ k 1)) (up))) (up) k k", "ok|ok|running|83|83")
	w = wantSaid(t, w, "(define k (up)) k (define j (up)) j k", "running|166|running|unbound|249")
	wantSession(t, w, "k 249, up fn")
}

// A define whose expression does not end with EnDone leaves the name as it was.
func TestDefinesThatDoNotEndWell(t *testing.T) {
	w := worldOf(t, "(library aa) (export v) (define v 1)")
	w = wantSaid(t, w, "(import aa) (define x 1) (define (loop) (loop)) (define (deep) (+ 1 (deep)))", "ok|ok|ok|ok")
	for form, want := range map[string]string{"nobody": "unbound", "(car 1)": "type", "(* 1000000 2)": "range", "(error 'e)": "error e", "(loop 1)": "arity", "(deep)": "depth", "(loop)": "running", "(begin (print 1) (error '(1 2)))": "error (1 2)"} {
		for _, name := range names("x v new") {
			z := wantSaid(t, w, "(define "+name+" "+form+") x v new", want+"|1|1|unbound")
			wantSession(t, z, "x 1, loop fn, deep fn", link("v", 1, "v"))
		}
	}
}

// defines are that many, of names that no one else has.
func defines(count int) string {
	var all []string
	for _, name := range namesUpTo(count) {
		all = append(all, "(define "+name+" '"+name+")")
	}
	return strings.Join(all, " ")
}

func answersOf(word string, count int) string {
	return strings.Join(slices.Repeat([]string{word}, count), "|")
}

func TestHowManyNamesTheSessionHas(t *testing.T) {
	for count := 28; count <= 30; count++ {
		w := wantSaid(t, impl.NewWorld(), defines(count), answersOf("ok", count))
		if !slices.Equal(w.Sys.Insts[0].Names, namesUpTo(count)) {
			t.Error("names", w.Sys.Insts[0].Names)
		}
		want := "ok|1"
		if count == 30 {
			want = "full|unbound"
		}
		z := wantSaid(t, w, "(define more 1) more", want)
		if len(z.Sys.Insts[0].Names) != min(count+1, 30) {
			t.Error("names", z.Sys.Insts[0].Names)
		}
		z = wantSaid(t, w, "(define (more) 1) (more)", want)
		// one that is there needs no place
		z = wantSaid(t, w, "(define x7 'again) (define (x0) 'fn) x7 (x0) (define x27 x7) x27", "ok|ok|again|fn|ok|again")
		if !slices.Equal(z.Sys.Insts[0].Names, namesUpTo(count)) {
			t.Error("names", z.Sys.Insts[0].Names)
		}
	}
	wantSaid(t, impl.NewWorld(), defines(31), answersOf("ok", 30)+"|full")
	wantSaid(t, impl.NewWorld(), defines(33)+" x29 x30 (define x29 1) x29", answersOf("ok", 30)+"|full|full|full|x29|unbound|ok|1")
}

// Where there is no place for a name its expression is run all the same, and what it did stays.
func TestDefinesWithoutAPlace(t *testing.T) {
	w := worldOf(t, "(library aa) (export v f) (define v 1) (define (f x) (set! v x))")
	w = wantSaid(t, w, defines(30)+" (import aa)", answersOf("ok", 31))
	z := wantSaid(t, w, "(define more (begin (print 'a) (set! x0 (cons 1 2)) (f 5))) more x0 v (define v 6) v (define (f) 1) (f 7)", "full|unbound|(1 . 2)|5|full|5|full|7")
	if !slices.Equal(z.Sys.Out, names("a")) || len(z.Sys.Units) != len(w.Sys.Units)+8 {
		t.Error("printed", z.Sys.Out, "units", len(z.Sys.Units))
	}
	if links := z.Sys.Insts[0].Links; !alike(links, []impl.Link{link("v", 1, "v"), link("f", 1, "f")}) {
		t.Error("Links are", links)
	}
	// what does not end well is told as what it is
	wantSaid(t, w, "(define more nobody) (define more (if)) (define more (error 1)) (define (more x x) 1) (define v (car v))", "unbound|form|error 1|form|type")
}

// exporting is a library that exports so many names, each a number.
func exporting(lib string, all []string) string {
	text := "(library " + lib + ") (export " + strings.Join(all, " ") + ")"
	for i, name := range all {
		text += " (define " + name + " " + impl.Dec(i) + ")"
	}
	return text
}

func TestHowManyLinksTheSessionHas(t *testing.T) {
	all := namesUpTo(30)
	for count := 27; count <= 30; count++ {
		for _, cut := range []int{0, 1, 15, count - 1} {
			w := worldOf(t, exporting("aa", all[:cut]), exporting("bb", all[cut:count]), exporting("cc", names("last more")))
			w = wantSaid(t, w, "(import aa) (import bb)", "ok|ok")
			var want []impl.Link
			for _, name := range all[:cut] {
				want = append(want, link(name, 1, name))
			}
			for _, name := range all[cut:count] {
				want = append(want, link(name, 2, name))
			}
			wantSession(t, w, "", want...)
			// as far as there are less than 30, and ok all the same
			w = wantSaid(t, w, "(import cc)", "ok")
			want = append(want, []impl.Link{link("last", 3, "last"), link("more", 3, "more")}[:min(2, 30-count)]...)
			wantSession(t, w, "", want...)
			answers := map[int]string{27: "0|1", 28: "0|1", 29: "0|unbound", 30: "unbound|unbound"}
			wantSaid(t, w, "last more", answers[count])
		}
	}
	// names do not count as Links, nor Links as names
	w := worldOf(t, exporting("aa", all), exporting("bb", names("last")))
	w = wantSaid(t, w, "(import aa) (import bb) last (define x3 'own) (import bb) last x3 (import aa)", "ok|ok|unbound|ok|ok|0|own|ok")
	if session := w.Sys.Insts[0]; len(session.Links) != 30 || len(session.Names) != 1 || linkAt(session, "x3") != -1 || linkAt(session, "last") != 29 {
		t.Error("the session is", shown(session))
	}
	own := strings.ReplaceAll(defines(30), "x", "own")
	w = worldOf(t, exporting("aa", all))
	w.Sys.Units = nil // no cell needs them
	w = wantSaid(t, w, own+" (import aa) x29 own29", answersOf("ok", 31)+"|29|own29")
	if session := w.Sys.Insts[0]; len(session.Links) != 30 || len(session.Names) != 30 {
		t.Error("the session is", shown(session))
	}
}

// withUnits is w with so many units.
func withUnits(t *testing.T, w impl.World, count int) impl.World {
	t.Helper()
	w = deepWorld(w)
	for len(w.Sys.Units) < count {
		w.Sys.Units = append(w.Sys.Units, impl.Unit{Home: 0, Prog: meant(t, "1")})
	}
	return w
}

func TestHowManyUnitsAreSaid(t *testing.T) {
	lib := worldOf(t, "(library aa) (export v f) (define v 4) (define (f) 5)")
	for room := range 4 {
		w := withUnits(t, lib, impl.MaxUnits-room)
		want := answersOf("1", room) + "|full|full"
		z := wantSaid(t, w, repeated("1", room+2), strings.TrimPrefix(want, "|"))
		if len(z.Sys.Units) != impl.MaxUnits {
			t.Error("units", len(z.Sys.Units))
		}
		z = wantSaid(t, w, repeated("(define x 1)", room+1)+" x", strings.TrimPrefix(answersOf("ok", room)+"|full|full", "|"))
		if names := z.Sys.Insts[0].Names; len(names) != min(room, 1) {
			t.Error("names", names)
		}
	}
	// what needs none is answered as ever
	w := withUnits(t, lib, impl.MaxUnits)
	z := wantSaid(t, w, "(if) (define x (if)) (define) (import zz) (import aa) v (define x 1) (define (f) 1) (import) nobody (print 1) (if)", "form|form|form|no|ok|full|full|full|full|full|full|form")
	wantSession(t, z, "", link("v", 1, "v"), link("f", 1, "f"))
	if len(z.Sys.Units) != impl.MaxUnits || len(z.Sys.Out) != 0 || !alike(z.Sys.Heap, w.Sys.Heap) {
		t.Error("something is done", shown(z.Sys))
	}
	wantSaid(t, w, "(", "read 1")
	// one that did not end well needs one, too
	w = withUnits(t, lib, impl.MaxUnits-2)
	wantSaid(t, w, "nobody (if) (define x (car 1)) 1", "unbound|form|type|full")
}

// An expression that ends with its last step is told; one that needs one more is running.
func TestStepsOfWhatIsSaid(t *testing.T) {
	for steps := impl.SayFuel - 2; steps <= impl.SayFuel+2; steps++ {
		text := lasting(t, steps)
		y, m := started(t, text)
		if n := howMany(t, y, m); n != steps {
			t.Fatalf("it takes %d steps, not %d", n, steps)
		}
		w := talking(sessionWith(0))
		if steps <= impl.SayFuel {
			wantSaid(t, w, text, "done")
			wantSession(t, wantSaid(t, w, "(define n "+text+")", "ok"), "x 1, n done, loop fn")
			wantSession(t, wantSaid(t, w, "(define q "+text+") q", "ok|done"), "x 1, n , loop fn, q done")
			// each has as many
			wantSaid(t, w, text+text+text, "done|done|done")
			continue
		}
		wantSaid(t, w, text, "running")
		wantSession(t, wantSaid(t, w, "(define n "+text+") n", "running|unbound"), "x 1, n , loop fn")
		wantSession(t, wantSaid(t, w, "(define q "+text+") q", "running|unbound"), "x 1, n , loop fn")
		wantSaid(t, w, text+"1"+text, "running|1|running")
	}
}

func TestSaidWithAFullHeap(t *testing.T) {
	lib := worldOf(t, "(library aa) (export v) (define v 4)")
	for room := range 3 {
		w := deepWorld(lib)
		w.Sys = filled(w.Sys, impl.MaxHeap-room)
		ok := func(cells int, want string) string {
			if cells > room {
				return "full"
			}
			return want
		}
		z := wantSaid(t, w, "7 (cons 1 2)", "7|"+ok(1, "(1 . 2)"))
		if len(z.Sys.Heap) != impl.MaxHeap-max(room-1, 0) {
			t.Error("cells", len(z.Sys.Heap))
		}
		wantSaid(t, w, "(define x '(1 2)) (define y 3) y (import aa) v", ok(2, "ok")+"|ok|3|ok|4")
		z = wantSaid(t, w, "(define (f) 8) (define y 3)", ok(1, "ok")+"|ok")
		if has := slices.Contains(z.Sys.Insts[0].Names, "f"); has != (room > 0) {
			t.Error("f is there:", has, "with room for", room)
		}
		// what was made ahead of what found no place stays
		z = wantSaid(t, w, "'(1 2 3)", ok(3, "(1 2 3)"))
		if len(z.Sys.Heap) != impl.MaxHeap {
			t.Error("cells", len(z.Sys.Heap))
		}
		w = deepWorld(lib)
		w.Sys.Out = slices.Repeat([]string{"old"}, impl.MaxOut-room)
		z = wantSaid(t, w, "(define x (print 1)) (print 2) (print 3) 4", ok(1, "ok")+"|"+ok(2, "2")+"|full|4")
		if len(z.Sys.Out) != impl.MaxOut {
			t.Error("printed", len(z.Sys.Out))
		}
	}
}

// Answers as long as they may be.
func TestLongAnswers(t *testing.T) {
	w := wantSaid(t, impl.NewWorld(), "(define x '(abcdefgh)) (define (twice n) (if (= n 0) 'ok (begin (set! x (cons x x)) (twice (- n 1))))) (twice 14)", "ok|ok|ok")
	_, answers := wantSayAsModelled(t, w, "x (error x)")
	if len(answers[0]) != impl.MaxTell || len(answers[1]) != impl.MaxTell+len("error ") || answers[1] != "error "+answers[0] {
		t.Error("answers of", len(answers[0]), "and", len(answers[1]))
	}
}

// What is said behind a change has the new version; what was taken from the old one does what it did.
func TestSaidBehindAChange(t *testing.T) {
	w := worldOf(t, aBase, aMiddle, aTop)
	w = wantSaid(t, w, "(import aa) (import cc) (define old bump) (define (now) base) (old) base (twice)", "ok|ok|ok|ok|8|8|(#bb:pt 8)")
	z := upgraded(t, w, strings.ReplaceAll(aBase, "7", "70"))
	z = wantSaid(t, z, "base (now) (bump) (now) (old) (old) (now) (twice) (eq? old bump)", "70|70|71|71|9|10|71|(#bb:pt 71)|#f")
	wantSession(t, z, "old fn, now fn", link("base", 4, "base"), link("bump", 4, "bump"), link("twice", 6, "twice"))
	// what is exported no more is none, until it is again
	z = upgraded(t, w, "(library aa) (export base) (define base 3) (define (bump) 0)")
	z = wantSaid(t, z, "base bump (now) (import aa) bump (old)", "3|unbound|3|ok|unbound|9")
	z = upgraded(t, z, "(library aa) (export more base bump) (define base 30) (define more 1) (define (bump) base)")
	z = wantSaid(t, z, "base bump more (import aa) (bump) more", "30|unbound|unbound|ok|30|1")
	wantSession(t, z, "old fn, now fn", link("base", 7, "base"), link("twice", 9, "twice"), link("more", 7, "more"), link("bump", 7, "bump"))
	// a name that the session has since is its own
	z = wantSaid(t, w, "(define base 'mine)", "ok")
	z = wantSaid(t, upgraded(t, z, aBase), "base (bump) (import aa) base (now)", "mine|8|ok|mine|mine")
	// a change that is refused is none
	z, report := impl.Upgrade(w, "(library aa) (export base) (define base (car 1))")
	if report.Code != impl.UpMake {
		t.Fatal(report)
	}
	wantSaid(t, z, "base (bump) (now)", "8|9|9")
}

func TestSaidBehindConverters(t *testing.T) {
	w := worldOf(t, "(library aa) (export mk x pt?) (record pt 1) (define (mk x) (make pt x)) (define (x p) (field pt 0 p)) (define (pt? p) (is pt p))")
	w = wantSaid(t, w, "(import aa) (define p (mk 5)) (define oldmk mk) (define oldx x) (x p) (define l (cons p p)) p", "ok|ok|ok|ok|5|ok|#aa:pt")
	text := "(library aa) (export mk x y pt?) (record pt 2) (define (mk x y) (make pt x y)) (define (x p) (field pt 0 p)) (define (y p) (field pt 1 p)) (define (pt? p) (is pt p)) (convert pt (lambda (r) (cons (* 10 (field pt 0 r)) '(new))))"
	z := upgraded(t, w, text)
	z = wantSaid(t, z, "(x p) (oldx p) y (import aa) (y p) (y (cdr l)) (eq? p (car l)) (pt? p) p", "50|50|unbound|ok|new|new|#t|#t|#aa:pt")
	z = wantSaid(t, z, "(define q (mk 1 2)) (y q) (mk 1) (define r (oldmk 7)) (x r) (y r) (pt? r)", "ok|2|arity|ok|7|range|#t")
	// a record of the old function is carried over by the next change
	z = upgraded(t, z, strings.ReplaceAll(text, "new", "newer"))
	z = wantSaid(t, z, "(y r) (x r) (y q) (x q) (x p)", "newer|70|newer|10|500")
	// a converter that fails changes nothing
	z, report := impl.Upgrade(w, "(library aa) (record pt 1) (convert pt (lambda (r) 1))")
	if report.Code != impl.UpConv {
		t.Fatal(report)
	}
	wantSaid(t, z, "(x p) (x (mk 6)) (pt? (car l))", "5|6|#t")
}

// Tasks stay as they are, whatever is said meanwhile, and see what was said.
func TestSaidWhileTasksRun(t *testing.T) {
	w := fullWorld(t)
	z := wantSaid(t, w, "(define nobody 5) (bump) (define (twice) 'mine) (twice)", "ok|"+sayAlone(w, "(bump)")+"|ok|mine")
	if !alike(z.Tasks, w.Tasks) || z.Next != w.Next || !alike(z.Libs, w.Libs) {
		t.Error("tasks are changed")
	}
	// the first one had not yet asked for its function
	end := sliced(z, 0, impl.MaxSteps)
	wantAnswer(t, "the first task", end.Sys, end.Tasks[0].Mac, "mine")
	end = sliced(w, 0, impl.MaxSteps)
	if word := impl.Answer(end.Sys, end.Tasks[0].Mac); word == "mine" {
		t.Error("it is told", word, "without that")
	}
}

// saying is one datum that mostly can be said to w.
func (m maker) saying(w impl.World) string {
	name := m.pick("v", "w", "f", "g", "h", "k", "x", "y", "x0", "a")
	switch m.r.Intn(16) {
	case 0, 1:
		return "(import " + m.pick(append(libsOf(w), "zz", "import", name)...) + ")"
	case 2, 3, 4:
		return "(define " + name + " " + m.worth() + ")"
	case 5:
		return "(define (" + name + m.pick("", " x", " x y", " f", " x x") + ") " + m.forms(1, 2, 1) + ")"
	case 6:
		return "(define " + name + " " + m.form(2) + ")"
	case 7:
		return "(" + name + " " + m.forms(0, 2, 1) + ")"
	case 8:
		return "(set! " + name + " " + m.worth() + ")"
	case 9:
		return "(begin (print '" + name + ") " + m.worth() + ")"
	case 10:
		return m.pick("(import)", "(import aa bb)", "(define)", "(if)", "(define 1 2)", "import", "(define x . y)", "(import 5)", "((lambda (x) (x x)) (lambda (x) (x x)))", "(error 'e)", "()", "define")
	case 11:
		return m.form(1 + m.r.Intn(3))
	case 12:
		return name
	case 13:
		return m.worth()
	}
	return m.pick("1", "'a", "(cons "+name+" 1)", "(define "+name+" "+name+")", "(lambda (x) "+name+")", "(print "+name+")")
}

// sayings are some of them, one of them perhaps spoilt.
func (m maker) sayings(w impl.World, most int) string {
	var all []string
	for range m.r.Intn(most + 1) {
		one := m.saying(w)
		if m.r.Intn(20) == 0 {
			one = m.spoilt(one)
		}
		all = append(all, one)
	}
	return strings.Join(all, m.pick(" ", "\n", " ; and\n", "  "))
}

// countAnswers notes which sort of answer there was.
func countAnswers(seen map[string]int, answers []string) {
	for _, answer := range answers {
		word, _, _ := strings.Cut(answer, " ")
		switch word {
		case "ok", "no", "form", "full", "read", "running", "unbound", "type", "range", "error", "arity", "depth":
			seen[word]++
		default:
			seen["told"]++
		}
	}
}

// Worlds that are spoken to and changed again and again, all of it held against the model.
func TestSaidByChance(t *testing.T) {
	t.Parallel()
	m := maker{rand.New(rand.NewSource(151))}
	seen, codes := map[string]int{}, map[int]int{}
	for range 90 {
		w := impl.NewWorld()
		for range 24 {
			if m.r.Intn(3) == 0 {
				w = m.done(t, w, codes)
			}
			z, answers := wantSayAsModelled(t, w, m.sayings(w, 5))
			countAnswers(seen, answers)
			w = z
		}
	}
	for _, word := range []string{"ok", "no", "form", "full", "read", "running", "unbound", "type", "error", "arity", "told"} {
		if seen[word] < 5 {
			t.Errorf("%q was hardly there: %v", word, seen)
		}
	}
}

// Worlds of all sorts, whose sessions have names, Links and cells by chance.
func TestSaidToWorldsByChance(t *testing.T) {
	t.Parallel()
	r := rand.New(rand.NewSource(152))
	seen := map[string]int{}
	for range 250 {
		s, w := worldByChance(r)
		for range 3 {
			z, answers := wantSayAsModelled(t, w, s.sayings(w, 6))
			countAnswers(seen, answers)
			w = z
		}
		s.spoilWorld(&w)
		text := s.sayings(w, 3)
		if rightWorld(w) {
			wantSayAsModelled(t, w, text)
		} else if z, answers := impl.Say(w, text); len(answers) != 0 || !alike(z, w) {
			t.Fatalf("Say(%s, %q) = %s, %q", shown(w), text, shown(z), answers)
		}
	}
	for _, word := range []string{"ok", "no", "form", "full", "read", "running", "unbound", "type", "error", "arity", "told"} {
		if seen[word] < 3 {
			t.Errorf("%q was hardly there: %v", word, seen)
		}
	}
}

// Said in parts, cut anywhere between two data, it is answered as at one go.
func TestSaidInParts(t *testing.T) {
	m := maker{rand.New(rand.NewSource(153))}
	for range 80 {
		w := worldOf(t, aBase, aMiddle)
		var data []string
		for range 1 + m.r.Intn(12) {
			data = append(data, m.saying(w))
		}
		whole := strings.Join(data, " ")
		if _, bad := impl.Read(whole); bad != -1 {
			continue
		}
		z, answers := impl.Say(w, whole)
		for cut := range len(data) + 1 {
			first, one := impl.Say(w, strings.Join(data[:cut], " "))
			second, other := impl.Say(first, strings.Join(data[cut:], " "))
			if !slices.Equal(append(one, other...), answers) || !alike(second, z) {
				t.Fatalf("%q cut behind %d is answered %q and %q; want %q", whole, cut, one, other, answers)
			}
		}
	}
}

// spoken is what Say is handed.
type spoken struct {
	World impl.World
	Text  string
}

// textsOfAllSorts are what can be said, and what cannot.
func textsOfAllSorts() []string {
	return []string{
		"", "1", "'symbol", "(", "(if)", "(import aa) (import zz) (import bb)", "(define symbol 'symbol) symbol", "(define v '(1 2)) (define (f x) (cons x v)) (f 'a) (f f)",
		"(print 'a) (print '(a b)) (error 'a) nobody", "(import aa) (define base 'mine) (bump) (define (bump) 1)", "(define x x) (define x (lambda (y) (lambda (z) (cons x (cons y z))))) ((x 'a) 'b)", "((lambda (x) (x x)) (lambda (x) (x x)))",
	}
}

func TestSayLeavesWhatIsHandedIn(t *testing.T) {
	t.Parallel()
	for _, w := range worldsOfAllSorts(t) {
		for _, text := range textsOfAllSorts() {
			given := roomyOf(spoken{w, strings.Clone(text)})
			before := wholeOf(given)
			z, answers := impl.Say(given.World, given.Text)
			if !alike(wholeOf(given), before) {
				t.Fatalf("Say(%s, %q) changes what is handed in", shown(w), text)
			}
			if !shareNone([]any{given}, []any{z, answers}) {
				t.Fatalf("Say(%s, %q) shares memory", shown(w), text)
			}
			// nothing is kept, and what stands in the spare room is not looked at
			if again, other := impl.Say(w, text); !alike(again, z) || !slices.Equal(other, answers) {
				t.Fatalf("Say(%s, %q) is another one the second time", shown(w), text)
			}
		}
	}
}
