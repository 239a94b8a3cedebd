package tests

import (
	"fmt"
	"math"
	"math/rand"
	"slices"
	"strings"
	"testing"

	"loop.example/g00765/impl"
)

// source is the one of a text that ParseLib takes.
func source(t *testing.T, text string) impl.Src {
	t.Helper()
	s, code := impl.ParseLib(text)
	if code != impl.LbOk {
		t.Fatalf("ParseLib(%q): %d", text, code)
	}
	return s
}

// wantMade asks for an Inst, which is to be the last one, with these values.
func wantMade(t *testing.T, what string, y impl.Sys, s impl.Src, ver int, needs []impl.Need, want ...string) impl.Sys {
	t.Helper()
	z, at, code := impl.Make(y, s, ver, needs)
	if code != impl.EnDone || at != len(y.Insts) || len(z.Insts) != at+1 || !impl.SysOk(z) {
		t.Fatalf("%s: Make = %s, %d, %d", what, shown(z), at, code)
	}
	in := z.Insts[at]
	if in.Lib != s.Name || in.Ver != ver || !alike(in.Names, namesOfDefs(s.Defs)) || !alike(in.Types, s.Types) {
		t.Errorf("%s: the Inst is %s", what, shown(in))
	}
	var texts []string
	for _, v := range in.Vals {
		texts = append(texts, impl.Text(z.Heap, v))
	}
	if !slices.Equal(texts, want) {
		t.Errorf("%s: the values are %q; want %q", what, texts, want)
	}
	return z
}

func wantNotMade(t *testing.T, what string, y impl.Sys, s impl.Src, ver int, needs []impl.Need, want int) {
	t.Helper()
	z, at, code := impl.Make(y, s, ver, needs)
	if code != want || at != -1 || !alike(z, y) {
		t.Errorf("%s: Make = %s, %d, %d; want it as it is, -1, %d", what, shown(z), at, code, want)
	}
}

func TestMakeOfOne(t *testing.T) {
	if impl.DefFuel != 500 {
		t.Error("DefFuel", impl.DefFuel)
	}
	y := impl.NewSys()
	wantMade(t, "nothing in it", y, source(t, "(library aa)"), 1, nil)
	z := wantMade(t, "of each sort", y, source(t, "(library aa) (export v) (record pt 1) (define v 1) (define (f x) (+ x v)) (define l (cons (f 4) (make pt v)))"), 1000, nil, "1", "fn", "(5 . #aa:pt)")
	if len(z.Units) != 3 || len(z.Heap) != 3 {
		t.Error("units and cells", shown(z))
	}
	for i, u := range z.Units {
		if u.Home != 1 || !alike(u.Prog, source(t, "(library aa) (define v 1) (define (f x) (+ x v)) (define l (cons (f 4) (make pt v)))").Defs[i].Prog) {
			t.Error("a unit is", shown(u))
		}
	}
	z = wantMade(t, "once more", z, source(t, "(library aa) (define v (print 2))"), 7, nil, "2")
	if !alike(z.Out, []string{"2"}) || len(z.Insts) != 3 {
		t.Error("what was printed", shown(z.Out))
	}
	// what a Def sets stays, but for its own name, whose value is what it tells
	wantMade(t, "set", y, source(t, "(library aa) (define v 1) (define w (begin (set! v 5) (set! w 6) 7))"), 1, nil, "5", "7")
}

func TestMakeLinks(t *testing.T) {
	y := wantMade(t, "the first", impl.NewSys(), source(t, "(library aa) (define v 1) (define w 2) (define u 3)"), 1, nil, "1", "2", "3")
	y = wantMade(t, "the second", y, source(t, "(library bb) (define v 4) (define x 5)"), 1, nil, "4", "5")
	s := source(t, "(library cc) (define w 6) (define all (cons v (cons w (cons x '()))))")
	z := wantMade(t, "linked", y, s, 1, []impl.Need{{Inst: 1, Names: names("w v")}, {Inst: 2, Names: names("x v")}}, "6", "(1 6 5)")
	if want := []impl.Link{link("v", 1, "v"), link("x", 2, "x")}; !alike(z.Insts[3].Links, want) {
		t.Errorf("Links are %v; want %v", z.Insts[3].Links, want)
	}
	z = wantMade(t, "linked the other way", y, s, 1, []impl.Need{{Inst: 2, Names: names("x v")}, {Inst: 1, Names: names("w v")}}, "6", "(4 6 5)")
	if want := []impl.Link{link("x", 2, "x"), link("v", 2, "v")}; !alike(z.Insts[3].Links, want) {
		t.Errorf("Links are %v; want %v", z.Insts[3].Links, want)
	}
	// a name twice in one Need, the session, and itself, which is no Inst yet
	z = wantMade(t, "twice", y, source(t, "(library cc)"), 1, []impl.Need{{Inst: 1, Names: names("v v u v")}, {Inst: 0, Names: names("q")}})
	if want := []impl.Link{link("v", 1, "v"), link("u", 1, "u"), link("q", 0, "q")}; !alike(z.Insts[3].Links, want) {
		t.Errorf("Links are %v; want %v", z.Insts[3].Links, want)
	}
	wantNotMade(t, "itself", y, s, 1, []impl.Need{{Inst: 3, Names: names("v")}}, impl.EnType)
	many := namesUpTo(40)
	z = wantMade(t, "more than there is room for", y, source(t, "(library cc) (define x3 1)"), 1, []impl.Need{{Inst: 1, Names: many[:20]}, {Inst: 2, Names: many[10:]}}, "1")
	var want []impl.Link
	for i, name := range many[:31] {
		if name != "x3" {
			want = append(want, link(name, 1+i/20, name))
		}
	}
	if !alike(z.Insts[3].Links, want) {
		t.Errorf("Links are %v; want %v", z.Insts[3].Links, want)
	}
}

func TestMakeOfWrongThings(t *testing.T) {
	s := source(t, "(library cc) (define w 6)")
	for what, spoil := range spoilers() {
		y := someSys()
		spoil(&y)
		wantNotMade(t, what, y, s, 1, nil, impl.EnType)
	}
	wantNotMade(t, "no system", impl.Sys{}, s, 1, nil, impl.EnType)
	y := someSys()
	for what, wrong := range wrongSources(t) {
		wantNotMade(t, what, y, wrong, 1, nil, impl.EnType)
	}
	wantNotMade(t, "no source", y, impl.Src{}, 1, nil, impl.EnType)
	for _, ver := range []int{math.MinInt, -1, 0, 1001, math.MaxInt} {
		wantNotMade(t, fmt.Sprint("Ver ", ver), y, s, ver, nil, impl.EnType)
	}
	for _, at := range []int{math.MinInt, -1, 4, 5, math.MaxInt} {
		wantNotMade(t, fmt.Sprint("a Need of Inst ", at), y, s, 1, []impl.Need{{Inst: 1}, {Inst: at}}, impl.EnType)
	}
	for _, name := range []string{"", "if", "car", "7", "a b"} {
		wantNotMade(t, "a Need of "+name, y, s, 1, []impl.Need{{Inst: 1, Names: []string{"v", name}}}, impl.EnType)
	}
	wantMade(t, "right", y, s, 1, []impl.Need{{Inst: 1}, {Inst: 3, Names: names("v")}}, "6")
	// what is wrong is said ahead of what is full
	full := y
	for len(full.Insts) < impl.MaxInsts {
		full.Insts = append(slices.Clip(full.Insts), impl.Inst{Lib: "zz", Ver: 1})
	}
	wantNotMade(t, "full", full, s, 1, nil, impl.EnFull)
	wantNotMade(t, "full, and Ver 0", full, s, 0, nil, impl.EnType)
	wantNotMade(t, "full, and no source", full, impl.Src{}, 1, nil, impl.EnType)
	wantNotMade(t, "full, and a Need of none", full, s, 1, []impl.Need{{Inst: 12}}, impl.EnType)
	full.Insts = full.Insts[:impl.MaxInsts-1]
	wantMade(t, "the last one", full, s, 1, nil, "6")
}

// How a Def ends is told, and nothing of what was done ahead of that is left.
func TestMakeThatFails(t *testing.T) {
	y := wantMade(t, "the first", impl.NewSys(), source(t, "(library aa) (define v 1) (define (bump) (set! v (+ v 1)))"), 1, nil, "1", "fn")
	needs := []impl.Need{{Inst: 1, Names: names("bump v")}}
	z := wantMade(t, "another library is changed", y, source(t, "(library bb) (define w (bump))"), 1, needs, "2")
	if !alike(z.Insts[1].Vals[0], numVal(2)) {
		t.Error("it is", z.Insts[1].Vals)
	}
	for form, want := range map[string]int{
		"nobody": impl.EnUnbound, "(car 1)": impl.EnType, "(* 1000000 2)": impl.EnRange, "(error 'e)": impl.EnUser, "(bump 1)": impl.EnArity,
		"((lambda (f) (f f)) (lambda (f) (+ (+ (+ (+ (f f) 1) 1) 1) 1)))": impl.EnDepth, "((lambda (f) (f f)) (lambda (f) (f f)))": impl.EnFull,
		"w": impl.EnUnbound, "last": impl.EnUnbound, lasting(t, impl.DefFuel+1): impl.EnFull,
	} {
		wantNotMade(t, form, y, source(t, "(library bb) (define loop 0) (define u (cons (bump) (print 1))) (define w "+form+") (define last 1)"), 1, needs, want)
		wantNotMade(t, form+", alone", y, source(t, "(library bb) (define loop 0) (define w "+form+")"), 1, needs, want)
	}
	// the first one that fails is told
	wantNotMade(t, "two", y, source(t, "(library bb) (define u (car 1)) (define w nobody)"), 1, nil, impl.EnType)
	wantNotMade(t, "two", y, source(t, "(library bb) (define w nobody) (define u (car 1))"), 1, nil, impl.EnUnbound)
	last := source(t, "(library bb) (define loop 0) (define w "+lasting(t, impl.DefFuel)+")")
	if _, _, code := impl.Make(y, last, 1, nil); code != impl.EnDone {
		t.Error("as many steps as there are end with", code)
	}
}

func TestMakeAsManyUnitsAsThereAre(t *testing.T) {
	y := wantMade(t, "the first", impl.NewSys(), source(t, "(library aa) (define v 1)"), 1, nil, "1")
	two := source(t, "(library bb) (define u 1) (define w (print 2))")
	y.Units = slices.Repeat(y.Units[:1], impl.MaxUnits-2)
	wantMade(t, "room for two", y, two, 1, nil, "1", "2")
	y.Units = slices.Repeat(y.Units[:1], impl.MaxUnits-1)
	wantNotMade(t, "room for one", y, two, 1, nil, impl.EnFull)
	wantNotMade(t, "room for one, but it fails", y, source(t, "(library bb) (define u nobody) (define w 1)"), 1, nil, impl.EnUnbound)
	y.Units = slices.Repeat(y.Units[:1], impl.MaxUnits)
	wantNotMade(t, "no room", y, two, 1, nil, impl.EnFull)
	wantNotMade(t, "no room, and it would fail", y, source(t, "(library bb) (define u nobody)"), 1, nil, impl.EnFull)
	wantMade(t, "no room, and no Def", y, source(t, "(library bb)"), 1, nil)
}

// modelMake says it in the document's own words; its Defs are run by Eval.
func modelMake(y impl.Sys, s impl.Src, ver int, needs []impl.Need) (impl.Sys, int, int) {
	right := rightSys(y) && rightSrc(s) && ver >= 1 && ver <= 1000
	in := impl.Inst{Lib: s.Name, Ver: ver, Names: namesOfDefs(s.Defs), Vals: make([]impl.Value, len(s.Defs)), Types: s.Types}
	for _, need := range needs {
		right = right && need.Inst >= 0 && need.Inst < len(y.Insts)
		for _, name := range need.Names {
			right = right && readsAsName(name)
			is := slices.ContainsFunc(in.Links, func(l impl.Link) bool { return l.Name == name })
			if !is && !slices.Contains(in.Names, name) && len(in.Links) < 30 {
				in.Links = append(in.Links, link(name, need.Inst, name))
			}
		}
	}
	if !right {
		return y, -1, impl.EnType
	}
	at := len(y.Insts)
	if at == impl.MaxInsts {
		return y, -1, impl.EnFull
	}
	z := deepSys(y)
	z.Insts = append(z.Insts, in)
	for i, d := range s.Defs {
		if len(z.Units) == impl.MaxUnits {
			return y, -1, impl.EnFull
		}
		after, m := impl.Eval(z, at, d.Prog, 500)
		if m.Mode != impl.MoEnd {
			return y, -1, impl.EnFull
		}
		if m.End != impl.EnDone {
			return y, -1, m.End
		}
		after.Insts[at].Vals[i] = m.Val
		z = after
	}
	return z, at, impl.EnDone
}

// change is a library that mostly can be made, with Exports and Imports by chance.
func (m maker) change(libs, imports []string) string {
	own := names("v w f g h k")
	m.r.Shuffle(len(own), func(i, k int) { own[i], own[k] = own[k], own[i] })
	own = own[:m.r.Intn(4)]
	text := "(library " + m.pick(libs...) + ") (record pt " + impl.Dec(1+m.r.Intn(2)) + ")"
	for _, k := range m.r.Perm(len(imports))[:min(m.r.Intn(3), len(imports))] {
		text += " (import " + imports[k] + ")"
	}
	for _, name := range own {
		if m.r.Intn(3) > 0 {
			text += " (export " + name + ")"
		}
		text += " (define " + name + " " + m.worth() + ")"
	}
	return text
}

// worth is a form that mostly tells a value.
func (m maker) worth() string {
	name := m.pick("v", "w", "f", "g", "h", "k")
	switch m.r.Intn(30) {
	case 0:
		return name
	case 1:
		return "(cons " + name + " 1)"
	case 2:
		return "(error '" + name + ")"
	case 3:
		return "((lambda (x) (x x)) (lambda (x) (x x)))"
	case 4:
		return "(begin (set! " + name + " 2) 3)"
	case 5:
		return "(" + name + " 1)"
	case 6, 7:
		return "(lambda (x) (set! " + name + " x))"
	case 8, 9, 10:
		return "(make pt " + m.pick("1", "2", "1 2", "'a '()", "'b 1") + ")"
	case 11:
		return "(print '" + name + ")"
	case 12, 13, 14:
		return "(lambda (x) (cons " + name + " x))"
	}
	return m.pick("1", "2", "'a", "'(1 2)", "(lambda (x) x)", "(lambda () 7)", "(lambda (x) (make pt x))", "(cons 1 2)")
}

// needsByChance are mostly right ones.
func (m maker) needsByChance(insts int) []impl.Need {
	var needs []impl.Need
	for range m.r.Intn(4) {
		n := impl.Need{Inst: m.r.Intn(insts)}
		for range m.r.Intn(6) {
			n.Names = append(n.Names, m.pick("v", "w", "f", "g", "h", "k", "a", "b", "c"))
		}
		switch m.r.Intn(30) {
		case 0:
			n.Inst = insts
		case 1:
			n.Inst = -1
		case 2:
			n.Names = append(n.Names, m.pick("if", "", "car"))
		case 3:
			n.Names = append(n.Names, namesUpTo(32)...)
		}
		needs = append(needs, n)
	}
	return needs
}

// handed is what Make is handed, but for the version.
type handed struct {
	Sys   impl.Sys
	Src   impl.Src
	Needs []impl.Need
}

func TestMakeByChance(t *testing.T) {
	r := rand.New(rand.NewSource(140))
	m := maker{r}
	codes := map[int]int{}
	for i := range 1200 {
		y := sceneByChance(r).y
		if i%5 == 0 {
			spoil(r, &y)
		}
		s := source(t, m.change(names("aa bb cc"), names("dd ee")))
		if i%7 == 0 {
			m.spoilSrc(&s)
		}
		ver := []int{0, 1, 1000, 1001, 5, 6, 7, 8}[r.Intn(8)]
		needs := m.needsByChance(len(y.Insts))
		roomy := roomyOf(handed{y, s, needs})
		before := wholeOf(roomy)
		z, at, code := impl.Make(roomy.Sys, roomy.Src, ver, roomy.Needs)
		wantZ, wantAt, wantCode := modelMake(y, s, ver, needs)
		if code != wantCode || at != wantAt || !alike(z, wantZ) {
			t.Fatalf("Make(%s, %s, %d, %v) = %s, %d, %d; want %s, %d, %d", shown(y), shown(s), ver, needs, shown(z), at, code, shown(wantZ), wantAt, wantCode)
		}
		if !alike(wholeOf(roomy), before) {
			t.Fatalf("what is handed in is changed: %s", shown(s))
		}
		if !shareNone([]any{roomy}, []any{z}) {
			t.Fatalf("Make of %s shares memory", shown(s))
		}
		codes[code]++
	}
	for _, code := range []int{impl.EnDone, impl.EnUnbound, impl.EnType, impl.EnUser, impl.EnFull} {
		if codes[code] < 25 {
			t.Error("one sort was hardly there", codes)
		}
	}
}

func TestMakeManyNeeds(t *testing.T) {
	s := source(t, "(library cc) (define w 6)")
	need := impl.Need{Inst: 0, Names: slices.Repeat(names("v u"), 2000)}
	z := wantMade(t, "many", impl.NewSys(), s, 1, slices.Repeat([]impl.Need{need}, 500), "6")
	if len(z.Insts[1].Links) != 2 {
		t.Error("Links", z.Insts[1].Links)
	}
	need.Names = append(need.Names, strings.Repeat("u", 17))
	wantNotMade(t, "many, the last of which is no name", impl.NewSys(), s, 1, slices.Repeat([]impl.Need{need}, 500), impl.EnType)
}
