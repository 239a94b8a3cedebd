package tests

import (
	"fmt"
	"math"
	"math/rand"
	"slices"
	"strings"
	"testing"

	"loop.example/g00765/impl"
)

// source is the one of a text that ParseLib takes.
func source(t *testing.T, text string) impl.Src {
	t.Helper()
	s, code := impl.ParseLib(text)
	if code != impl.LbOk {
		t.Fatalf("ParseLib(%q): %d", text, code)
	}
	return s
}

// wantMade asks for an Inst, which is to be the last one, with these values.
func wantMade(t *testing.T, what string, y impl.Sys, s impl.Src, ver int, needs []impl.Need, want ...string) impl.Sys {
	t.Helper()
	z, at, code := impl.Make(y, s, ver, needs)
	if code != impl.EnDone || at != len(y.Insts) || len(z.Insts) != at+1 || !impl.SysOk(z) {
		t.Fatalf("%s: Make = %s, %d, %d", what, shown(z), at, code)
	}
	in := z.Insts[at]
	if in.Lib != s.Name || in.Ver != ver || !alike(in.Names, namesOfDefs(s.Defs)) || !alike(in.Types, s.Types) {
		t.Errorf("%s: the Inst is %s", what, shown(in))
	}
	var texts []string
	for _, v := range in.Vals {
		texts = append(texts, impl.Text(z.Heap, v))
	}
	if !slices.Equal(texts, want) {
		t.Errorf("%s: the values are %q; want %q", what, texts, want)
	}
	return z
}

func wantNotMade(t *testing.T, what string, y impl.Sys, s impl.Src, ver int, needs []impl.Need, want int) {
	t.Helper()
	z, at, code := impl.Make(y, s, ver, needs)
	if code != want || at != -1 || !alike(z, y) {
		t.Errorf("%s: Make = %s, %d, %d; want it as it is, -1, %d", what, shown(z), at, code, want)
	}
}

func TestMakeOfOne(t *testing.T) {
	if impl.DefFuel != 500 {
		t.Error("DefFuel", impl.DefFuel)
	}
	y := impl.NewSys()
	wantMade(t, "nothing in it", y, source(t, "(library aa)"), 1, nil)
	z := wantMade(t, "of each sort", y, source(t, "(library aa) (export v) (record pt 1) (define v 1) (define (f x) (+ x v)) (define l (cons (f 4) (make pt v)))"), 1000, nil, "1", "fn", "(5 . #aa:pt)")
	if len(z.Units) != 3 || len(z.Heap) != 3 {
		t.Error("units and cells", shown(z))
	}
	for i, u := range z.Units {
		if u.Home != 1 || !alike(u.Prog, source(t, "(library aa) (define v 1) (define (f x) (+ x v)) (define l (cons (f 4) (make pt v)))").Defs[i].Prog) {
			t.Error("a unit is", shown(u))
		}
	}
	z = wantMade(t, "once more", z, source(t, "(library aa) (define v (print 2))"), 7, nil, "2")
	if !alike(z.Out, []string{"2"}) || len(z.Insts) != 3 {
		t.Error("what was printed", shown(z.Out))
	}
	// what a Def sets stays, but for its own name, whose value is what it tells
	wantMade(t, "set", y, source(t, "(library aa) (define v 1) (define w (begin (set! v 5) (set! w 6) 7))"), 1, nil, "5", "7")
}

func TestMakeLinks(t *testing.T) {
	y := wantMade(t, "the first", impl.NewSys(), source(t, "(library aa) (define v 1) (define w 2) (define u 3)"), 1, nil, "1", "2", "3")
	y = wantMade(t, "the second", y, source(t, "(library bb) (define v 4) (define x 5)"), 1, nil, "4", "5")
	s := source(t, "(library cc) (define w 6) (define all (cons v (cons w (cons x '()))))")
	z := wantMade(t, "linked", y, s, 1, []impl.Need{{Inst: 1, Names: names("w v")}, {Inst: 2, Names: names("x v")}}, "6", "(1 6 5)")
	if want := []impl.Link{link("v", 1, "v"), link("x", 2, "x")}; !alike(z.Insts[3].Links, want) {
		t.Errorf("Links are %v; want %v", z.Insts[3].Links, want)
	}
	z = wantMade(t, "linked the other way", y, s, 1, []impl.Need{{Inst: 2, Names: names("x v")}, {Inst: 1, Names: names("w v")}}, "6", "(4 6 5)")
	if want := []impl.Link{link("x", 2, "x"), link("v", 2, "v")}; !alike(z.Insts[3].Links, want) {
		t.Errorf("Links are %v; want %v", z.Insts[3].Links, want)
	}
	// a name twice in one Need, the session, and itself, which is no Inst yet
	z = wantMade(t, "twice", y, source(t, "(library cc)"), 1, []impl.Need{{Inst: 1, Names: names("v v u v")}, {Inst: 0, Names: names("q")}})
	if want := []impl.Link{link("v", 1, "v"), link("u", 1, "u"), link("q", 0, "q")}; !alike(z.Insts[3].Links, want) {
		t.Errorf("Links are %v; want %v", z.Insts[3].Links, want)
	}
	wantNotMade(t, "itself", y, s, 1, []impl.Need{{Inst: 3, Names: names("v")}}, impl.EnType)
	many := namesUpTo(40)
	z = wantMade(t, "more than there is room for", y, source(t, "(library cc) (define x3 1)"), 1, []impl.Need{{Inst: 1, Names: many[:20]}, {Inst: 2, Names: many[10:]}}, "1")
	var want []impl.Link
	for i, name := range many[:31] {
		if name != "x3" {
			want = append(want, link(name, 1+i/20, name))
		}
	}
	if !alike(z.Insts[3].Links, want) {
		t.Errorf("Links are %v; want %v", z.Insts[3].Links, want)
	}
}

func TestMakeOfWrongThings(t *testing.T) {
	s := source(t, "(library cc) (define w 6)")
	for what, spoil := range spoilers() {
		y := someSys()
		spoil(&y)
		wantNotMade(t, what, y, s, 1, nil, impl.EnType)
	}
	wantNotMade(t, "no system", impl.Sys{}, s, 1, nil, impl.EnType)
	y := someSys()
	for what, wrong := range wrongSources(t) {
		wantNotMade(t, what, y, wrong, 1, nil, impl.EnType)
	}
	wantNotMade(t, "no source", y, impl.Src{}, 1, nil, impl.EnType)
	for _, ver := range []int{math.MinInt, -1, 0, 1001, math.MaxInt} {
		wantNotMade(t, fmt.Sprint("Ver ", ver), y, s, ver, nil, impl.EnType)
	}
	for _, at := range []int{math.MinInt, -1, 4, 5, math.MaxInt} {
		wantNotMade(t, fmt.Sprint("a Need of Inst ", at), y, s, 1, []impl.Need{{Inst: 1}, {Inst: at}}, impl.EnType)
	}
	for _, name := range []string{"", "if", "car", "7", "a b"} {
		wantNotMade(t, "a Need of "+name, y, s, 1, []impl.Need{{Inst: 1, Names: []string{"v", name}}}, impl.EnType)
	}
	wantMade(t, "right", y, s, 1, []impl.Need{{Inst: 1}, {Inst: 3, Names: names("v")}}, "6")
	// what is wrong is said ahead of what is full
	full := y
	for len(full.Insts) < impl.MaxInsts {
		full.Insts = append(slices.Clip(full.Insts), impl.Inst{Lib: "zz", Ver: 1})
	}
	wantNotMade(t, "full", full, s, 1, nil, impl.EnFull)
	wantNotMade(t, "full, and Ver 0", full, s, 0, nil, impl.EnType)
	wantNotMade(t, "full, and no source", full, impl.Src{}, 1, nil, impl.EnType)
	wantNotMade(t, "full, and a Need of none", full, s, 1, []impl.Need{{Inst: 12}}, impl.EnType)
	full.Insts = full.Insts[:impl.MaxInsts-1]
	wantMade(t, "the last one", full, s, 1, nil, "6")
}

// How a Def ends is told, and nothing of what was done ahead of that is left.
func TestMakeThatFails(t *testing.T) {
	y := wantMade(t, "the first", impl.NewSys(), source(t, "(library aa) (define v 1) (define (bump) (set! v (+ v 1)))"), 1, nil, "1", "fn")
	needs := []impl.Need{{Inst: 1, Names: names("bump v")}}
	z := wantMade(t, "another library is changed", y, source(t, "(library bb) (define w (bump))"), 1, needs, "2")
	if !alike(z.Insts[1].Vals[0], numVal(2)) {
		t.Error("it is", z.Insts[1].Vals)
	}
	for form, want := range map[string]int{
		"nobody": impl.EnUnbound, "(car 1)": impl.EnType, "(* 1000000 2)": impl.EnRange, "(error 'e)": impl.EnUser, "(bump 1)": impl.EnArity,
		"((lambda (f) (f f)) (lambda (f) (+ (+ (+ (+ (f f) 1) 1) 1) 1)))": impl.EnDepth, "((lambda (f) (f f)) (lambda (f) (f f)))": impl.EnFull,
		"w": impl.EnUnbound, "last": impl.EnUnbound, lasting(t, impl.DefFuel+1): impl.EnFull,
	} {
		wantNotMade(t, form, y, source(t, "(library bb) (define loop 0) (define u (cons (bump) (print 1))) (define w "+form+") (define last 1)"), 1, needs, want)
		wantNotMade(t, form+", alone", y, source(t, "(library bb) (define loop 0) (define w "+form+")"), 1, needs, want)
	}
	// the first one that fails is told
	wantNotMade(t, "two", y, source(t, "(library bb) (define u (car 1)) (define w nobody)"), 1, nil, impl.EnType)
	wantNotMade(t, "two", y, source(t, "(library bb) (define w nobody) (define u (car 1))"), 1, nil, impl.EnUnbound)
	last := source(t, "(library bb) (define loop 0) (define w "+lasting(t, impl.DefFuel)+")")
	if _, _, code := impl.Make(y, last, 1, nil); code != impl.EnDone {
		t.Error("as many steps as there are end with", code)
	}
}

func TestMakeAsManyUnitsAsThereAre(t *testing.T) {
	y := wantMade(t, "the first", impl.NewSys(), source(t, "(library aa) (define v 1)"), 1, nil, "1")
	two := source(t, "(library bb) (define u 1) (define w (print 2))")
	y.Units = slices.Repeat(y.Units[:1], impl.MaxUnits-2)
	wantMade(t, "room for two", y, two, 1, nil, "1", "2")
	y.Units = slices.Repeat(y.Units[:1], impl.MaxUnits-1)
	wantNotMade(t, "room for one", y, two, 1, nil, impl.EnFull)
	wantNotMade(t, "room for one, but it fails", y, source(t, "(library bb) (define u nobody) (define w 1)"), 1, nil, impl.EnUnbound)
	y.Units = slices.Repeat(y.Units[:1], impl.MaxUnits)
	wantNotMade(t, "no room", y, two, 1, nil, impl.EnFull)
	wantNotMade(t, "no room, and it would fail", y, source(t, "(library bb) (define u nobody)"), 1, nil, impl.EnFull)
	wantMade(t, "no room, and no Def", y, source(t, "(library bb)"), 1, nil)
}

// modelMake says it in the document's own words; its Defs are run by Eval.
func modelMake(y impl.Sys, s impl.Src, ver int, needs []impl.Need) (impl.Sys, int, int) {
	right := rightSys(y) && rightSrc(s) && ver >= 1 && ver <= 1000
	in := impl.Inst{Lib: s.Name, Ver: ver, Names: namesOfDefs(s.Defs), Vals: make([]impl.Value, len(s.Defs)), Types: s.Types}
	for _, need := range needs {
		right = right && need.Inst >= 0 && need.Inst < len(y.Insts)
		for _, name := range need.Names {
			right = right && readsAsName(name)
			is := slices.ContainsFunc(in.Links, func(l impl.Link) bool { return l.Name == name })
			if !is && !slices.Contains(in.Names, name) && len(in.Links) < 30 {
				in.Links = append(in.Links, link(name, need.Inst, name))
			}
		}
	}
	if !right {
		return y, -1, impl.EnType
	}
	at := len(y.Insts)
	if at == impl.MaxInsts {
		return y, -1, impl.EnFull
	}
	z := deepSys(y)
	z.Insts = append(z.Insts, in)
	for i, d := range s.Defs {
		if len(z.Units) == impl.MaxUnits {
			return y, -1, impl.EnFull
		}
		after, m := impl.Eval(z, at, d.Prog, 500)
		if m.Mode != impl.MoEnd {
			return y, -1, impl.EnFull
		}
		if m.End != impl.EnDone {
			return y, -1, m.End
		}
		after.Insts[at].Vals[i] = m.Val
		z = after
	}
	return z, at, impl.EnDone
}

// change is a library that mostly can be made, with Exports and Imports by chance.
func (m maker) change(libs, imports []string) string {
	own := names("v w f g h k")
	m.r.Shuffle(len(own), func(i, k int) { own[i], own[k] = own[k], own[i] })
	own = own[:m.r.Intn(4)]
	text := "(library " + m.pick(libs...) + ") (record pt " + impl.Dec(1+m.r.Intn(2)) + ")"
	for _, k := range m.r.Perm(len(imports))[:min(m.r.Intn(3), len(imports))] {
		text += " (import " + imports[k] + ")"
	}
	for _, name := range own {
		if m.r.Intn(3) > 0 {
			text += " (export " + name + ")"
		}
		text += " (define " + name + " " + m.worth() + ")"
	}
	return text
}

// worth is a form that mostly tells a value.
func (m maker) worth() string {
	name := m.pick("v", "w", "f", "g", "h", "k")
	switch m.r.Intn(30) {
	case 0:
		return name
	case 1:
		return "(cons " + name + " 1)"
	case 2:
		return "(error '" + name + ")"
	case 3:
		return "((lambda (x) (x x)) (lambda (x) (x x)))"
	case 4:
		return "(begin (set! " + name + " 2) 3)"
	case 5:
		return "(" + name + " 1)"
	case 6, 7:
		return "(lambda (x) (set! " + name + " x))"
	case 8, 9, 10:
		return "(make pt " + m.pick("1", "2", "1 2", "'a '()", "'b 1") + ")"
	case 11:
		return "(print '" + name + ")"
	case 12, 13, 14:
		return "(lambda (x) (cons " + name + " x))"
	}
	return m.pick("1", "2", "'a", "'(1 2)", "(lambda (x) x)", "(lambda () 7)", "(lambda (x) (make pt x))", "(cons 1 2)")
}

// needsByChance are mostly right ones.
func (m maker) needsByChance(insts int) []impl.Need {
	var needs []impl.Need
	for range m.r.Intn(4) {
		n := impl.Need{Inst: m.r.Intn(insts)}
		for range m.r.Intn(6) {
			n.Names = append(n.Names, m.pick("v", "w", "f", "g", "h", "k", "a", "b", "c"))
		}
		switch m.r.Intn(30) {
		case 0:
			n.Inst = insts
		case 1:
			n.Inst = -1
		case 2:
			n.Names = append(n.Names, m.pick("if", "", "car"))
		case 3:
			n.Names = append(n.Names, namesUpTo(32)...)
		}
		needs = append(needs, n)
	}
	return needs
}

// handed is what Make is handed, but for the version.
type handed struct {
	Sys   impl.Sys
	Src   impl.Src
	Needs []impl.Need
}

func TestMakeByChance(t *testing.T) {
	t.Parallel()
	r := rand.New(rand.NewSource(140))
	m := maker{r}
	codes := map[int]int{}
	for i := range 1200 {
		y := sceneByChance(r).y
		if i%5 == 0 {
			spoil(r, &y)
		}
		s := source(t, m.change(names("aa bb cc"), names("dd ee")))
		if i%7 == 0 {
			m.spoilSrc(&s)
		}
		ver := []int{0, 1, 1000, 1001, 5, 6, 7, 8}[r.Intn(8)]
		needs := m.needsByChance(len(y.Insts))
		roomy := roomyOf(handed{y, s, needs})
		before := wholeOf(roomy)
		z, at, code := impl.Make(roomy.Sys, roomy.Src, ver, roomy.Needs)
		wantZ, wantAt, wantCode := modelMake(y, s, ver, needs)
		if code != wantCode || at != wantAt || !alike(z, wantZ) {
			t.Fatalf("Make(%s, %s, %d, %v) = %s, %d, %d; want %s, %d, %d", shown(y), shown(s), ver, needs, shown(z), at, code, shown(wantZ), wantAt, wantCode)
		}
		if !alike(wholeOf(roomy), before) {
			t.Fatalf("what is handed in is changed: %s", shown(s))
		}
		if !shareNone([]any{roomy}, []any{z}) {
			t.Fatalf("Make of %s shares memory", shown(s))
		}
		codes[code]++
	}
	for _, code := range []int{impl.EnDone, impl.EnUnbound, impl.EnType, impl.EnUser, impl.EnFull} {
		if codes[code] < 25 {
			t.Error("one sort was hardly there", codes)
		}
	}
}

func TestMakeManyNeeds(t *testing.T) {
	s := source(t, "(library cc) (define w 6)")
	need := impl.Need{Inst: 0, Names: slices.Repeat(names("v u"), 2000)}
	z := wantMade(t, "many", impl.NewSys(), s, 1, slices.Repeat([]impl.Need{need}, 500), "6")
	if len(z.Insts[1].Links) != 2 {
		t.Error("Links", z.Insts[1].Links)
	}
	need.Names = append(need.Names, strings.Repeat("u", 17))
	wantNotMade(t, "many, the last of which is no name", impl.NewSys(), s, 1, slices.Repeat([]impl.Need{need}, 500), impl.EnType)
}

// A function may call one behind it as long as nobody calls it ahead of that one.
func TestMakeWhatCallsEachOther(t *testing.T) {
	y := impl.NewSys()
	wantMade(t, "those ahead", y, source(t, "(library aa) (define (f x) (+ x 1)) (define (g x) (f (f x))) (define v (g (f 1)))"), 1, nil, "fn", "fn", "4")
	wantMade(t, "those behind", y, source(t, "(library aa) (define (f x) (g (+ x u))) (define (g x) (cons x u)) (define u 5) (define v (f 1))"), 1, nil, "fn", "fn", "5", "(6 . 5)")
	wantMade(t, "itself", y, source(t, "(library aa) (define (f x) (if (= x 0) '() (cons x (f (- x 1))))) (define v (f 3))"), 1, nil, "fn", "(3 2 1)")
	wantNotMade(t, "one behind, too early", y, source(t, "(library aa) (define (f x) (g x)) (define v (f 1)) (define (g x) x)"), 1, nil, impl.EnUnbound)
	wantMade(t, "one that closes over what it sees", y, source(t, "(library aa) (define f (let ((k 4)) (lambda (x) (+ k x)))) (define v (f 1))"), 1, nil, "fn", "5")
	// of a name that is its own the Need is not asked, not even as long as it has no value
	y = wantMade(t, "one to import", y, source(t, "(library bb) (define u 1) (define v 2)"), 1, nil, "1", "2")
	needs := []impl.Need{{Inst: 1, Names: names("u v")}}
	wantMade(t, "its own", y, source(t, "(library aa) (define w u) (define v 8) (define x v)"), 1, needs, "1", "8", "8")
	wantNotMade(t, "its own, too early", y, source(t, "(library aa) (define w v) (define v 8)"), 1, needs, impl.EnUnbound)
	wantNotMade(t, "its own, in itself", y, source(t, "(library aa) (define v (+ v 1))"), 1, needs, impl.EnUnbound)
	z := wantMade(t, "all its own", y, source(t, "(library aa) (define v 8) (define u 9)"), 1, needs, "8", "9")
	if len(z.Insts[2].Links) != 0 {
		t.Error("it has Links to its own names", z.Insts[2].Links)
	}
}

func TestMakeEdgeOfLinks(t *testing.T) {
	y := wantMade(t, "one to import", impl.NewSys(), source(t, "(library bb)"), 1, nil)
	for count := 28; count <= 32; count++ {
		all := namesUpTo(count)
		var want []impl.Link
		for _, name := range all[:min(count, 30)] {
			want = append(want, link(name, 1, name))
		}
		for what, needs := range map[string][]impl.Need{
			"in one":       {{Inst: 1, Names: all}},
			"in two":       {{Inst: 1, Names: all[:9]}, {Inst: 1, Names: all[9:]}},
			"each alone":   eachAlone(1, all),
			"all twice":    {{Inst: 1, Names: all}, {Inst: 0, Names: all}},
			"behind empty": {{Inst: 0}, {Inst: 1}, {Inst: 1, Names: all}},
		} {
			z := wantMade(t, what, y, source(t, "(library cc)"), 1, needs)
			if !alike(z.Insts[2].Links, want) {
				t.Errorf("%d names %s: Links are %v", count, what, z.Insts[2].Links)
			}
			// its own do not count
			z = wantMade(t, what, y, source(t, "(library cc) (define own1 1) (define own2 2)"), 1, slices.Insert(needs, 0, impl.Need{Inst: 1, Names: names("own1 own2")}), "1", "2")
			if !alike(z.Insts[2].Links, want) {
				t.Errorf("%d names %s behind its own: Links are %v", count, what, z.Insts[2].Links)
			}
		}
	}
}

// eachAlone are Needs of one name each.
func eachAlone(inst int, all []string) []impl.Need {
	var needs []impl.Need
	for _, name := range all {
		needs = append(needs, impl.Need{Inst: inst, Names: []string{name}})
	}
	return needs
}

// What is handed in stays, whichever Def fails, and so does the room behind it.
func TestMakeLeavesWhatIsHandedIn(t *testing.T) {
	base := wantMade(t, "one to import", impl.NewSys(), source(t, "(library aa) (define v 1) (define (bump x) (begin (print x) (set! v (cons x v))))"), 1, nil, "1", "fn")
	good := []string{"(bump 1)", "(cons v v)", "(lambda (x) (bump x))", "(begin (bump 2) (set! a 7) (bump 3))"}
	for _, last := range []string{"", "nobody", "(car 1)", "(* 1000000 2)", "(error v)", "(bump)", "((lambda (f) (f f)) (lambda (f) (f f)))", "((lambda (f) (f f)) (lambda (f) (+ 1 (f f))))"} {
		for at := range len(good) + 1 {
			forms := slices.Clone(good)
			if last != "" {
				forms = slices.Insert(forms, at, last)
			}
			text := "(library bb)"
			for i, form := range forms {
				text += " (define " + string(rune('a'+i)) + " " + form + ")"
			}
			given := roomyOf(handed{base, source(t, text), []impl.Need{{Inst: 1, Names: names("bump v")}}})
			before := wholeOf(given)
			y, _, code := impl.Make(given.Sys, given.Src, 1, given.Needs)
			if (code == impl.EnDone) != (last == "") {
				t.Errorf("%s: %d", text, code)
			}
			if !alike(wholeOf(given), before) {
				t.Errorf("%s: what is handed in is changed", text)
			}
			if !shareNone([]any{given}, []any{y}) {
				t.Errorf("%s: memory is shared", text)
			}
			if last != "" && !alike(y, base) {
				t.Errorf("%s: something is left: %s", text, shown(y))
			}
		}
	}
}

// made is a session with these definitions, which Make runs in a library; its names
// are those of the session, too.
func made(t *testing.T, text string) impl.Sys {
	t.Helper()
	y, at, code := impl.Make(impl.NewSys(), source(t, "(library aa) (record pt 2) "+text), 1, nil)
	if code != impl.EnDone {
		t.Fatalf("Make of %s: %d", text, code)
	}
	for _, name := range y.Insts[at].Names {
		y.Insts[0].Links = append(y.Insts[0].Links, link(name, at, name))
	}
	return y
}

// valueOf is that of a name in the session.
func valueOf(t *testing.T, y impl.Sys, name string) impl.Value {
	t.Helper()
	v, is := impl.Lookup(y, 0, name)
	if !is {
		t.Fatal("no value of", name)
	}
	return v
}

// modelApply says it in the document's own words.
func modelApply(y impl.Sys, f impl.Value, args []impl.Value, fuel int) (impl.Sys, impl.Machine) {
	if !rightSys(y) || len(args) > 8 || len(y.Units) == 60 {
		return impl.Sys{}, impl.Machine{}
	}
	text := "("
	var env []impl.Bind
	for i, v := range append(vals(f), args...) {
		if !rightVal(y.Heap, v) {
			return impl.Sys{}, impl.Machine{}
		}
		name := "f0"
		if i > 0 {
			name = fmt.Sprint("a", i-1)
		}
		text += name + " "
		env = append(env, impl.Bind{Name: name, Val: v})
	}
	d, _ := impl.Read(text + ")")
	p, _ := impl.Expand(d, 0)
	z := deepSys(y)
	z.Units = append(z.Units, impl.Unit{Home: 0, Prog: p})
	m, _ := impl.Start(z, len(y.Units))
	m.Env = env
	z, m, _ = modelRun(z, m, fuel)
	return z, m
}

// wantApplied asks for what the model tells, and for that Answer.
func wantApplied(t *testing.T, what string, y impl.Sys, f impl.Value, args []impl.Value, fuel int, answer string) (impl.Sys, impl.Machine) {
	t.Helper()
	z, m := impl.Apply(y, f, args, fuel)
	wantZ, wantM := modelApply(y, f, args, fuel)
	if !alike(z, wantZ) || !alike(m, wantM) {
		t.Errorf("%s: Apply = %s, %s; want %s, %s", what, shown(z), shown(m), shown(wantZ), shown(wantM))
	}
	if !impl.MachineOk(z, m) {
		t.Errorf("%s: what Apply tells is not right: %s", what, shown(m))
	}
	wantAnswer(t, what, z, m, answer)
	return z, m
}

func wantNotApplied(t *testing.T, what string, y impl.Sys, f impl.Value, args []impl.Value) {
	t.Helper()
	for _, fuel := range []int{math.MinInt, -1, 0, 1, 100, math.MaxInt} {
		if z, m := impl.Apply(y, f, args, fuel); !alike(z, impl.Sys{}) || !alike(m, impl.Machine{}) {
			t.Errorf("%s: Apply = %s, %s; want nothing", what, shown(z), shown(m))
		}
	}
}

const someFunctions = `(define (none) 7) (define (same x) x) (define (two x y) (cons x y)) (define v 5)
(define (eight a b c d e f g h) (cons a (cons b (cons c (cons d (cons e (cons f (cons g (cons h '()))))))))) (define (adds k) (lambda (x) (+ x k)))
(define add4 (adds 4)) (define (free) v) (define (nobody) nothing) (define (says x) (print x)) (define (sets x) (set! v x)) (define (fails x) (error x))
(define (ever) (ever)) (define (deep) (+ 1 (deep))) (define (fills) (begin (cons 1 2) (fills))) (define (mk x) (make pt x v)) (define (sum l) (if (null? l) 0 (+ (car l) (sum (cdr l)))))
(define (hidden) a0) (define (head) f0) (define it (mk 1)) (define l '(1 2 3))`

func TestApplyOfFunctions(t *testing.T) {
	y := made(t, someFunctions)
	one, two := numVal(1), numVal(2)
	for _, c := range []struct {
		f      string
		args   []impl.Value
		answer string
	}{
		{"none", nil, "7"}, {"same", vals(one), "1"}, {"same", vals(nilVal()), "()"}, {"same", vals(symVal("if")), "if"}, {"two", vals(one, two), "(1 . 2)"},
		{"two", vals(two, one), "(2 . 1)"}, {"eight", vals(one, two, numVal(3), numVal(4), boolVal(0), boolVal(1), nilVal(), symVal("z")), "(1 2 3 4 #f #t () z)"},
		{"adds", vals(one), "fn"}, {"add4", vals(numVal(3)), "7"}, {"free", nil, "5"}, {"says", vals(two), "2"}, {"sets", vals(two), "2"}, {"mk", vals(two), "#aa:pt"},
		{"same", vals(valueOf(t, y, "it")), "#aa:pt"}, {"same", vals(valueOf(t, y, "same")), "fn"}, {"sum", vals(valueOf(t, y, "l")), "6"}, {"two", vals(valueOf(t, y, "l"), valueOf(t, y, "l")), "((1 2 3) 1 2 3)"},
		// each of the codes
		{"nobody", nil, "unbound"}, {"add4", vals(nilVal()), "type"}, {"add4", vals(numVal(impl.MaxWord)), "range"}, {"fails", vals(two), "error 2"}, {"deep", nil, "depth"}, {"fills", nil, "full"}, {"ever", nil, "running"},
		{"none", vals(one), "arity"}, {"same", nil, "arity"}, {"same", vals(one, two), "arity"}, {"two", vals(one), "arity"}, {"eight", slices.Repeat(vals(one), 7), "arity"}, {"none", slices.Repeat(vals(one), 8), "arity"},
		// the names of the call are nobody else's
		{"hidden", nil, "unbound"}, {"head", nil, "unbound"},
		// no function
		{"v", nil, "type"}, {"v", vals(one), "type"}, {"it", vals(one), "type"}, {"l", nil, "type"},
	} {
		what := fmt.Sprint(c.f, " of ", c.args)
		z, m := wantApplied(t, what, y, valueOf(t, y, c.f), c.args, impl.MaxSteps, c.answer)
		unit := len(y.Units)
		if len(z.Units) != unit+1 || !alike(z.Units[:unit], y.Units) || z.Units[unit].Home != 0 {
			t.Errorf("%s: the units are %s", what, shown(z.Units))
		}
		call := meant(t, strings.TrimSpace("(f0 "+strings.Join(names("a0 a1 a2 a3 a4 a5 a6 a7")[:len(c.args)], " "))+")")
		if !alike(z.Units[unit].Prog, call) {
			t.Errorf("%s: its program is %s", what, shown(z.Units[unit].Prog))
		}
		if m.Mode == impl.MoEnd && (len(m.Env) != 0 || len(m.Stack) != 0) {
			t.Errorf("%s ends as %s", what, shown(m))
		}
	}
	for _, v := range vals(one, boolVal(0), boolVal(1), nilVal(), symVal("same")) {
		wantApplied(t, "no function", y, v, vals(one), 100, "type")
	}
	// what it did stays
	z, _ := impl.Apply(y, valueOf(t, y, "says"), vals(symVal("word")), 100)
	z, _ = impl.Apply(z, valueOf(t, z, "sets"), vals(numVal(9)), 100)
	z, m := impl.Apply(z, valueOf(t, z, "free"), nil, 100)
	if !alike(z.Out, []string{"word"}) || !alike(m.Val, numVal(9)) || len(z.Units) != len(y.Units)+3 {
		t.Error("what was done", shown(z.Out), shown(m))
	}
}

// The session may have the names of the call itself; those are not meant in it, and
// the function has those of its own home.
func TestApplyBindsItsNames(t *testing.T) {
	y := made(t, "(define (same x) x) (define f0 1) (define a0 2) (define (hidden x) (cons f0 (cons a0 x)))")
	wantApplied(t, "f0 of the session", y, valueOf(t, y, "same"), vals(numVal(7)), 100, "7")
	wantApplied(t, "a function with names as these", y, valueOf(t, y, "hidden"), vals(numVal(7)), 100, "(1 2 . 7)")
	_, m := impl.Apply(y, valueOf(t, y, "same"), vals(numVal(7), symVal("b")), 0)
	if want := binds("f0", valueOf(t, y, "same"), "a0", numVal(7), "a1", symVal("b")); !alike(m.Env, want) {
		t.Errorf("bound are %v; want %v", m.Env, want)
	}
}

func TestApplyWithFuel(t *testing.T) {
	y := made(t, someFunctions)
	f, args := valueOf(t, y, "sum"), vals(valueOf(t, y, "l"))
	for _, fuel := range []int{math.MinInt, -1, 0} {
		z, m := wantApplied(t, "no fuel", y, f, args, fuel, "running")
		start, _ := impl.Start(z, len(y.Units))
		if start.Env = binds("f0", f, "a0", args[0]); !alike(m, start) || !alike(z.Heap, y.Heap) {
			t.Errorf("without fuel it stands at %s", shown(m))
		}
	}
	whole, end := wantApplied(t, "all of it", y, f, args, impl.MaxSteps, "6")
	most := 0
	for {
		if _, m := impl.Apply(y, f, args, most); m.Mode == impl.MoEnd {
			break
		}
		wantApplied(t, fmt.Sprint(most, " steps"), y, f, args, most, "running")
		z, m := impl.Apply(y, f, args, most)
		if z, m, _ = impl.Run(z, m, impl.MaxSteps); !alike(z, whole) || !alike(m, end) {
			t.Errorf("cut behind %d steps it tells %s", most, shown(m))
		}
		most++
	}
	if most < 30 {
		t.Error("it took only", most, "steps")
	}
	wantApplied(t, "one step less", y, f, args, most-1, "running")
	wantApplied(t, "as many as it takes", y, f, args, most, "6")
	wantApplied(t, "one more", y, f, args, most+1, "6")
	z, m := wantApplied(t, "no end of fuel", y, valueOf(t, y, "ever"), nil, math.MaxInt, "running")
	if a, b := impl.Apply(y, valueOf(t, y, "ever"), nil, impl.MaxSteps); !alike(a, z) || !alike(b, m) {
		t.Error("more than MaxSteps are taken", shown(m))
	}
}

func TestApplyLimits(t *testing.T) {
	y := made(t, someFunctions)
	same, one := valueOf(t, y, "same"), numVal(1)
	for count := range 9 {
		answer := "arity"
		if count == 1 {
			answer = "1"
		}
		wantApplied(t, fmt.Sprint(count, " args"), y, same, slices.Repeat(vals(one), count), 100, answer)
	}
	wantNotApplied(t, "9 args", y, same, slices.Repeat(vals(one), 9))
	wantNotApplied(t, "10 args", y, same, slices.Repeat(vals(one), 10))
	wantNotApplied(t, "many args", y, same, slices.Repeat(vals(one), 100000))
	for room := range 3 {
		z := deepSys(y)
		for len(z.Units) < impl.MaxUnits-room {
			z.Units = append(z.Units, impl.Unit{Home: 0, Prog: meant(t, "1")})
		}
		if room == 0 {
			wantNotApplied(t, "no room for a unit", z, same, vals(one))
			continue
		}
		z, _ = wantApplied(t, "room for a unit", z, same, vals(one), 100, "1")
		if len(z.Units) != impl.MaxUnits-room+1 {
			t.Error("units", len(z.Units))
		}
	}
	for room := range 3 {
		answer := "(1 . 1)"
		if room == 0 {
			answer = "full"
		}
		wantApplied(t, "room for cells", filled(y, impl.MaxHeap-room), valueOf(t, y, "two"), vals(one, one), 100, answer)
		wantApplied(t, "no cell is asked for", filled(y, impl.MaxHeap-room), same, vals(one), 100, "1")
	}
	wantApplied(t, "no cells", impl.NewSys(), one, vals(nilVal()), 100, "type")
	wantNotApplied(t, "no cells", impl.NewSys(), fnVal(0), nil)
	wantNotApplied(t, "no cells", impl.NewSys(), one, vals(pairVal(0)))
}

func TestApplyOfWrongThings(t *testing.T) {
	y := someSys()
	wantApplied(t, "right", y, fnVal(2), vals(numVal(1)), 100, "1")
	for what, spoil := range spoilers() {
		z := someSys()
		spoil(&z)
		wantNotApplied(t, what, z, numVal(1), nil)
		wantNotApplied(t, what, z, fnVal(2), vals(numVal(1)))
	}
	wantNotApplied(t, "no system", impl.Sys{}, numVal(1), nil)
	_, wrong := valsOfAllSorts()
	for _, bad := range append(wrong, impl.Value{}, pairVal(6), pairVal(2), fnVal(1), fnVal(6), recVal(3), recVal(-1), fnVal(-1)) {
		if rightVal(y.Heap, bad) {
			continue
		}
		wantNotApplied(t, fmt.Sprint("f ", bad), y, bad, nil)
		wantNotApplied(t, fmt.Sprint("f ", bad), y, bad, vals(numVal(1)))
		for at := range 8 {
			args := slices.Repeat(vals(numVal(1)), 8)
			args[at] = bad
			wantNotApplied(t, fmt.Sprint("arg ", at, " ", bad), y, fnVal(2), args)
			wantNotApplied(t, fmt.Sprint("the last arg ", bad), y, fnVal(2), args[:at+1])
		}
	}
	// all that is handed in is asked for, also where nobody would come to it
	for i, bad := range badHeaps() {
		z := impl.NewSys()
		z.Heap = bad
		wantNotApplied(t, fmt.Sprint("heap ", i), z, numVal(1), nil)
	}
}

// A call in a program tells the same, step by step, as what its names tell is the same.
func TestApplyDoesWhatACallDoes(t *testing.T) {
	y := made(t, someFunctions)
	y.Insts[0].Names, y.Insts[0].Vals = names("x0 x1"), vals(numVal(3), valueOf(t, y, "l"))
	for _, f := range names("none same two adds add4 free nobody says sets fails deep fills mk sum hidden it l") {
		for count := range 3 {
			call := meant(t, "("+f+" "+strings.Join(names("x0 x1")[:count], " ")+")")
			args := vals(numVal(3), valueOf(t, y, "l"))[:count]
			for _, fuel := range []int{0, 1, 2, 3, 4, 5, 6, 7, 8, 9, 10, 12, 15, 20, 40, 100, impl.MaxSteps} {
				z, m := impl.Apply(y, valueOf(t, y, f), args, fuel)
				wantZ, wantM := impl.Eval(y, 0, call, fuel)
				if !alike(z.Heap, wantZ.Heap) || !alike(z.Insts, wantZ.Insts) || !alike(z.Out, wantZ.Out) || m.Mode != wantM.Mode || m.End != wantM.End || m.Val != wantM.Val || len(m.Stack) != len(wantM.Stack) || m.Unit != wantM.Unit {
					t.Fatalf("%s of %v with %d steps: %s; the call: %s", f, args, fuel, shown(m), shown(wantM))
				}
			}
		}
	}
}

// calling is what Apply is handed, but for the fuel.
type calling struct {
	Sys  impl.Sys
	F    impl.Value
	Args []impl.Value
}

func TestApplyByChance(t *testing.T) {
	t.Parallel()
	r := rand.New(rand.NewSource(141))
	codes := map[string]int{}
	for i := range 1200 {
		s := sceneByChance(r)
		c := calling{s.y, s.value(), s.values(r.Intn(4))}
		if n := r.Intn(20); n < 10 {
			c.Args = s.values(n)
		}
		fns := []int{}
		for at, cell := range s.y.Heap {
			if cell.Kind == impl.CeFn {
				fns = append(fns, at)
			}
		}
		if len(fns) > 0 && i%4 > 0 {
			at := fns[r.Intn(len(fns))]
			u := s.y.Heap[at]
			c.F, c.Args = fnVal(at), s.values(len(s.y.Units[u.A].Prog.Nodes[u.B].Names))
		}
		switch r.Intn(12) {
		case 0:
			spoil(r, &c.Sys)
		case 1:
			c.F = impl.Value{Kind: r.Intn(9) - 1, N: r.Intn(9) - 1}
		case 2:
			c.Args = append(c.Args, impl.Value{Kind: r.Intn(9) - 1, N: r.Intn(9) - 1})
		}
		fuel := []int{-1, 0, 1, 5, 20, 100, impl.DefFuel, impl.MaxSteps + 1}[r.Intn(8)]
		given := roomyOf(c)
		before := wholeOf(given)
		z, m := impl.Apply(given.Sys, given.F, given.Args, fuel)
		wantZ, wantM := modelApply(c.Sys, c.F, c.Args, fuel)
		if !alike(z, wantZ) || !alike(m, wantM) {
			t.Fatalf("Apply(%s, %v, %v, %d) = %s, %s; want %s, %s", shown(c.Sys), c.F, c.Args, fuel, shown(z), shown(m), shown(wantZ), shown(wantM))
		}
		if !alike(wholeOf(given), before) {
			t.Fatalf("what is handed in is changed: %s", shown(c))
		}
		if !shareNone([]any{given}, []any{z, m}) {
			t.Fatalf("Apply of %s shares memory", shown(c))
		}
		word := "nothing"
		if m.Mode != 0 {
			word = names(modelAnswer(wantZ, wantM) + " .")[0]
		}
		codes[word]++
	}
	for _, word := range []string{"nothing", "running", "unbound", "type", "arity", "fn"} {
		if codes[word] < 10 {
			t.Error("one sort was hardly there: ", word, codes)
		}
	}
}

func wantList(t *testing.T, what string, h []impl.Cell, v impl.Value, want ...impl.Value) {
	t.Helper()
	if all, ok := impl.AsList(h, v); !ok || !alike(all, want) {
		t.Errorf("%s: AsList(.., %v) = %v, %v; want %v, true", what, v, all, ok, want)
	}
}

func wantNoList(t *testing.T, what string, h []impl.Cell, v impl.Value) {
	t.Helper()
	if all, ok := impl.AsList(h, v); ok || len(all) != 0 {
		t.Errorf("%s: AsList(.., %v) = %v, %v; want nothing, false", what, v, all, ok)
	}
}

func TestLists(t *testing.T) {
	wantList(t, "the empty one, without cells", nil, nilVal())
	wantList(t, "the empty one", []impl.Cell{}, nilVal())
	h := someHeap() // (2) and (a 2) are the first two
	wantList(t, "the empty one among cells", h, nilVal())
	wantList(t, "one", h, pairVal(0), numVal(2))
	wantList(t, "two", h, pairVal(1), symVal("a"), numVal(2))
	h = append(h, pairCell(pairVal(1), pairVal(0)), pairCell(nilVal(), nilVal()), pairCell(pairVal(7), pairVal(7)))
	wantList(t, "a list in a list", h, pairVal(6), pairVal(1), numVal(2))
	wantList(t, "the empty one in a list", h, pairVal(7), nilVal())
	wantList(t, "lists that share a cell", h, pairVal(8), pairVal(7), nilVal())
	h = append(h, pairCell(recVal(5), pairVal(1)), pairCell(fnVal(3), pairVal(9)), pairCell(boolVal(0), pairVal(10)))
	wantList(t, "of each sort", h, pairVal(11), boolVal(0), fnVal(3), recVal(5), symVal("a"), numVal(2))
	// a list that ends otherwise
	for _, end := range vals(numVal(0), numVal(3), boolVal(0), boolVal(1), symVal("a"), symVal("nil"), fnVal(2), recVal(4), recVal(5)) {
		wantNoList(t, "no list", h, end)
		for n := 1; n < 4; n++ {
			g, row := longRow(deepHeap(h), n, numVal(1), end)
			wantNoList(t, "it ends otherwise", g, row)
			g = append(g, pairCell(row, nilVal()))
			wantList(t, "in a list", g, pairVal(len(g)-1), row)
		}
	}
	// what a record has is none
	h = []impl.Cell{recCell("aa:pt", 1, numVal(1), nilVal()), pairCell(numVal(1), recVal(0))}
	wantNoList(t, "a record", h, recVal(0))
	wantNoList(t, "with a record as its rest", h, pairVal(1))
}

func TestLongLists(t *testing.T) {
	for _, n := range []int{1, 2, 8, 9, 100, impl.MaxHeap - 1, impl.MaxHeap} {
		h, row := longRow(nil, n, numVal(n), nilVal())
		wantList(t, "long", h, row, slices.Repeat(vals(numVal(n)), n)...)
		h, row = longRow(nil, n, nilVal(), numVal(n))
		wantNoList(t, "long, but it ends otherwise", h, row)
	}
	h, row := longRow(nil, impl.MaxHeap+1, numVal(1), nilVal())
	wantNoList(t, "too long", h, row)
	wantNoList(t, "too many cells", h, pairVal(0))
	wantNoList(t, "too many cells", h, nilVal())
	// rising, and from a program
	y := made(t, "(define (upto a b) (if (= a b) '() (cons a (upto (+ a 1) b)))) (define l (upto 0 16))")
	var want []impl.Value
	for n := range 16 {
		want = append(want, numVal(n))
	}
	wantList(t, "rising", y.Heap, valueOf(t, y, "l"), want...)
}

func TestListsOfWrongThings(t *testing.T) {
	h := someHeap()
	_, wrong := valsOfAllSorts()
	for _, v := range append(wrong, impl.Value{}, pairVal(-1), pairVal(2), pairVal(6), pairVal(math.MaxInt), pairVal(math.MinInt), pairVal(1<<32)) {
		if rightVal(h, v) {
			continue
		}
		wantNoList(t, "no value", h, v)
		wantNoList(t, "no value, no cells", nil, v)
	}
	for _, v := range vals(impl.Value{Kind: impl.VaNil, N: 1}, impl.Value{Kind: impl.VaNil, S: "a"}, impl.Value{Kind: impl.VaPair, S: "a"}) {
		wantNoList(t, "with what is not named", h, v)
	}
	for i, bad := range badHeaps() {
		what := fmt.Sprint("heap ", i)
		wantNoList(t, what, bad, nilVal())
		wantNoList(t, what, bad, pairVal(1))
		wantNoList(t, what, bad, pairVal(6))
	}
	wantNoList(t, "round and round", []impl.Cell{pairCell(numVal(1), pairVal(0))}, pairVal(0))
	wantNoList(t, "round and round", []impl.Cell{pairCell(numVal(1), pairVal(1)), pairCell(numVal(1), pairVal(0))}, pairVal(0))
	wantNoList(t, "a later one", []impl.Cell{pairCell(numVal(1), pairVal(1)), pairCell(numVal(1), nilVal())}, pairVal(0))
}

// modelList is a list by its first value and its rest.
func modelList(h []impl.Cell, v impl.Value) ([]impl.Value, bool) {
	switch v.Kind {
	case impl.VaNil:
		return nil, true
	case impl.VaPair:
		rest, ok := modelList(h, h[v.N].Vals[1])
		return append(vals(h[v.N].Vals[0]), rest...), ok
	}
	return nil, false
}

func TestListsByChance(t *testing.T) {
	t.Parallel()
	r := rand.New(rand.NewSource(142))
	counts := map[string]int{}
	type given struct{ Heap []impl.Cell }
	for i := range 400 {
		h := heapByChance(r, i%120)
		for k := range h {
			// more of them end as lists do
			if c := &h[k]; c.Kind == impl.CePair && c.Vals[1].Kind < impl.VaPair && r.Intn(3) > 0 {
				c.Vals[1] = nilVal()
			}
		}
		roomy := roomyOf(given{h})
		before := wholeOf(roomy)
		for k := range h {
			v := impl.Value{Kind: h[k].Kind + impl.VaPair - impl.CePair, N: k}
			want, ok := modelList(h, v)
			if !ok {
				want = nil
			}
			all, is := impl.AsList(roomy.Heap, v)
			if is != ok || !alike(all, want) {
				t.Fatalf("AsList(%s, %v) = %v, %v; want %v, %v", shown(h), v, all, is, want, ok)
			}
			if !shareNone([]any{roomy}, []any{all}) {
				t.Fatalf("AsList of %v shares memory", v)
			}
			counts[fmt.Sprint(ok, " ", min(len(want), 3))]++
		}
		if !alike(wholeOf(roomy), before) {
			t.Fatal("what is handed in is changed")
		}
	}
	for _, sort := range []string{"false 0", "true 1", "true 2", "true 3"} {
		if counts[sort] < 50 {
			t.Error("one sort was hardly there: ", sort, counts)
		}
	}
}
