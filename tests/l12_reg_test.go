package tests

import (
	"fmt"
	"math/rand"
	"slices"
	"strings"
	"testing"

	"loop.example/g00765/impl"
)

// sources are written as their names, each with a : and what it imports, where it does.
func sources(text string) []impl.Src {
	var l []impl.Src
	for _, word := range names(text) {
		name, imports, some := strings.Cut(word, ":")
		s := impl.Src{Name: name}
		if some {
			s.Imports = strings.Split(imports, ",")
		}
		l = append(l, s)
	}
	return l
}

func wantOrderOf(t *testing.T, l []impl.Src, want []string) {
	t.Helper()
	if order, ok := impl.Order(l); !ok || !slices.Equal(order, want) {
		t.Errorf("Order(%s) = %v, %v; want %v", shown(l), order, ok, want)
	}
}

func wantNoOrderOf(t *testing.T, l []impl.Src) {
	t.Helper()
	if order, ok := impl.Order(l); ok || len(order) != 0 {
		t.Errorf("Order(%s) = %v, %v; want nothing and false", shown(l), order, ok)
	}
}

func wantNeedsOf(t *testing.T, l []impl.Src, name string, want []string) {
	t.Helper()
	if needs := impl.Needs(l, name); !slices.Equal(needs, want) {
		t.Errorf("Needs(%s, %q) = %q; want %q", shown(l), name, needs, want)
	}
}

func wantNeededOf(t *testing.T, l []impl.Src, name string, want []string) {
	t.Helper()
	if needed := impl.Needed(l, name); !slices.Equal(needed, want) {
		t.Errorf("Needed(%s, %q) = %q; want %q", shown(l), name, needed, want)
	}
}

func wantOrder(t *testing.T, text, want string) {
	t.Helper()
	wantOrderOf(t, sources(text), names(want))
}

func wantNoOrder(t *testing.T, texts ...string) {
	t.Helper()
	for _, text := range texts {
		wantNoOrderOf(t, sources(text))
	}
}

func wantNeeds(t *testing.T, text, name, want string) {
	t.Helper()
	wantNeedsOf(t, sources(text), name, names(want))
}

func wantNeeded(t *testing.T, text, name, want string) {
	t.Helper()
	wantNeededOf(t, sources(text), name, names(want))
}

func TestOrderOfNone(t *testing.T) {
	wantOrderOf(t, nil, nil)
	wantOrderOf(t, []impl.Src{}, nil)
	for _, name := range []string{"", "aa", "if", "%t"} {
		wantNeedsOf(t, nil, name, nil)
		wantNeededOf(t, nil, name, nil)
	}
}

func TestOrderOfOneAlone(t *testing.T) {
	wantOrder(t, "aa", "aa")
	wantNeeds(t, "aa", "aa", "")
	wantNeeded(t, "aa", "aa", "")
	whole := wholeSrc(t)
	whole.Imports = nil
	wantOrderOf(t, []impl.Src{whole}, names("aa"))
}

func TestOrderOfChains(t *testing.T) {
	wantOrder(t, "aa bb:aa", "aa bb")
	wantOrder(t, "aa:bb bb", "bb aa")
	wantOrder(t, "aa bb:aa cc:bb dd:cc", "aa bb cc dd")
	wantOrder(t, "aa:bb bb:cc cc:dd dd", "dd cc bb aa")
	wantOrder(t, "cc:aa bb:cc dd:bb aa", "aa cc bb dd")
	const chain = "aa:bb bb:cc cc:dd dd"
	wantNeeds(t, chain, "aa", "bb cc dd")
	wantNeeds(t, chain, "bb", "cc dd")
	wantNeeds(t, chain, "cc", "dd")
	wantNeeds(t, chain, "dd", "")
	wantNeeded(t, chain, "aa", "")
	wantNeeded(t, chain, "bb", "aa")
	wantNeeded(t, chain, "cc", "aa bb")
	wantNeeded(t, chain, "dd", "aa bb cc")
}

func TestTwoThatNeedTheSameOne(t *testing.T) {
	const both = "dd:bb,cc cc:aa bb:aa aa"
	wantOrder(t, both, "aa bb cc dd")
	wantNeeds(t, both, "dd", "aa bb cc")
	wantNeeds(t, both, "cc", "aa")
	wantNeeds(t, both, "bb", "aa")
	wantNeeds(t, both, "aa", "")
	wantNeeded(t, both, "aa", "bb cc dd")
	wantNeeded(t, both, "bb", "dd")
	wantNeeded(t, both, "cc", "dd")
	wantNeeded(t, both, "dd", "")
	// what is needed by two ways, a short one and a long one, is there once
	wantOrder(t, "aa:bb,dd bb:cc cc:dd dd", "dd cc bb aa")
	wantNeeds(t, "aa:bb,dd bb:cc cc:dd dd", "aa", "bb cc dd")
	wantNeeded(t, "aa:bb,dd bb:cc cc:dd dd", "dd", "aa bb cc")
}

func TestSeveralThatNobodyNeeds(t *testing.T) {
	wantOrder(t, "dd bb aa cc", "aa bb cc dd")
	wantOrder(t, "dd:bb aa:bb cc bb", "bb aa cc dd")
	wantNeeds(t, "dd:bb aa:bb cc bb", "cc", "")
	wantNeeded(t, "dd:bb aa:bb cc bb", "cc", "")
	wantNeeded(t, "dd:bb aa:bb cc bb", "bb", "aa dd")
}

// The first one that can come next is asked for anew each time: one that could not
// come at first comes ahead of what could all along.
func TestTheFirstThatCanComeNext(t *testing.T) {
	wantOrder(t, "aa:cc bb cc dd", "bb cc aa dd")
	wantOrder(t, "aa:zz bb zz", "bb zz aa")
	wantOrder(t, "aa:mm bb:aa cc mm zz", "cc mm aa bb zz")
	wantOrder(t, "aa:mm bb:zz cc mm zz", "cc mm aa zz bb")
	wantOrder(t, "aa:bb,zz bb:yy cc:yy yy zz", "yy bb cc zz aa")
	wantOrder(t, "ee dd:ee cc:dd bb:cc aa:bb ff:aa", "ee dd cc bb aa ff")
	// row by row it would be another: bb cc aa
	wantOrder(t, "aa:bb bb cc", "bb aa cc")
}

// eachOrderOf goes through all orders of the sources.
func eachOrderOf(text string, f func(l []impl.Src)) {
	eachOrder(names(text), func(l []string) { f(sources(strings.Join(l, " "))) })
}

func TestInWhichOrderTheyAreHandedIn(t *testing.T) {
	for _, c := range [][4]string{
		{"aa bb cc dd ee", "aa bb cc dd ee", "", ""},
		{"aa:cc bb cc dd ee:aa", "bb cc aa dd ee", "", "aa ee"},
		{"aa:bb,cc,dd bb:ee cc:ee dd:ee ee", "ee bb cc dd aa", "ee", "aa"},
		{"aa bb:aa cc:aa,bb dd:aa,bb,cc ee:aa,bb,cc,dd", "aa bb cc dd ee", "aa bb", "dd ee"},
		{"aa:bb,cc,dd,ee bb:cc,dd,ee cc:dd,ee dd:ee ee", "ee dd cc bb aa", "dd ee", "aa bb"},
		{"ee:bb dd:bb bb cc:ee aa:ee", "bb dd ee aa cc", "bb ee", ""},
	} {
		eachOrderOf(c[0], func(l []impl.Src) {
			wantOrderOf(t, l, names(c[1]))
			wantNeedsOf(t, l, "cc", names(c[2]))
			wantNeededOf(t, l, "cc", names(c[3]))
		})
	}
	for _, text := range []string{"aa:bb bb:cc cc:aa dd ee", "aa:bb bb:aa cc dd:cc ee:dd", "aa bb cc dd ee:ff", "aa bb cc dd aa"} {
		eachOrderOf(text, func(l []impl.Src) { wantNoOrderOf(t, l) })
	}
}

// The order in which Imports are given counts for nothing.
func TestImportsInAnyOrder(t *testing.T) {
	eachOrder(names("bb cc dd ee"), func(imports []string) {
		l := sources("aa bb:ee cc dd:cc ee")
		l[0].Imports = imports
		wantOrderOf(t, l, names("cc dd ee bb aa"))
		wantNeedsOf(t, l, "aa", names("bb cc dd ee"))
		wantNeededOf(t, l, "cc", names("aa dd"))
	})
}

// Names are compared byte by byte, and a beginning is less.
func TestNamesByTheirBytes(t *testing.T) {
	wantOrder(t, "abc ab a b aa a1 ab1", "a a1 aa ab ab1 abc b")
	wantOrder(t, "z _ ! -> -- ? / x9 x10 x1 %t", "! %t -- -> / ? _ x1 x10 x9 z")
	wantOrder(t, "a:abc ab:a abc", "abc a ab")
	wantOrder(t, "ab abc:ab a:abc b", "ab abc a b")
	wantNeeds(t, "a:abc,ab,a1 ab abc:b,ab1 a1 b ab1", "a", "a1 ab ab1 abc b")
	wantNeeded(t, "x:z x10:z x9:z x1:x9 z _:x ?:z", "z", "? _ x x1 x10 x9")
	long := strings.Repeat("a", impl.MaxSym)
	wantOrder(t, long+" "+long[1:]+":"+long+" "+long[2:], long[2:]+" "+long+" "+long[1:])
	wantNeeds(t, long+" "+long[1:]+":"+long, long[1:], long)
	wantNeeds(t, long+" "+long[1:]+":"+long, long, "")
	wantNeeded(t, long+" "+long[1:]+":"+long, long, long[1:])
}

// A name that only begins like one, or goes on behind it, is another.
func TestOneOfThatNameIsNotThere(t *testing.T) {
	const two = "aa:bb bb"
	for _, name := range []string{"", "a", "aaa", "b", "bbb", "AA", "zz", "if", "aa ", " aa", "aa,bb", "%t", "aa\x00", strings.Repeat("aa", 99)} {
		wantNeeds(t, two, name, "")
		wantNeeded(t, two, name, "")
	}
	for _, text := range []string{"aa:b bb", "aa:bbb bb", "aa:a bb", "aa:bb bbb b", "a:aa aaa"} {
		wantNoOrder(t, text)
	}
	wantNeeds(t, "a:b ab:bc b bc", "a", "b")
	wantNeeds(t, "a:b ab:bc b bc", "ab", "bc")
	wantNeeded(t, "a:b ab:bc b bc", "b", "a")
	wantNeeded(t, "a:b ab:bc b bc", "bc", "ab")
}

// wrongSources are as others, but for one thing each: none of them is right.
func wrongSources(t *testing.T) map[string]impl.Src {
	wrong := map[string]impl.Src{}
	change := func(what string, f func(s *impl.Src)) {
		s := deepSrc(wholeSrc(t))
		s.Imports = names("bb cc")
		f(&s)
		wrong[what] = s
	}
	change("a Name that is none", func(s *impl.Src) { s.Name = "if" })
	change("no Name", func(s *impl.Src) { s.Name = "" })
	change("an Import that is no name", func(s *impl.Src) { s.Imports[1] = "car" })
	change("an Import twice", func(s *impl.Src) { s.Imports = names("bb cc bb") })
	change("itself as an Import", func(s *impl.Src) { s.Imports = names("bb aa") })
	change("an Export that is no Def", func(s *impl.Src) { s.Exports = append(s.Exports, "w") })
	change("an Export twice", func(s *impl.Src) { s.Exports = names("v v") })
	change("a Type twice", func(s *impl.Src) { s.Types[1] = s.Types[0] })
	change("a Size of 9", func(s *impl.Src) { s.Types[0].Size = 9 })
	change("a Size of -1", func(s *impl.Src) { s.Types[0].Size = -1 })
	change("a Def twice", func(s *impl.Src) { s.Defs[1] = s.Defs[0] })
	change("a Def that is no name", func(s *impl.Src) { s.Defs[2].Name = "7" })
	change("a Def without a program", func(s *impl.Src) { s.Defs[3].Prog = impl.Prog{} })
	change("a Conv of no Type", func(s *impl.Src) { s.Convs[0].Name = "qt" })
	change("a Conv twice", func(s *impl.Src) { s.Convs[1] = s.Convs[0] })
	change("a Conv of a wrong program", func(s *impl.Src) { s.Convs[1].Prog.Root++ })
	change("too many Types", func(s *impl.Src) {
		for _, name := range namesUpTo(8) {
			s.Types = append(s.Types, impl.Type{Name: name})
		}
	})
	change("too many Defs", func(s *impl.Src) {
		for _, name := range namesUpTo(30) {
			s.Defs = append(s.Defs, defOf(t, name, "1"))
		}
	})
	return wrong
}

func TestOrderOfSourcesThatAreNotRight(t *testing.T) {
	right := deepSrc(wholeSrc(t))
	right.Imports = names("bb cc")
	others := sources("dd:aa bb:cc cc")
	for at := range len(others) + 1 {
		wantOrderOf(t, slices.Insert(slices.Clone(others), at, right), names("cc bb aa dd"))
		for what, s := range wrongSources(t) {
			if order, ok := impl.Order(slices.Insert(slices.Clone(others), at, s)); ok || len(order) != 0 {
				t.Errorf("%s at %d: Order = %v, %v; want nothing and false", what, at, order, ok)
			}
		}
	}
	for what, s := range wrongSources(t) {
		s.Imports = slices.DeleteFunc(s.Imports, func(name string) bool { return name == "bb" || name == "cc" })
		if impl.SrcOk(s) {
			continue
		}
		if order, ok := impl.Order([]impl.Src{s}); ok || len(order) != 0 {
			t.Errorf("%s, alone: Order = %v, %v; want nothing and false", what, order, ok)
		}
	}
	wantNoOrderOf(t, []impl.Src{{}})
	wantNoOrder(t, "aa:", "aa bb:", "if", "aa if", "aa:if if", "aa: aa", "car", "7", "aa:bb,bb bb")
}

// A source has at most 30 Imports.
func TestOrderOfManyImports(t *testing.T) {
	all := namesUpTo(31)
	l := []impl.Src{{Name: "aa", Imports: all[:30]}}
	for _, name := range all {
		l = append(l, impl.Src{Name: name})
	}
	want := append(slices.Sorted(slices.Values(all)), "aa")
	wantOrderOf(t, l, want)
	wantNeedsOf(t, l, "aa", slices.Sorted(slices.Values(all[:30])))
	l[0].Imports = all
	wantNoOrderOf(t, l)
	wantNeedsOf(t, l, "aa", slices.Sorted(slices.Values(all)))
}

func TestTwoOfOneNameInOrder(t *testing.T) {
	wantNoOrder(t, "aa aa", "aa bb aa", "aa bb bb", "aa:bb bb aa", "aa:bb bb aa:bb", "bb aa:bb cc:aa aa", "aa aa aa")
	// not even where another one that is imported is not there
	wantNoOrder(t, "aa:bb aa:bb", "aa aa:bb", "aa aa bb:cc", "aa:cc aa:cc bb")
}

func TestImportsThatAreNotAmongThese(t *testing.T) {
	wantNoOrder(t, "aa:bb", "aa:bb bb:cc", "aa bb:cc", "aa bb:aa,cc", "aa bb cc:dd,aa", "aa:bb,cc bb:aa,cc cc:dd")
	// nor where as many are not there as import each other
	wantNoOrder(t, "aa:bb,yy bb:aa,zz", "aa:bb,zz bb:aa cc:yy", "aa:bb bb:cc cc:aa,xx dd:yy ee:zz")
	wantOrder(t, "aa:bb bb", "bb aa")
}

func TestRoundAndRound(t *testing.T) {
	wantNoOrder(t,
		"aa:bb bb:aa",
		"aa:bb bb:cc cc:aa",
		"aa:bb bb:cc cc:dd dd:aa",
		"aa bb:cc cc:bb",
		"aa bb:cc cc:bb dd",
		"aa bb:aa,cc cc:aa,bb dd:aa",
		"zz:yy yy:zz aa bb cc:bb",
		"aa:bb bb:cc cc:bb", // one that needs those, but they not it
		"aa bb:aa cc:bb,dd dd:cc ee:dd",
		"aa:bb bb:aa cc:dd dd:cc ee",
		"aa:aa", "aa bb:bb")
	wantOrder(t, "aa bb:aa,cc cc:aa", "aa cc bb")
}

// Needs and Needed tell of those that import each other what they tell of others:
// without the one that is asked for.
func TestNeedsRoundAndRound(t *testing.T) {
	const two = "aa:bb bb:aa"
	wantNeeds(t, two, "aa", "bb")
	wantNeeds(t, two, "bb", "aa")
	wantNeeded(t, two, "aa", "bb")
	wantNeeded(t, two, "bb", "aa")
	const ring = "cc:dd dd:ee ee:cc aa:cc bb:aa ff ee2:ff,ee"
	wantNeeds(t, ring, "cc", "dd ee")
	wantNeeds(t, ring, "dd", "cc ee")
	wantNeeds(t, ring, "ee", "cc dd")
	wantNeeds(t, ring, "aa", "cc dd ee")
	wantNeeds(t, ring, "bb", "aa cc dd ee")
	wantNeeds(t, ring, "ee2", "cc dd ee ff")
	wantNeeds(t, ring, "ff", "")
	wantNeeded(t, ring, "cc", "aa bb dd ee ee2")
	wantNeeded(t, ring, "ee", "aa bb cc dd ee2")
	wantNeeded(t, ring, "aa", "bb")
	wantNeeded(t, ring, "ff", "ee2")
	// two rings, one of which needs the other
	const rings = "aa:bb bb:aa,cc cc:dd dd:cc"
	wantNeeds(t, rings, "aa", "bb cc dd")
	wantNeeds(t, rings, "cc", "dd")
	wantNeeded(t, rings, "cc", "aa bb dd")
	wantNeeded(t, rings, "aa", "bb")
	wantNeeds(t, "aa:aa", "aa", "")
	wantNeeded(t, "aa:aa", "aa", "")
	wantNeeds(t, "aa:aa,bb bb", "aa", "bb")
	wantNeeded(t, "aa:aa bb:aa", "aa", "bb")
}

// The names that are imported are told, whether they are among these or not; of
// those that are not there nothing more can be told.
func TestNeedsOfWhatIsNotThere(t *testing.T) {
	wantNeeds(t, "aa:bb", "aa", "bb")
	wantNeeds(t, "aa:bb bb:zz,cc cc", "aa", "bb cc zz")
	wantNeeds(t, "aa:zz", "zz", "")
	wantNeeded(t, "aa:zz bb:aa", "zz", "aa bb")
	wantNeeded(t, "aa:zz bb:aa", "aa", "bb")
}

// Needs and Needed do not ask whether sources are right.
func TestNeedsOfSourcesThatAreNotRight(t *testing.T) {
	wantNeeds(t, "aa:bb,bb bb:car", "aa", "bb car")
	wantNeeded(t, "aa:bb,bb bb:car", "car", "aa bb")
	wantNeedsOf(t, sources("aa:,bb bb :cc cc"), "aa", []string{"", "bb", "cc"})
	wantNeededOf(t, sources("aa:,bb bb :cc cc"), "cc", []string{"", "aa"})
	// two of one Name: what one of them imports is imported by that Name
	wantNeeds(t, "aa:bb aa:cc bb cc:dd", "aa", "bb cc dd")
	wantNeeded(t, "aa:bb aa:cc bb cc:dd", "dd", "aa cc")
	wantNeeds(t, "aa aa:cc", "aa", "cc")
	wantNeeded(t, "aa aa:cc", "cc", "aa")
}

// modelOrder says it in the document's own words: again and again the first one of
// those that are not there yet and whose Imports are.
func modelOrder(l []impl.Src) ([]string, bool) {
	all := map[string]impl.Src{}
	for _, s := range l {
		if _, twice := all[s.Name]; twice || !rightSrc(s) {
			return nil, false
		}
		all[s.Name] = s
	}
	var order []string
	isThere := func(name string) bool { return slices.Contains(order, name) }
	for len(order) < len(l) {
		var can []string
		for name, s := range all {
			if !isThere(name) && !slices.ContainsFunc(s.Imports, func(i string) bool { return !isThere(i) }) {
				can = append(can, name)
			}
		}
		if len(can) == 0 {
			return nil, false
		}
		order = append(order, slices.Min(can))
	}
	return order, true
}

// modelNeeds adds what is imported until nothing comes any more.
func modelNeeds(l []impl.Src, name string) []string {
	all := map[string]bool{name: true}
	for before := 0; before < len(all); {
		before = len(all)
		for _, s := range l {
			if !all[s.Name] {
				continue
			}
			for _, i := range s.Imports {
				all[i] = true
			}
		}
	}
	var needs []string
	for i := range all {
		if i != name {
			needs = append(needs, i)
		}
	}
	slices.Sort(needs)
	return needs
}

// allNames are the Names of sources and of what they import, and one of nobody.
func allNames(l []impl.Src) []string {
	all := []string{"nobody"}
	for _, s := range l {
		all = append(append(all, s.Name), s.Imports...)
	}
	slices.Sort(all)
	return slices.Compact(all)
}

// wantTiesAsSaid asks for all that is promised of l, and tells whether it has an order.
func wantTiesAsSaid(t *testing.T, l []impl.Src) bool {
	t.Helper()
	want, ok := modelOrder(l)
	if ok {
		wantOrderOf(t, l, want)
	} else {
		wantNoOrderOf(t, l)
	}
	all := allNames(l)
	needed := map[string][]string{}
	for _, name := range all {
		needs := modelNeeds(l, name)
		wantNeedsOf(t, l, name, needs)
		for _, i := range needs {
			needed[i] = append(needed[i], name)
		}
	}
	for _, name := range all {
		wantNeededOf(t, l, name, needed[name])
	}
	return ok
}

// wantBehind asks for promise 12 itself, and not for one order of those that keep it.
func wantBehind(t *testing.T, l []impl.Src) {
	t.Helper()
	order, ok := impl.Order(l)
	if !ok || len(order) != len(l) {
		t.Fatalf("Order(%s) = %v, %v", shown(l), order, ok)
	}
	at := map[string]int{}
	for i, name := range order {
		at[name] = i
	}
	for _, s := range l {
		place, told := at[s.Name]
		if !told {
			t.Errorf("Order(%s) = %v: without %q", shown(l), order, s.Name)
		}
		for _, i := range s.Imports {
			if at[i] >= place {
				t.Errorf("Order(%s) = %v: %q is not behind %q", shown(l), order, s.Name, i)
			}
		}
		for _, i := range impl.Needs(l, s.Name) {
			if !slices.Contains(impl.Needed(l, i), s.Name) || at[i] >= place {
				t.Errorf("of %s: %q needs %q, but is not needed so", shown(l), s.Name, i)
			}
		}
		for _, i := range impl.Needed(l, s.Name) {
			if !slices.Contains(impl.Needs(l, i), s.Name) || at[i] <= place {
				t.Errorf("of %s: %q is needed by %q, which does not need it", shown(l), s.Name, i)
			}
		}
	}
}

// Of four there are 4096 ways to import each other: all of them.
func TestAllWaysToImportEachOther(t *testing.T) {
	four := names("b a ab c")
	counts := map[bool]int{}
	for ways := range 1 << 12 {
		var l []impl.Src
		for i, name := range four {
			s := impl.Src{Name: name}
			others := slices.Delete(slices.Clone(four), i, i+1)
			for k, other := range others {
				if ways>>(3*i+k)&1 == 1 {
					s.Imports = append(s.Imports, other)
				}
			}
			l = append(l, s)
		}
		ok := wantTiesAsSaid(t, l)
		if ok {
			wantBehind(t, l)
		}
		counts[ok]++
	}
	if counts[true] != 543 { // as many as there are without a ring, of four
		t.Error("with an order", counts)
	}
}

// tied are so many sources with Imports by chance, which lead back only where back is true.
func (m maker) tied(count int, back bool) []impl.Src {
	all := namesUpTo(count)
	m.r.Shuffle(count, func(i, k int) { all[i], all[k] = all[k], all[i] })
	most := 1 + m.r.Intn(5)
	var l []impl.Src
	for i, name := range all {
		s := impl.Src{Name: name}
		among := all[:i]
		if back {
			among = slices.Delete(slices.Clone(all), i, i+1)
		}
		for _, k := range m.r.Perm(len(among))[:min(m.r.Intn(most+1), len(among))] {
			s.Imports = append(s.Imports, among[k])
		}
		l = append(l, s)
	}
	m.r.Shuffle(count, func(i, k int) { l[i], l[k] = l[k], l[i] })
	return l
}

func TestTiesByChance(t *testing.T) {
	t.Parallel()
	m := maker{rand.New(rand.NewSource(121))}
	counts := map[bool]int{}
	for range 1500 {
		l := m.tied(m.r.Intn(20), false)
		if !wantTiesAsSaid(t, l) {
			t.Fatal("those that do not lead back have an order")
		}
		wantBehind(t, l)
		counts[wantTiesAsSaid(t, m.tied(1+m.r.Intn(8), true))]++
	}
	if counts[true] < 200 || counts[false] < 200 {
		t.Error("one sort was hardly there", counts)
	}
}

// spoilTies makes one thing of l another.
func (m maker) spoilTies(l []impl.Src) []impl.Src {
	at := m.r.Intn(len(l))
	switch name := m.pick("x0", "x1", "x2", "x9", "x10", "", "if", "zz"); m.r.Intn(6) {
	case 0:
		l[at].Name = name
	case 1:
		l[at].Imports = append(l[at].Imports, name)
	case 2:
		l = append(l, l[at])
	case 3:
		return slices.Delete(l, at, at+1)
	case 4:
		l[at].Exports = append(l[at].Exports, name)
	case 5:
		m.spoilSrc(&l[at])
	}
	return l
}

func TestSpoiltTiesByChance(t *testing.T) {
	m := maker{rand.New(rand.NewSource(122))}
	counts := map[bool]int{}
	for range 3000 {
		counts[wantTiesAsSaid(t, m.spoilTies(m.tied(1+m.r.Intn(12), false)))]++
	}
	if counts[true] < 300 || counts[false] < 300 {
		t.Error("one sort was hardly there", counts)
	}
}

func backwards(l []string) []string {
	l = slices.Clone(l)
	slices.Reverse(l)
	return l
}

// How many there may be is nowhere said: more than a word has bits, too.
func TestMoreThanAWordHasBits(t *testing.T) {
	m := maker{rand.New(rand.NewSource(123))}
	for _, count := range []int{31, 32, 33, 63, 64, 65, 66, 127, 128, 129, 200} {
		wantTiesAsSaid(t, m.tied(count, false))
		wantTiesAsSaid(t, m.tied(count, true))
		// in a chain each needs all that stand behind it
		all := slices.Sorted(slices.Values(namesUpTo(count)))
		for _, chain := range [][]string{all, backwards(all)} {
			var l []impl.Src
			for i, name := range chain {
				s := impl.Src{Name: name}
				if i > 0 {
					s.Imports = []string{chain[i-1]}
				}
				l = append(l, s)
			}
			wantOrderOf(t, l, chain)
			wantNeedsOf(t, l, chain[count-1], slices.Sorted(slices.Values(chain[:count-1])))
			wantNeededOf(t, l, chain[0], slices.Sorted(slices.Values(chain[1:])))
			l[0].Imports = []string{chain[count-1]}
			others := slices.DeleteFunc(slices.Clone(all), func(s string) bool { return s == chain[7] })
			wantNoOrderOf(t, l)
			wantNeedsOf(t, l, chain[7], others)
			wantNeededOf(t, l, chain[7], others)
		}
	}
}

// Many at once are answered soon: no way is gone twice.
func TestManySources(t *testing.T) {
	t.Parallel()
	const count = 20000
	var l []impl.Src
	var want []string
	for i := range count {
		name := fmt.Sprintf("x%05d", i)
		s := impl.Src{Name: name}
		for k := max(0, i-30); k < i; k++ {
			s.Imports = append(s.Imports, want[k])
		}
		l, want = append(l, s), append(want, name)
	}
	slices.Reverse(l)
	wantOrderOf(t, l, want)
	wantNeedsOf(t, l, want[count-1], want[:count-1])
	wantNeededOf(t, l, want[0], want[1:])
	l[count-1].Imports = []string{want[count-1]}
	wantNoOrderOf(t, l)
	wantNeedsOf(t, l, want[0], want[1:])
}

// tiesOfAllSorts are right ones and wrong ones, with all that a source may have.
func tiesOfAllSorts(t *testing.T) [][]impl.Src {
	m := maker{rand.New(rand.NewSource(124))}
	whole := deepSrc(wholeSrc(t))
	all := [][]impl.Src{nil, append(sources("bb cc:bb dd ee:aa"), whole), sources("aa:bb bb:aa cc"), sources("aa:zz"), sources("aa aa"), {whole, {}}}
	for range 60 {
		all = append(all, m.tied(m.r.Intn(9), false), m.tied(1+m.r.Intn(9), true), m.spoilTies(m.tied(1+m.r.Intn(9), false)))
	}
	return all
}

func TestTiesAreLeftAsTheyAre(t *testing.T) {
	for _, l := range tiesOfAllSorts(t) {
		roomy := roomyOf(l)
		before := wholeOf(roomy)
		order, ok := impl.Order(roomy)
		// what stands in the spare room is not looked at
		if want, wantOk := modelOrder(l); ok != wantOk || !slices.Equal(order, want) {
			t.Errorf("Order(%s) = %v, %v with room behind; want %v, %v", shown(l), order, ok, want, wantOk)
		}
		for _, name := range allNames(l) {
			wantNeedsOf(t, roomy, name, modelNeeds(l, name))
			wantNeededOf(t, roomy, name, impl.Needed(l, name))
		}
		if !alike(wholeOf(roomy), before) {
			t.Errorf("what is handed in is changed: %s", shown(l))
		}
	}
}

func TestTiesAnswerNewMemory(t *testing.T) {
	told := 0
	for _, l := range tiesOfAllSorts(t) {
		order, ok := impl.Order(l)
		if !shareNone([]any{l}, []any{order}) {
			t.Errorf("Order(%s) shares memory with what is handed in", shown(l))
		}
		for _, name := range allNames(l) {
			name = strings.Clone(name)
			needs, needed := impl.Needs(l, name), impl.Needed(l, name)
			if !shareNone([]any{l, name}, []any{order, needs, needed}) {
				t.Errorf("Needs or Needed of %s and %q shares memory", shown(l), name)
			}
			told += len(needs) + len(needed)
			for _, answer := range [][]string{needs, needed} {
				for i := range answer[:cap(answer)] {
					answer[:cap(answer)][i] = "spare"
				}
			}
			wantNeedsOf(t, l, name, modelNeeds(l, name))
		}
		for i := range order {
			order[i] = "spare"
		}
		if want, _ := modelOrder(l); ok {
			wantOrderOf(t, l, want)
		}
	}
	if told < 500 {
		t.Error("hardly one was told", told)
	}
}

// Nothing is kept: one list changes nothing of what is told of another.
func TestTiesKeepNothing(t *testing.T) {
	wantAgain(t, tiesOfAllSorts(t), func(l []impl.Src) string {
		order, ok := impl.Order(l)
		told := fmt.Sprint(order, ok)
		for _, name := range allNames(l) {
			told += fmt.Sprint(impl.Needs(l, name), impl.Needed(l, name))
		}
		return told
	})
}
