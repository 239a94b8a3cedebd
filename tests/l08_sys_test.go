package tests

import (
	"fmt"
	"math"
	"math/rand"
	"reflect"
	"slices"
	"strings"
	"testing"
	"unsafe"

	"loop.example/g00765/impl"
)

func link(name string, inst int, at string) impl.Link {
	return impl.Link{Name: name, Inst: inst, At: at}
}

func wantSys(t *testing.T, what string, y impl.Sys, want bool) {
	t.Helper()
	if ok := impl.SysOk(y); ok != want {
		t.Errorf("%s: SysOk = %v; want %v: %.400s", what, ok, want, fmt.Sprintf("%+v", y))
	}
	size := 0
	if want {
		size = len(y.Heap) + len(y.Insts) + len(y.Units)
	}
	if n := impl.Size(y); n != size {
		t.Errorf("%s: Size = %d; want %d", what, n, size)
	}
	if !want {
		wantNoValues(t, what, y)
	}
}

// wantNoValues asks for each name that stands anywhere, of each Inst and of none.
func wantNoValues(t *testing.T, what string, y impl.Sys) {
	t.Helper()
	for home := -1; home <= min(len(y.Insts), 20); home++ {
		for _, in := range y.Insts[:min(len(y.Insts), 20)] {
			for _, name := range in.Names[:min(len(in.Names), 4)] {
				wantUnknown(t, what, y, home, name)
			}
			for _, l := range in.Links[:min(len(in.Links), 4)] {
				wantUnknown(t, what, y, home, l.Name)
				wantUnknown(t, what, y, home, l.At)
			}
		}
	}
}

func wantKnown(t *testing.T, what string, y impl.Sys, home int, name string, want impl.Value) {
	t.Helper()
	if v, is := impl.Lookup(y, home, name); v != want || !is {
		t.Errorf("%s: Lookup of %q at %d = %+v, %v; want %+v, true", what, name, home, v, is, want)
	}
}

func wantUnknown(t *testing.T, what string, y impl.Sys, home int, name string) {
	t.Helper()
	if v, is := impl.Lookup(y, home, name); v != (impl.Value{}) || is {
		t.Errorf("%s: Lookup of %q at %d = %+v, %v; want VaNone, false", what, name, home, v, is)
	}
}

// someUnits are at home in Insts 0, 1 and 2: node 1 of unit 0, 2 of unit 1, and 0 of none is a NdLam.
func someUnits() []impl.Unit {
	return []impl.Unit{
		{Home: 0, Prog: program(variable("x"), binding(0, "x"))},
		{Home: 1, Prog: program(variable("v"), variable("w"), binding(0, "v"), sequence(1, 2))},
		{Home: 2, Prog: program(impl.Node{Kind: impl.NdNum, N: 7})},
	}
}

// someSys is right and has something in each of its parts: pairs 0 and 1, functions 2 and 3, records 4 and 5;
// the session and three libraries, two of one name and version.
func someSys() impl.Sys {
	h := someHeap()
	h[2].A, h[2].B = 0, 1
	h[3].A, h[3].B = 1, 2
	aa := impl.Inst{
		Lib: "aa", Ver: 1, Names: names("v u p"), Vals: vals(numVal(4), impl.Value{}, pairVal(1)),
		Types: []impl.Type{{Name: "pt", Size: 2}, {Name: "v", Size: 0}},
	}
	bb := impl.Inst{
		Lib: "bb", Ver: 1000, Names: names("v f r"), Vals: vals(symVal("five"), fnVal(3), recVal(5)),
		Links: []impl.Link{link("a", 1, "v"), link("p", 1, "p"), link("b", 2, "v")},
	}
	again := impl.Inst{Lib: "aa", Ver: 1, Names: names("v"), Vals: vals(numVal(6))}
	session := impl.Inst{
		Names: names("x g z"), Vals: vals(nilVal(), fnVal(2), impl.Value{}),
		Links: []impl.Link{
			link("v", 1, "v"), link("w", 2, "v"), link("u", 1, "u"), link("p", 1, "p"), link("no", 1, "no"), link("a", 2, "a"), link("me", 0, "x"), link("self", 0, "self"), link("y", 3, "v"),
			link("mz", 0, "z"), link("none", 0, "v"),
		},
		Types: []impl.Type{{Name: "q", Size: 8}},
	}
	return impl.Sys{Heap: h, Insts: []impl.Inst{session, aa, bb, again}, Units: someUnits(), Out: []string{"", "text", "\x00\xff\n"}}
}

// deepSys is y once more, field by field, with no list of it shared.
func deepSys(y impl.Sys) impl.Sys {
	z := impl.Sys{Heap: deepHeap(y.Heap), Insts: slices.Clone(y.Insts), Units: slices.Clone(y.Units), Out: slices.Clone(y.Out)}
	for i := range z.Insts {
		in := &z.Insts[i]
		in.Names, in.Vals, in.Links, in.Types = slices.Clone(in.Names), slices.Clone(in.Vals), slices.Clone(in.Links), slices.Clone(in.Types)
	}
	for i := range z.Units {
		z.Units[i].Prog = deepProg(z.Units[i].Prog)
	}
	return z
}

func deepProg(p impl.Prog) impl.Prog {
	p.Nodes = slices.Clone(p.Nodes)
	for k := range p.Nodes {
		p.Nodes[k].Names, p.Nodes[k].Args = slices.Clone(p.Nodes[k].Names), slices.Clone(p.Nodes[k].Args)
	}
	return p
}

// changed asks whether someSys is right with one thing in it another.
func changed(t *testing.T, what string, want bool, change func(y *impl.Sys)) {
	t.Helper()
	y := someSys()
	change(&y)
	wantSys(t, what, y, want)
}

func TestConstantsOfSystems(t *testing.T) {
	all := []int{impl.MaxInsts, impl.MaxUnits, impl.MaxOut}
	if !slices.Equal(all, []int{12, 60, 40}) {
		t.Error(all)
	}
}

func TestNewSys(t *testing.T) {
	y := impl.NewSys()
	wantSys(t, "new", y, true)
	if n := impl.Size(y); n != 1 {
		t.Error("Size of a new system is", n)
	}
	if len(y.Heap)+len(y.Units)+len(y.Out) != 0 || len(y.Insts) != 1 {
		t.Fatalf("a new system has %+v", y)
	}
	in := y.Insts[0]
	if in.Lib != "" || in.Ver != 0 || len(in.Names)+len(in.Vals)+len(in.Links)+len(in.Types) != 0 {
		t.Errorf("a new session has %+v", in)
	}
	for _, name := range []string{"x", "", "car", "%t"} {
		wantUnknown(t, "new", y, 0, name)
	}
}

// What is told is new memory: what is written into one new system is not in another.
func TestNewSysIsNewEachTime(t *testing.T) {
	one, two := impl.NewSys(), impl.NewSys()
	one.Insts[0] = impl.Inst{Lib: "q", Ver: 7, Names: names("x"), Vals: vals(numVal(1))}
	for i := range one.Insts[:cap(one.Insts)] {
		one.Insts[:cap(one.Insts)][i].Lib = "other"
	}
	one.Out = append(one.Out, "text")
	wantSys(t, "written over", one, false)
	wantSys(t, "beside it", two, true)
	wantSys(t, "behind it", impl.NewSys(), true)
	if !reflect.DeepEqual(two, impl.NewSys()) {
		t.Error("two new systems differ")
	}
}

func TestSysOkOfRightSystems(t *testing.T) {
	wantSys(t, "some", someSys(), true)
	if n := impl.Size(someSys()); n != 6+4+3 {
		t.Error("Size is", n)
	}
	session := impl.Inst{}
	for what, y := range map[string]impl.Sys{
		"the session alone":    {Insts: []impl.Inst{session}},
		"empty lists":          {Heap: []impl.Cell{}, Insts: []impl.Inst{{Names: []string{}, Vals: vals(), Links: []impl.Link{}, Types: []impl.Type{}}}, Units: []impl.Unit{}, Out: []string{}},
		"a heap":               {Heap: []impl.Cell{pairCell(nilVal(), nilVal()), recCell("q", 0)}, Insts: []impl.Inst{session}},
		"units":                {Insts: []impl.Inst{session}, Units: slices.Repeat([]impl.Unit{{Prog: program(variable("q"))}}, 2)},
		"out":                  {Insts: []impl.Inst{session}, Out: []string{"", ""}},
		"a link to itself":     {Insts: []impl.Inst{{Links: []impl.Link{link("x", 0, "x")}}}},
		"links at one place":   {Insts: []impl.Inst{{Links: []impl.Link{link("x", 0, "q"), link("y", 0, "q")}}}},
		"an Inst round":        {Insts: []impl.Inst{{Links: []impl.Link{link("x", 1, "x")}}, {Lib: "a", Ver: 1, Links: []impl.Link{link("x", 0, "x")}}}},
		"no value at all":      {Insts: []impl.Inst{{Names: names("x y"), Vals: make([]impl.Value, 2)}}},
		"the hidden name":      {Insts: []impl.Inst{{Names: names("%t"), Vals: vals(nilVal())}, {Lib: "%t", Ver: 1, Links: []impl.Link{link("%t", 0, "%t")}, Types: []impl.Type{{Name: "%t"}}}}},
		"a type of every name": {Insts: []impl.Inst{{Names: names("x"), Vals: vals(nilVal()), Links: []impl.Link{link("y", 0, "x")}, Types: []impl.Type{{Name: "x"}, {Name: "y"}}}}},
		"one name in two":      {Insts: []impl.Inst{{Names: names("x"), Vals: vals(nilVal())}, {Lib: "x", Ver: 1, Names: names("x"), Vals: vals(nilVal())}}},
	} {
		wantSys(t, what, y, true)
	}
}

func TestHowManyInsts(t *testing.T) {
	for _, n := range []int{0, 1, 2, impl.MaxInsts - 1, impl.MaxInsts, impl.MaxInsts + 1, 2 * impl.MaxInsts, 1 << 16} {
		y := impl.Sys{Insts: slices.Repeat([]impl.Inst{{Lib: "aa", Ver: 1}}, n)}
		if n > 0 {
			y.Insts[0] = impl.Inst{}
		}
		wantSys(t, impl.Dec(n)+" Insts", y, n >= 1 && n <= impl.MaxInsts)
	}
	wantSys(t, "nothing", impl.Sys{}, false)
	wantSys(t, "nothing", impl.Sys{Insts: []impl.Inst{}}, false)
	full := impl.NewSys()
	wantSys(t, "what stands in the room behind it", impl.Sys{Insts: full.Insts[:0]}, false)
}

func TestSessionsAndLibraries(t *testing.T) {
	for _, at := range []int{0, 1, 3} {
		for _, ver := range []int{0, 1, 2, 999, 1000, 1001, -1, 1 << 32, 1<<32 + 1, math.MaxInt, math.MinInt} {
			right := at > 0 && ver >= 1 && ver <= 1000 || at == 0 && ver == 0
			changed(t, fmt.Sprint("Ver ", ver, " of Inst ", at), right, func(y *impl.Sys) { y.Insts[at].Ver = ver })
		}
	}
	all := slices.Concat([]string{"", "aa", "%t", "a1", "7", "-7", "#t", "x y", "aa ", "Aa", "%u", "\x00", "abcdefghijklmnop", "abcdefghijklmnopq", "library"}, words, primitives())
	for _, s := range all {
		changed(t, "a session "+s, s == "", func(y *impl.Sys) { y.Insts[0].Lib = s })
		changed(t, "a library "+s, readsAsName(s), func(y *impl.Sys) { y.Insts[1].Lib = s })
		changed(t, "the last library "+s, readsAsName(s), func(y *impl.Sys) { y.Insts[3].Lib = s })
	}
	changed(t, "the session stands second", false, func(y *impl.Sys) { y.Insts[0], y.Insts[1] = y.Insts[1], y.Insts[0] })
	changed(t, "a session stands second too", false, func(y *impl.Sys) { y.Insts[1] = impl.Inst{} })
}

// eachInst asks a change of each of the four Insts: that only the first or the last one is looked at would be seen.
func eachInst(t *testing.T, what string, want bool, change func(in *impl.Inst)) {
	t.Helper()
	for i := range someSys().Insts {
		changed(t, fmt.Sprint(what, " of Inst ", i), want, func(y *impl.Sys) { change(&y.Insts[i]) })
	}
}

// ownNames gives an Inst n names, numbers as their values, and nothing else.
func ownNames(in *impl.Inst, n int) {
	in.Names, in.Vals, in.Links = namesUpTo(n), nil, nil
	for i := range n {
		in.Vals = append(in.Vals, numVal(i))
	}
}

func linksUpTo(n int) []impl.Link {
	var all []impl.Link
	for _, s := range namesUpTo(n) {
		all = append(all, link("l"+s, 1, "v"))
	}
	return all
}

func TestHowManyNamesLinksAndTypes(t *testing.T) {
	for _, n := range []int{0, 1, 29, 30, 31, 32, 60, 61, 1 << 16} {
		eachInst(t, impl.Dec(n)+" Names", n <= 30, func(in *impl.Inst) { ownNames(in, n) })
		eachInst(t, impl.Dec(n)+" Links", n <= 30, func(in *impl.Inst) { in.Links = linksUpTo(n) })
		eachInst(t, impl.Dec(n)+" Names and 30 Links", n <= 30, func(in *impl.Inst) { ownNames(in, n); in.Links = linksUpTo(30) })
	}
	for _, n := range []int{0, 1, 7, 8, 9, 16, 30, 31, 1 << 16} {
		eachInst(t, impl.Dec(n)+" Types", n <= 8, func(in *impl.Inst) {
			in.Types = nil
			for _, s := range namesUpTo(n) {
				in.Types = append(in.Types, impl.Type{Name: s, Size: 1})
			}
		})
	}
	y := impl.NewSys()
	ownNames(&y.Insts[0], 30)
	for i, name := range y.Insts[0].Names {
		wantKnown(t, "30 Names", y, 0, name, numVal(i))
	}
	far := impl.Sys{Insts: []impl.Inst{{Links: linksUpTo(30)}, {Lib: "aa", Ver: 1, Names: names("v"), Vals: vals(numVal(4))}}}
	for _, l := range far.Insts[0].Links {
		wantKnown(t, "30 Links", far, 0, l.Name, numVal(4))
	}
}

func TestNamesOfInsts(t *testing.T) {
	for _, s := range slices.Concat([]string{"", "x", "%t", "7", "-1", "#t", "%u", "x y", "x ", "X", ".", "abcdefghijklmnop", "abcdefghijklmnopq"}, words, primitives()) {
		right := readsAsName(s)
		eachInst(t, "the name "+s, right, func(in *impl.Inst) { in.Names, in.Vals, in.Links = []string{s}, vals(nilVal()), nil })
		eachInst(t, "the last name "+s, right && s != "x", func(in *impl.Inst) { in.Names, in.Vals, in.Links = []string{"x", s}, vals(nilVal(), nilVal()), nil })
		eachInst(t, "the Link "+s, right, func(in *impl.Inst) { in.Names, in.Vals, in.Links = nil, nil, []impl.Link{link(s, 1, "v")} })
		eachInst(t, "the last Link "+s, right && s != "x", func(in *impl.Inst) {
			in.Names, in.Vals, in.Links = nil, nil, []impl.Link{link("x", 1, "v"), link(s, 1, "v")}
		})
		eachInst(t, "At "+s, right, func(in *impl.Inst) { in.Names, in.Vals, in.Links = nil, nil, []impl.Link{link("x", 1, s)} })
		eachInst(t, "At of the last one "+s, right, func(in *impl.Inst) {
			in.Names, in.Vals, in.Links = nil, nil, []impl.Link{link("x", 1, "v"), link("y", 1, s)}
		})
		eachInst(t, "the Type "+s, right, func(in *impl.Inst) { in.Types = []impl.Type{{Name: s}} })
		eachInst(t, "the last Type "+s, right && s != "x", func(in *impl.Inst) { in.Types = []impl.Type{{Name: "x"}, {Name: s}} })
	}
}

func TestNamesThatAreAlike(t *testing.T) {
	t.Parallel()
	for i := range 30 {
		for k := range 30 {
			changed(t, fmt.Sprint("Names ", i, " and ", k), i == k, func(y *impl.Sys) { ownNames(&y.Insts[2], 30); y.Insts[2].Names[i] = namesUpTo(30)[k] })
			changed(t, fmt.Sprint("Links ", i, " and ", k), i == k, func(y *impl.Sys) { y.Insts[2].Links = linksUpTo(30); y.Insts[2].Links[i].Name = linksUpTo(30)[k].Name })
			changed(t, fmt.Sprint("Link ", i, " and name ", k), false, func(y *impl.Sys) {
				ownNames(&y.Insts[2], 30)
				y.Insts[2].Links = linksUpTo(30)
				y.Insts[2].Links[i].Name = y.Insts[2].Names[k]
			})
		}
	}
	for i := range 8 {
		for k := range 8 {
			eachInst(t, fmt.Sprint("Types ", i, " and ", k), i == k, func(in *impl.Inst) {
				in.Types = nil
				for _, s := range namesUpTo(8) {
					in.Types = append(in.Types, impl.Type{Name: s})
				}
				in.Types[i].Name = namesUpTo(8)[k]
			})
		}
	}
	eachInst(t, "two Types of one name and another Size", false, func(in *impl.Inst) { in.Types = []impl.Type{{Name: "q", Size: 1}, {Name: "q", Size: 2}} })
	eachInst(t, "two Links of one name and another At", false, func(in *impl.Inst) { in.Links = []impl.Link{link("q", 1, "v"), link("q", 2, "f")} })
}

func TestValuesOfInsts(t *testing.T) {
	right, wrong := valsOfAllSorts()
	right = append(right, impl.Value{})
	wrong = slices.DeleteFunc(wrong, func(v impl.Value) bool { return v == impl.Value{} })
	for i, v := range slices.Concat(right, wrong) {
		want := i < len(right)
		eachInst(t, fmt.Sprintf("the first value %+v", v), want, func(in *impl.Inst) { in.Vals[0] = v })
		eachInst(t, fmt.Sprintf("the last value %+v", v), want, func(in *impl.Inst) { in.Vals[len(in.Vals)-1] = v })
	}
	eachInst(t, "a value too few", false, func(in *impl.Inst) { in.Vals = in.Vals[:len(in.Vals)-1] })
	eachInst(t, "a value too many", false, func(in *impl.Inst) { in.Vals = append(in.Vals, nilVal()) })
	eachInst(t, "a VaNone too many", false, func(in *impl.Inst) { in.Vals = append(in.Vals, impl.Value{}) })
	eachInst(t, "no values", false, func(in *impl.Inst) { in.Vals = nil })
	eachInst(t, "no names", false, func(in *impl.Inst) { in.Names = nil })
	eachInst(t, "a name too many", false, func(in *impl.Inst) { in.Names = append(in.Names, "more") })
	eachInst(t, "neither", true, func(in *impl.Inst) { in.Names, in.Vals = nil, nil })
	changed(t, "values of cells that are not there", false, func(y *impl.Sys) { y.Heap = nil })
}

func TestWhereLinksLead(t *testing.T) {
	for _, n := range []int{-2, -1, 0, 1, 2, 3, 4, 5, 11, 12, 1 << 32, 1<<32 + 1, math.MaxInt, math.MinInt} {
		want := n >= 0 && n < 4
		eachInst(t, "the first Link to "+impl.Dec(n), want, func(in *impl.Inst) { in.Links = []impl.Link{link("q", n, "v"), link("k", 0, "x")} })
		eachInst(t, "the last Link to "+impl.Dec(n), want, func(in *impl.Inst) { in.Links = []impl.Link{link("q", 0, "x"), link("k", n, "nobody")} })
	}
}

func TestSizesOfTypes(t *testing.T) {
	for _, n := range []int{-2, -1, 0, 1, 7, 8, 9, 10, 1 << 32, math.MaxInt, math.MinInt} {
		want := n >= 0 && n <= 8
		eachInst(t, "the first Size "+impl.Dec(n), want, func(in *impl.Inst) { in.Types = []impl.Type{{Name: "q", Size: n}, {Name: "k"}} })
		eachInst(t, "the last Size "+impl.Dec(n), want, func(in *impl.Inst) { in.Types = []impl.Type{{Name: "q"}, {Name: "k", Size: n}} })
	}
}

func TestUnitsOfSystems(t *testing.T) {
	one := impl.Unit{Prog: program(variable("q"))}
	for _, n := range []int{0, 1, impl.MaxUnits - 1, impl.MaxUnits, impl.MaxUnits + 1, 1 << 16} {
		wantSys(t, impl.Dec(n)+" units", impl.Sys{Insts: impl.NewSys().Insts, Units: slices.Repeat([]impl.Unit{one}, n)}, n <= impl.MaxUnits)
	}
	for _, home := range []int{-1, 0, 1, 3, 4, 5, 12, 1 << 32, math.MaxInt, math.MinInt} {
		for i := range 3 {
			changed(t, fmt.Sprint("home ", home, " of unit ", i), home >= 0 && home < 4, func(y *impl.Sys) { y.Units[i].Home = home })
		}
	}
	for _, p := range ofEachKind() {
		changed(t, "a unit of each kind", true, func(y *impl.Sys) { y.Units[2].Prog = p })
	}
	for what, p := range map[string]impl.Prog{
		"no program":   {},
		"another Root": {Nodes: program(variable("q")).Nodes, Root: 1},
		"no name":      program(variable("if")),
		"its own Arg":  program(binding(0)),
		"an odd kind":  program(impl.Node{Kind: 12}),
		"two roots":    program(variable("q"), variable("q")),
		"too many":     over(impl.Node{Kind: impl.NdSeq}, impl.MaxNodes),
		"twice an Arg": program(variable("q"), sequence(0, 0)),
		"many values":  over(impl.Node{Kind: impl.NdCall}, 10),
	} {
		changed(t, what, false, func(y *impl.Sys) { y.Units[2].Prog = p })
		changed(t, what+" ahead", false, func(y *impl.Sys) { y.Units = append([]impl.Unit{{Prog: p}}, y.Units...); y.Heap[2].A++; y.Heap[3].A++ })
	}
	changed(t, "as many nodes as there may be", true, func(y *impl.Sys) { y.Units[2].Prog = over(impl.Node{Kind: impl.NdSeq}, impl.MaxNodes-1) })
}

func TestFunctionsOfHeaps(t *testing.T) {
	units := someUnits()
	for a := -1; a <= len(units)+1; a++ {
		for b := -1; b <= 5; b++ {
			want := a >= 0 && a < len(units) && b >= 0 && b < len(units[a].Prog.Nodes) && units[a].Prog.Nodes[b].Kind == impl.NdLam
			for cell := 2; cell <= 3; cell++ {
				changed(t, fmt.Sprint("function ", cell, " is node ", b, " of unit ", a), want, func(y *impl.Sys) { y.Heap[cell].A, y.Heap[cell].B = a, b })
			}
		}
	}
	for _, n := range []int{1 << 32, 1<<32 + 1, math.MaxInt, math.MinInt} {
		changed(t, "a unit far off", false, func(y *impl.Sys) { y.Heap[2].A = n })
		changed(t, "a node far off", false, func(y *impl.Sys) { y.Heap[2].B = n })
	}
	for kind := impl.NdNum; kind <= impl.NdSeq; kind++ {
		for _, p := range ofEachKind() {
			if p.Nodes[p.Root].Kind == kind {
				changed(t, "a function of kind "+impl.Dec(kind), kind == impl.NdLam, func(y *impl.Sys) {
					y.Units[2].Prog = p
					y.Heap[2].A, y.Heap[2].B = 2, p.Root
				})
			}
		}
	}
	changed(t, "no units", false, func(y *impl.Sys) { y.Units = nil })
	// the numbers of a pair and of a record are no function's
	changed(t, "a record of version 1000", true, func(y *impl.Sys) { y.Heap[4].A = 1000 })
	// what a function closes over need not be what is free in it
	changed(t, "it closes over others", true, func(y *impl.Sys) { y.Heap[2].Names, y.Heap[2].Vals = names("k k"), vals(nilVal(), nilVal()) })
}

func TestHeapsOfSystems(t *testing.T) {
	for _, h := range badHeaps() {
		for i := range h {
			if h[i].Kind == impl.CeFn && i < 6 {
				h[i].A, h[i].B = someSys().Heap[i].A, someSys().Heap[i].B
			}
		}
		changed(t, "a heap that is not right", false, func(y *impl.Sys) { y.Heap = h })
	}
	for _, n := range []int{impl.MaxHeap - 1, impl.MaxHeap, impl.MaxHeap + 1} {
		changed(t, impl.Dec(n)+" cells", n <= impl.MaxHeap, func(y *impl.Sys) {
			y.Heap = append(y.Heap, slices.Repeat([]impl.Cell{pairCell(nilVal(), nilVal())}, n-len(y.Heap))...)
		})
	}
}

func TestOutOfSystems(t *testing.T) {
	for _, n := range []int{0, 1, impl.MaxOut - 1, impl.MaxOut, impl.MaxOut + 1, 1 << 16} {
		changed(t, impl.Dec(n)+" texts", n <= impl.MaxOut, func(y *impl.Sys) { y.Out = make([]string, n) })
	}
	for _, s := range []string{"", " ", "\n", "\x00", "\xff", "if", strings.Repeat("x", 1<<18)} {
		changed(t, "a text of any bytes", true, func(y *impl.Sys) { y.Out = []string{s, s} })
	}
}

func TestSizeCountsCellsInstsAndUnits(t *testing.T) {
	cell, unit := pairCell(nilVal(), nilVal()), impl.Unit{Prog: program(variable("q"))}
	for _, c := range [][4]int{{0, 1, 0, 1}, {1, 1, 0, 2}, {0, 2, 0, 2}, {0, 1, 1, 2}, {3, 4, 5, 12}, {impl.MaxHeap, impl.MaxInsts, impl.MaxUnits, 372}} {
		y := impl.Sys{Heap: slices.Repeat([]impl.Cell{cell}, c[0]), Insts: slices.Repeat([]impl.Inst{{Lib: "a", Ver: 1}}, c[1]), Units: slices.Repeat([]impl.Unit{unit}, c[2]), Out: []string{"a", "b"}}
		y.Insts[0] = impl.Inst{Names: names("x y"), Vals: vals(nilVal(), nilVal()), Links: []impl.Link{link("q", 0, "x")}, Types: []impl.Type{{Name: "q"}}}
		if n := impl.Size(y); n != c[3] {
			t.Errorf("Size of %v = %d; want %d", c[:3], n, c[3])
		}
	}
	if n := impl.Size(impl.Sys{}); n != 0 {
		t.Error("Size of nothing is", n)
	}
}

// Promise 8, in ordinary systems: a library's own value is told first, else that of its first Link.
func TestLookup(t *testing.T) {
	y := someSys()
	for _, c := range []struct {
		home int
		name string
		want impl.Value
	}{
		{0, "x", nilVal()}, {0, "g", fnVal(2)}, // its own
		{0, "v", numVal(4)}, {0, "w", symVal("five")}, {0, "p", pairVal(1)}, {0, "y", numVal(6)}, {0, "me", nilVal()}, // by a Link, to itself too
		{1, "v", numVal(4)}, {1, "p", pairVal(1)},
		{2, "v", symVal("five")}, {2, "f", fnVal(3)}, {2, "r", recVal(5)}, // its own, though the Inst of a Link has that name
		{2, "a", numVal(4)}, {2, "p", pairVal(1)}, {2, "b", symVal("five")},
		{3, "v", numVal(6)},
	} {
		wantKnown(t, "some", y, c.home, c.name, c.want)
	}
	for _, c := range []struct {
		home int
		name string
	}{
		{0, "z"}, {1, "u"}, // its own, without a value
		{0, "u"}, {0, "mz"}, // without a value behind a Link
		{0, "no"},             // the Inst of the Link has no such name
		{0, "a"}, {0, "none"}, // it has that name by a Link of its own alone
		{0, "self"},                                                // a Link to itself
		{0, "f"}, {0, "r"}, {1, "x"}, {1, "a"}, {3, "p"}, {2, "x"}, // names of others
		{0, "q"}, {1, "pt"}, {0, "pt"}, // types
		{0, "aa"}, {0, "bb"}, {1, "aa"}, // libraries
		{0, "five"}, {0, "text"}, {0, "nobody"},
	} {
		wantUnknown(t, "some", y, c.home, c.name)
	}
}

func TestLookupOfHomesThatAreNone(t *testing.T) {
	y := someSys()
	for _, home := range []int{-1, -2, 4, 5, 12, 13, 1 << 32, 1<<32 + 1, math.MaxInt, math.MinInt} {
		for _, name := range names("x g z v w u p a b f r self y nobody") {
			wantUnknown(t, "no such Inst", y, home, name)
		}
	}
	y.Insts = y.Insts[:1] // there is room behind it
	y.Insts[0].Links, y.Units = nil, y.Units[:1]
	y.Heap = y.Heap[:3]
	wantKnown(t, "one Inst", y, 0, "g", fnVal(2))
	wantUnknown(t, "behind it", y, 1, "v")
}

func TestLookupOfTextsThatAreNoNames(t *testing.T) {
	y := someSys()
	y.Insts[0].Names = append(y.Insts[0].Names, "%t")
	y.Insts[0].Vals = append(y.Insts[0].Vals, numVal(3))
	for _, s := range slices.Concat([]string{"", "7", "#t", "()", "x ", " x", "X", "x\x00", "xx", "%u", "\xff", strings.Repeat("x", 1000)}, words, primitives()) {
		for home := range y.Insts {
			wantUnknown(t, "no name", y, home, s)
		}
	}
	wantKnown(t, "the hidden name", y, 0, "%t", numVal(3))
	wantUnknown(t, "the hidden name of another", y, 1, "%t")
}

// ownAndFar is a system whose session has x as told, with two libraries that have it too.
func ownAndFar(own []impl.Value, links ...impl.Link) impl.Sys {
	session := impl.Inst{Names: names("x")[:len(own)], Vals: own, Links: links}
	first := impl.Inst{Lib: "aa", Ver: 1, Names: names("x y"), Vals: vals(numVal(10), numVal(11))}
	second := impl.Inst{Lib: "bb", Ver: 1, Names: names("y x"), Vals: vals(numVal(21), numVal(20)), Links: []impl.Link{link("k", 1, "x")}}
	return impl.Sys{Insts: []impl.Inst{session, first, second}}
}

func TestLookupTellsItsOwnFirst(t *testing.T) {
	y := ownAndFar(vals(numVal(1)), link("y", 2, "x"), link("k", 1, "x"))
	wantKnown(t, "both have it", y, 0, "x", numVal(1))
	wantKnown(t, "by a Link", y, 0, "k", numVal(10))
	wantKnown(t, "by a Link", y, 0, "y", numVal(20))
	wantKnown(t, "a library's own", y, 1, "x", numVal(10))
	wantKnown(t, "a library's own", y, 2, "x", numVal(20))
	wantKnown(t, "a library's Link", y, 2, "k", numVal(10))
	// its own has no value as yet: no Link stands in for it
	wantUnknown(t, "no value", ownAndFar(vals(impl.Value{}), link("y", 1, "x")), 0, "x")
	// the same name in both makes a system that is not right
	twice := ownAndFar(vals(numVal(1)), link("x", 1, "x"))
	wantSys(t, "its own and a Link", twice, false)
	wantUnknown(t, "its own and a Link", twice, 0, "x")
	wantUnknown(t, "its own and a Link", twice, 1, "x")
}

func TestLookupTellsTheFirstLink(t *testing.T) {
	for _, c := range []struct {
		links  []impl.Link
		k, l   int
		k1, l1 bool
	}{
		{[]impl.Link{link("k", 1, "x"), link("l", 2, "x")}, 10, 20, true, true},
		{[]impl.Link{link("l", 2, "x"), link("k", 1, "x")}, 10, 20, true, true},
		{[]impl.Link{link("k", 2, "x"), link("l", 1, "x")}, 20, 10, true, true},
		{[]impl.Link{link("k", 2, "y"), link("l", 2, "x")}, 21, 20, true, true},
		{[]impl.Link{link("k", 1, "x"), link("l", 1, "x")}, 10, 10, true, true},
		{[]impl.Link{link("k", 1, "nobody"), link("l", 1, "k")}, 0, 0, false, false},
		{[]impl.Link{link("k", 0, "l"), link("l", 1, "x")}, 0, 10, false, true},
		{[]impl.Link{link("l", 0, "k"), link("k", 1, "y")}, 11, 0, true, false},
		{[]impl.Link{link("k", 2, "k"), link("l", 0, "l")}, 0, 0, false, false},
	} {
		y := ownAndFar(nil, c.links...)
		wantSys(t, "two Links", y, true)
		for name, want := range map[string]struct {
			n  int
			is bool
		}{"k": {c.k, c.k1}, "l": {c.l, c.l1}} {
			if want.is {
				wantKnown(t, fmt.Sprint(c.links), y, 0, name, numVal(want.n))
			} else {
				wantUnknown(t, fmt.Sprint(c.links), y, 0, name)
			}
		}
	}
	for _, second := range []impl.Link{link("k", 2, "x"), link("k", 1, "x"), link("k", 0, "k")} {
		twice := ownAndFar(nil, link("k", 1, "x"), second)
		wantSys(t, "two Links of one name", twice, false)
		wantUnknown(t, "two Links of one name", twice, 0, "k")
	}
}

// A value is told as it stands, of each kind; #f and 0 and () are values as well.
func TestLookupTellsEachKind(t *testing.T) {
	y := someSys()
	for _, v := range oneOfEach() {
		y.Insts[1].Vals[0] = v
		wantKnown(t, "its own", y, 1, "v", v)
		wantKnown(t, "by a Link", y, 0, "v", v)
		wantKnown(t, "by a Link", y, 2, "a", v)
		wantKnown(t, "another", y, 3, "v", numVal(6))
	}
	y.Insts[1].Vals[0] = impl.Value{}
	wantSys(t, "no value", y, true)
	wantUnknown(t, "its own", y, 1, "v")
	wantUnknown(t, "by a Link", y, 0, "v")
	wantUnknown(t, "by a Link", y, 2, "a")
}

// rightSys says what a right system is in the document's own words; programs are asked by ProgOk.
func rightSys(y impl.Sys) bool {
	if len(y.Heap) > 300 || len(y.Insts) < 1 || len(y.Insts) > 12 || len(y.Units) > 60 || len(y.Out) > 40 {
		return false
	}
	for i, c := range y.Heap {
		if !rightCell(y.Heap, i) {
			return false
		}
		if c.Kind == impl.CeFn && (c.A >= len(y.Units) || c.B >= len(y.Units[c.A].Prog.Nodes) || y.Units[c.A].Prog.Nodes[c.B].Kind != impl.NdLam) {
			return false
		}
	}
	for i, in := range y.Insts {
		session := in.Lib == "" && in.Ver == 0
		library := readsAsName(in.Lib) && in.Ver >= 1 && in.Ver <= 1000
		if i == 0 && !session || i > 0 && !library || !rightInst(y, in) {
			return false
		}
	}
	return !slices.ContainsFunc(y.Units, func(u impl.Unit) bool {
		return u.Home < 0 || u.Home >= len(y.Insts) || !impl.ProgOk(u.Prog)
	})
}

func rightInst(y impl.Sys, in impl.Inst) bool {
	if len(in.Names) > 30 || len(in.Vals) != len(in.Names) || len(in.Links) > 30 || len(in.Types) > 8 {
		return false
	}
	seen, types := map[string]int{}, map[string]int{}
	for i, name := range in.Names {
		seen[name]++
		if v := in.Vals[i]; v != (impl.Value{}) && !rightVal(y.Heap, v) {
			return false
		}
	}
	for _, l := range in.Links {
		seen[l.Name]++
		if l.Inst < 0 || l.Inst >= len(y.Insts) || !readsAsName(l.At) {
			return false
		}
	}
	for _, typ := range in.Types {
		types[typ.Name]++
		if typ.Size < 0 || typ.Size > 8 {
			return false
		}
	}
	for _, counts := range []map[string]int{seen, types} {
		for name, n := range counts {
			if n > 1 || !readsAsName(name) {
				return false
			}
		}
	}
	return true
}

// lookedUp says what Lookup tells in the document's own words.
func lookedUp(y impl.Sys, right bool, home int, name string) (impl.Value, bool) {
	if !right || home < 0 || home >= len(y.Insts) {
		return impl.Value{}, false
	}
	in := y.Insts[home]
	if !slices.Contains(in.Names, name) {
		i := slices.IndexFunc(in.Links, func(l impl.Link) bool { return l.Name == name })
		if i < 0 {
			return impl.Value{}, false
		}
		in, name = y.Insts[in.Links[i].Inst], in.Links[i].At
	}
	i := slices.Index(in.Names, name)
	if i < 0 {
		return impl.Value{}, false
	}
	return in.Vals[i], in.Vals[i].Kind != impl.VaNone
}

// lambdas are the nodes of functions in the units, by unit and node.
func lambdas(units []impl.Unit) [][2]int {
	var all [][2]int
	for i, u := range units {
		for k, n := range u.Prog.Nodes {
			if n.Kind == impl.NdLam {
				all = append(all, [2]int{i, k})
			}
		}
	}
	return all
}

// sysByChance is right; its names are few, so that many Insts have the same.
func sysByChance(r *rand.Rand) impl.Sys {
	m := plantation{r}
	y := impl.Sys{Insts: make([]impl.Inst, 1+r.Intn(impl.MaxInsts)), Out: make([]string, r.Intn(4))}
	for range 1 + r.Intn(5) {
		y.Units = append(y.Units, impl.Unit{Home: r.Intn(len(y.Insts)), Prog: m.program(1 + r.Intn(12))})
	}
	y.Units = append(y.Units, impl.Unit{Prog: program(variable("x"), binding(0))})
	y.Heap = heapByChance(r, r.Intn(20))
	all := lambdas(y.Units)
	for i := range y.Heap {
		if y.Heap[i].Kind == impl.CeFn {
			at := all[r.Intn(len(all))]
			y.Heap[i].A, y.Heap[i].B = at[0], at[1]
		}
	}
	for i := range y.Insts {
		instByChance(r, y, i)
	}
	return y
}

func instByChance(r *rand.Rand, y impl.Sys, i int) {
	in := &y.Insts[i]
	if i > 0 {
		in.Lib, in.Ver = []string{"aa", "bb", "a"}[r.Intn(3)], 1+r.Intn(1000)
	}
	pool := names("a b c d e f g h")
	r.Shuffle(len(pool), func(i, k int) { pool[i], pool[k] = pool[k], pool[i] })
	own := r.Intn(6)
	in.Names = slices.Clone(pool[:own])
	for range own {
		v := []impl.Value{{}, numVal(r.Intn(1000)), symVal("a"), nilVal(), boolVal(0)}[r.Intn(5)]
		if len(y.Heap) > 0 && r.Intn(3) == 0 {
			at := r.Intn(len(y.Heap))
			v = impl.Value{Kind: y.Heap[at].Kind + impl.VaPair - impl.CePair, N: at}
		}
		in.Vals = append(in.Vals, v)
	}
	for _, name := range pool[own : own+r.Intn(len(pool)-own+1)] {
		in.Links = append(in.Links, link(name, r.Intn(len(y.Insts)), pool[r.Intn(len(pool))]))
	}
	for k := range r.Intn(4) {
		in.Types = append(in.Types, impl.Type{Name: pool[k], Size: r.Intn(9)})
	}
}

// wantAsSaid holds SysOk, Size and Lookup against the document's own words.
func wantAsSaid(t *testing.T, what string, y impl.Sys, counts map[string]int) {
	t.Helper()
	right := rightSys(y)
	wantSys(t, what, y, right)
	counts[fmt.Sprint("right ", right)]++
	for home := -1; home <= len(y.Insts); home++ {
		for _, name := range names("a b c d e f g h i") {
			want, known := lookedUp(y, right, home, name)
			if v, is := impl.Lookup(y, home, name); v != want || is != known {
				t.Errorf("%s: Lookup of %q at %d = %+v, %v; want %+v, %v in %.600s", what, name, home, v, is, want, known, fmt.Sprintf("%+v", y.Insts))
			}
			counts[fmt.Sprint("known ", known)]++
		}
	}
}

func TestSystemsByChance(t *testing.T) {
	t.Parallel()
	r := rand.New(rand.NewSource(88))
	counts := map[string]int{}
	for range 400 {
		wantAsSaid(t, "by chance", sysByChance(r), counts)
	}
	if counts["right false"] != 0 || counts["known true"] == 0 || counts["known false"] == 0 {
		t.Error("one sort was never there", counts)
	}
}

// spoil makes one thing in y another; whether it is right then is asked behind that.
func spoil(r *rand.Rand, y *impl.Sys) {
	odd := []int{-1, 0, 1, 2, 8, 9, 12, 1000, 1001}
	texts := []string{"", "a", "b", "if", "car", "%t", "7"}
	n, s := odd[r.Intn(len(odd))], texts[r.Intn(len(texts))]
	in := &y.Insts[r.Intn(len(y.Insts))]
	u := &y.Units[r.Intn(len(y.Units))]
	switch what := r.Intn(16); {
	case what == 0:
		in.Lib = s
	case what == 1:
		in.Ver = n
	case what == 2:
		in.Vals = append(in.Vals, numVal(n))
	case what == 3:
		in.Names = append(in.Names, s)
		in.Vals = append(in.Vals, numVal(n))
	case what == 4:
		in.Links = append(in.Links, link(s, r.Intn(len(y.Insts)), "a"))
	case what == 5:
		in.Links = append(in.Links, link("q", n, "a"))
	case what == 6:
		in.Links = append(in.Links, link("q", 0, s))
	case what == 7:
		in.Types = append(in.Types, impl.Type{Name: s, Size: 1})
	case what == 8:
		in.Types = append(in.Types, impl.Type{Name: "q", Size: n})
	case what == 9:
		u.Home = n
	case what == 10:
		u.Prog.Root += r.Intn(2)
	case what == 11:
		u.Prog.Nodes[r.Intn(len(u.Prog.Nodes))].S = s
	case what == 12 && len(y.Heap) > 0:
		y.Heap[r.Intn(len(y.Heap))].A = n
	case what == 13 && len(y.Heap) > 0:
		y.Heap[r.Intn(len(y.Heap))].B = n
	case what == 14 && len(in.Vals) > 0:
		in.Vals[r.Intn(len(in.Vals))] = impl.Value{Kind: r.Intn(9), N: n, S: texts[r.Intn(2)]}
	default:
		y.Insts = append(y.Insts, impl.Inst{Lib: s, Ver: n})
	}
}

func TestSpoiltSystemsByChance(t *testing.T) {
	t.Parallel()
	r := rand.New(rand.NewSource(89))
	counts := map[string]int{}
	for range 1500 {
		y := sysByChance(r)
		spoil(r, &y)
		wantAsSaid(t, "spoilt", y, counts)
	}
	if counts["right false"] < 100 || counts["right true"] < 100 || counts["known true"] == 0 {
		t.Error("one sort was never there", counts)
	}
}

// roomySys is y with spare room behind each of its lists, which is filled.
func roomySys(y impl.Sys) impl.Sys {
	z := impl.Sys{
		Heap:  roomyHeap(y.Heap),
		Insts: append(slices.Clone(y.Insts), impl.Inst{Lib: "spare"})[:len(y.Insts)],
		Units: append(slices.Clone(y.Units), impl.Unit{Home: -9})[:len(y.Units)],
		Out:   append(slices.Clone(y.Out), "spare")[:len(y.Out)],
	}
	for i, in := range y.Insts {
		z.Insts[i].Names = append(slices.Clone(in.Names), "spare")[:len(in.Names)]
		z.Insts[i].Vals = append(slices.Clone(in.Vals), numVal(-9))[:len(in.Vals)]
		z.Insts[i].Links = append(slices.Clone(in.Links), link("spare", -9, ""))[:len(in.Links)]
		z.Insts[i].Types = append(slices.Clone(in.Types), impl.Type{Size: -9})[:len(in.Types)]
	}
	for i, u := range y.Units {
		z.Units[i].Prog = roomy(u.Prog)
	}
	return z
}

// wholeSys is y with what stands in the room that roomySys made.
func wholeSys(y impl.Sys) impl.Sys {
	z := impl.Sys{
		Heap:  wholeHeap(y.Heap),
		Insts: slices.Clone(y.Insts[:len(y.Insts)+1]),
		Units: slices.Clone(y.Units[:len(y.Units)+1]),
		Out:   slices.Clone(y.Out[:len(y.Out)+1]),
	}
	for i, in := range y.Insts {
		z.Insts[i].Names = slices.Clone(in.Names[:len(in.Names)+1])
		z.Insts[i].Vals = slices.Clone(in.Vals[:len(in.Vals)+1])
		z.Insts[i].Links = slices.Clone(in.Links[:len(in.Links)+1])
		z.Insts[i].Types = slices.Clone(in.Types[:len(in.Types)+1])
	}
	for i, u := range y.Units {
		z.Units[i].Prog = whole(u.Prog)
	}
	return z
}

func TestSystemsAreLeftAsTheyAre(t *testing.T) {
	r := rand.New(rand.NewSource(90))
	for i := range 120 {
		y := sysByChance(r)
		switch i % 4 {
		case 0:
			y = someSys()
		case 1:
			spoil(r, &y)
		}
		y = roomySys(y)
		before := wholeSys(y)
		one, size := impl.SysOk(y), impl.Size(y)
		for home := -1; home <= len(y.Insts); home++ {
			for _, name := range names("a b c d e f g h x v p spare") {
				impl.Lookup(y, home, name)
			}
		}
		if !reflect.DeepEqual(wholeSys(y), before) {
			t.Errorf("system %d is changed", i)
		}
		// what stands in the spare room is not looked at
		if bare := deepSys(y); impl.SysOk(bare) != one || impl.Size(bare) != size {
			t.Errorf("system %d is another one without its spare room", i)
		}
	}
}

func TestLookupAnswersNewMemory(t *testing.T) {
	y := someSys()
	word := strings.Clone("symbol")
	y.Insts[1].Vals[0] = symVal(word)
	for _, c := range []struct {
		home int
		name string
	}{{1, "v"}, {0, "v"}, {2, "a"}} {
		one, _ := impl.Lookup(y, c.home, c.name)
		two, _ := impl.Lookup(y, c.home, c.name)
		if one != symVal("symbol") || two != one {
			t.Fatalf("Lookup of %v = %+v, and then %+v", c, one, two)
		}
		if unsafe.StringData(one.S) == unsafe.StringData(word) || unsafe.StringData(one.S) == unsafe.StringData(two.S) {
			t.Errorf("Lookup of %v shares its text", c)
		}
	}
}

// Nothing is kept: a system is asked as it is now, whatever was asked ahead of it.
func TestLookupKeepsNothing(t *testing.T) {
	y := someSys()
	wantKnown(t, "ahead", y, 0, "v", numVal(4))
	y.Insts[1].Vals[0] = numVal(5)
	wantKnown(t, "another value", y, 0, "v", numVal(5))
	y.Insts[0].Links[0].Inst = 2
	wantKnown(t, "another Inst", y, 0, "v", symVal("five"))
	y.Insts[0].Links[0].At = "f"
	wantKnown(t, "another At", y, 0, "v", fnVal(3))
	y.Insts[0].Links[0].Name = "vv"
	wantUnknown(t, "another Name", y, 0, "v")
	y.Insts[0].Names[0] = "v"
	wantKnown(t, "its own", y, 0, "v", nilVal())
	y.Insts[1].Ver = 0
	wantUnknown(t, "not right", y, 0, "v")
	y.Insts[1].Ver = 1
	wantKnown(t, "right again", y, 0, "v", nilVal())
}
