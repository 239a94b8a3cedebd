package tests

import (
	"fmt"
	"math"
	"math/rand"
	"reflect"
	"slices"
	"strings"
	"testing"
	"unsafe"

	"loop.example/g00765/impl"
)

func numVal(n int) impl.Value     { return impl.Value{Kind: impl.VaNum, N: n} }
func boolVal(n int) impl.Value    { return impl.Value{Kind: impl.VaBool, N: n} }
func nilVal() impl.Value          { return impl.Value{Kind: impl.VaNil} }
func symVal(s string) impl.Value  { return impl.Value{Kind: impl.VaSym, S: s} }
func pairVal(cell int) impl.Value { return impl.Value{Kind: impl.VaPair, N: cell} }
func fnVal(cell int) impl.Value   { return impl.Value{Kind: impl.VaFn, N: cell} }
func recVal(cell int) impl.Value  { return impl.Value{Kind: impl.VaRec, N: cell} }

func pairCell(first, rest impl.Value) impl.Cell {
	return impl.Cell{Kind: impl.CePair, Vals: []impl.Value{first, rest}}
}
func fnCell(l []string, vals ...impl.Value) impl.Cell {
	return impl.Cell{Kind: impl.CeFn, Names: l, Vals: vals}
}
func recCell(s string, version int, vals ...impl.Value) impl.Cell {
	return impl.Cell{Kind: impl.CeRec, S: s, A: version, Vals: vals}
}

func wantValue(t *testing.T, what string, h []impl.Cell, v impl.Value, want bool) {
	t.Helper()
	if ok := impl.ValueOk(h, v); ok != want {
		t.Errorf("%s: ValueOk of %+v = %v; want %v", what, v, ok, want)
	}
}

func wantHeap(t *testing.T, what string, h []impl.Cell, want bool) {
	t.Helper()
	if ok := impl.HeapOk(h); ok != want {
		t.Errorf("%s: HeapOk = %v; want %v: %.300s", what, ok, want, fmt.Sprintf("%+v", h))
	}
}

func wantText(t *testing.T, what string, h []impl.Cell, v impl.Value, want string) {
	t.Helper()
	if s := impl.Text(h, v); s != want {
		t.Errorf("%s: Text of %+v = %.80q (%d bytes); want %.80q (%d bytes)", what, v, s, len(s), want, len(want))
	}
}

// someHeap has a cell of each Kind twice: pairs 0 and 1, functions 2 and 3, records 4 and 5.
func someHeap() []impl.Cell {
	return []impl.Cell{
		pairCell(numVal(2), nilVal()),
		pairCell(symVal("a"), pairVal(0)),
		{Kind: impl.CeFn, A: 3, B: 7},
		fnCell(names("x y %t"), numVal(1), pairVal(1), fnVal(2)),
		recCell("aa:pt", 1),
		recCell("bb:q", 2, recVal(5), pairVal(1), fnVal(3), boolVal(1)),
	}
}

func TestConstantsOfValues(t *testing.T) {
	all := []int{impl.VaNone, impl.VaNum, impl.VaBool, impl.VaNil, impl.VaSym, impl.VaPair, impl.VaFn, impl.VaRec, impl.CePair, impl.CeFn, impl.CeRec, impl.MaxHeap, impl.MaxTell}
	if !slices.Equal(all, []int{0, 1, 2, 3, 4, 5, 6, 7, 1, 2, 3, 300, 100000}) {
		t.Error(all)
	}
}

func TestValuesOfEachKind(t *testing.T) {
	h := someHeap()
	for _, v := range []impl.Value{numVal(0), numVal(7), numVal(-7), boolVal(0), boolVal(1), nilVal(), symVal("a"), symVal("if"), symVal("car"), symVal("+"), pairVal(0), pairVal(1), fnVal(2), fnVal(3), recVal(4), recVal(5)} {
		wantValue(t, "a value", h, v, true)
	}
	for _, v := range []impl.Value{numVal(7), boolVal(1), nilVal(), symVal("a")} {
		wantValue(t, "no heap", nil, v, true)
	}
	wantValue(t, "VaNone", h, impl.Value{}, false)
	wantValue(t, "VaNone", nil, impl.Value{}, false)
}

func TestEdgesOfValues(t *testing.T) {
	for n, want := range map[int]bool{
		impl.MaxWord: true, -impl.MaxWord: true, impl.MaxWord + 1: false, -impl.MaxWord - 1: false,
		impl.MaxWord - 1: true, math.MaxInt: false, math.MinInt: false,
	} {
		wantValue(t, "a number", nil, numVal(n), want)
	}
	for n, want := range map[int]bool{-1: false, 0: true, 1: true, 2: false, 255: false, 257: false, math.MaxInt: false, math.MinInt: false} {
		wantValue(t, "a bool", nil, boolVal(n), want)
	}
	h := someHeap()
	for n := -3; n < len(h)+3; n++ {
		wantValue(t, "a pair", h, pairVal(n), n == 0 || n == 1)
		wantValue(t, "a function", h, fnVal(n), n == 2 || n == 3)
		wantValue(t, "a record", h, recVal(n), n == 4 || n == 5)
		wantValue(t, "no cell", nil, pairVal(n), false)
		wantValue(t, "no cell", []impl.Cell{}, fnVal(n), false)
		wantValue(t, "no cell", nil, recVal(n), false)
	}
	for _, n := range []int{math.MaxInt, math.MinInt, 1 << 32, 1<<32 + 1, -1 << 32} {
		for _, v := range []impl.Value{pairVal(n), fnVal(n), recVal(n)} {
			wantValue(t, "far off", h, v, false)
		}
	}
}

func TestSymbolsAsValues(t *testing.T) {
	all := []string{"", "a", "%t", "%u", "7", "-7", "-", "--", "-0", "1a", "a1", "#t", "#f", "#", ".", "a.b", "..", "()", "'a", "a b", "a ", " a", "a\n", "a;", "A", "\x00", "\xff", "é", "abcdefghijklmnop", "abcdefghijklmnopq", strings.Repeat("x", 1000)}
	for _, s := range append(append(all, words...), primitives()...) {
		wantValue(t, "a symbol", nil, symVal(s), readsAsSymbol(s))
		want := ""
		if readsAsSymbol(s) {
			want = s
		}
		wantText(t, "a symbol", nil, symVal(s), want)
	}
}

// What is not named for a kind is zero.
func TestValuesWithWhatIsNotNamed(t *testing.T) {
	h := someHeap()
	for _, v := range []impl.Value{numVal(0), numVal(7), boolVal(0), boolVal(1), nilVal(), pairVal(0), pairVal(1), fnVal(2), recVal(4)} {
		for _, s := range []string{"a", "x", " ", "\x00", "7"} {
			v.S = s
			wantValue(t, "a text", h, v, false)
			wantText(t, "a text", h, v, "")
		}
	}
	for _, n := range []int{1, -1, 2, 4, math.MaxInt, math.MinInt} {
		for _, v := range []impl.Value{nilVal(), symVal("a"), {}} {
			v.N = n
			wantValue(t, "a number", h, v, false)
			wantText(t, "a number", h, v, "")
		}
	}
	wantValue(t, "VaNone", h, impl.Value{S: "a"}, false)
	for _, kind := range []int{-1, 8, 9, 100, 1 << 32, 1<<32 + 1, math.MaxInt, math.MinInt} {
		for n := range len(h) {
			for _, s := range []string{"", "a"} {
				v := impl.Value{Kind: kind, N: n, S: s}
				wantValue(t, "a kind that is none", h, v, false)
				wantText(t, "a kind that is none", h, v, "")
			}
		}
	}
}

// Of a cell its Kind alone is looked at, and the heap need not be right.
func TestValuesInHeapsThatAreNotRight(t *testing.T) {
	h := []impl.Cell{{Kind: impl.CePair}, {Kind: impl.CeFn, A: -1, S: "x", Names: names("x")}, {Kind: impl.CeRec, A: 1001}, {Kind: 4}, {}}
	wantHeap(t, "not right", h, false)
	for i := range h {
		wantValue(t, "a pair", h, pairVal(i), i == 0)
		wantValue(t, "a function", h, fnVal(i), i == 1)
		wantValue(t, "a record", h, recVal(i), i == 2)
	}
	wantValue(t, "a number", h, numVal(1), true)
	wantValue(t, "its own", []impl.Cell{pairCell(pairVal(0), pairVal(0))}, pairVal(0), true)
	many := slices.Repeat([]impl.Cell{pairCell(nilVal(), nilVal())}, impl.MaxHeap+2)
	wantValue(t, "the last one of too many", many, pairVal(impl.MaxHeap+1), true)
	wantValue(t, "behind it", many, pairVal(impl.MaxHeap+2), false)
	wantValue(t, "behind what is there", many[:3], pairVal(3), false) // there is room behind it
}

func TestHeapsOfEachKind(t *testing.T) {
	wantHeap(t, "none", nil, true)
	wantHeap(t, "none", []impl.Cell{}, true)
	wantHeap(t, "some", someHeap(), true)
	for _, c := range []impl.Cell{
		pairCell(nilVal(), nilVal()),
		pairCell(numVal(-impl.MaxWord), symVal("quote")),
		fnCell(nil),
		fnCell([]string{}, []impl.Value{}...),
		fnCell(names("x"), boolVal(0)),
		fnCell(names("x x"), numVal(1), numVal(2)), // they need not be unlike
		fnCell(namesUpTo(40), slices.Repeat([]impl.Value{numVal(1)}, 40)...),
		{Kind: impl.CeFn, A: math.MaxInt, B: math.MaxInt},
		recCell("q", 0),
		recCell(":", 1000),
		recCell("\x00", 1, nilVal()),
		recCell("not a name", 1, recVal(0), recVal(0)),
		recCell(strings.Repeat("q", 1<<17), 1),
	} {
		wantHeap(t, "one cell", []impl.Cell{c}, true)
		// cell 0 is a pair there
		wantHeap(t, "behind others", append(someHeap(), c, pairCell(nilVal(), nilVal())), !slices.Contains(c.Vals, recVal(0)))
	}
	for _, kind := range []int{0, -1, 4, 5, 6, 7, 1 << 32, 1<<32 + 1, math.MaxInt, math.MinInt} {
		for _, c := range someHeap() {
			c.Kind = kind
			wantHeap(t, "a kind that is none", []impl.Cell{c}, false)
			wantHeap(t, "a kind that is none", append(someHeap(), c), false)
		}
	}
}

func TestHowManyCells(t *testing.T) {
	for _, c := range []impl.Cell{pairCell(nilVal(), nilVal()), fnCell(nil), recCell("q", 1)} {
		for _, n := range []int{1, impl.MaxHeap - 1, impl.MaxHeap, impl.MaxHeap + 1, 1 << 16} {
			h := slices.Repeat([]impl.Cell{c}, n)
			wantHeap(t, impl.Dec(n)+" cells", h, n <= impl.MaxHeap)
			for v, want := range map[impl.Value]string{numVal(7): "7", nilVal(): "()"} {
				if n > impl.MaxHeap {
					want = ""
				}
				wantText(t, impl.Dec(n)+" cells", h, v, want)
			}
		}
	}
}

func TestWhichCellsACellHas(t *testing.T) {
	const last = 9
	for own := range last + 1 {
		for at := -1; at <= last+1; at++ {
			for _, kind := range []int{impl.CePair, impl.CeFn, impl.CeRec} {
				// all others are of the kind that is asked for, and right wherever they stand
				for _, c := range []struct {
					other impl.Cell
					v     impl.Value
				}{{pairCell(nilVal(), nilVal()), pairVal(at)}, {fnCell(nil), fnVal(at)}, {recCell("q", 1), recVal(at)}} {
					h := slices.Repeat([]impl.Cell{c.other}, last+1)
					there := at >= 0 && at <= last && (at != own || kind == c.other.Kind)
					what := fmt.Sprintf("cell %d of kind %d has %+v", own, kind, c.v)
					for place := range 2 {
						h[own] = impl.Cell{Kind: kind, Vals: []impl.Value{nilVal(), nilVal()}}
						h[own].Vals[place] = c.v
						switch kind {
						case impl.CeFn:
							h[own].Names = names("x y")
						case impl.CeRec:
							h[own].S = "q"
						}
						wantHeap(t, what, h, there && (at < own || kind == impl.CeRec))
					}
				}
			}
		}
	}
}

func TestPairsWithoutAnEnd(t *testing.T) {
	for what, h := range map[string][]impl.Cell{
		"first its own": {pairCell(pairVal(0), nilVal())},
		"rest its own":  {pairCell(nilVal(), pairVal(0))},
		"both its own":  {pairCell(pairVal(0), pairVal(0))},
		"each other":    {pairCell(numVal(1), pairVal(1)), pairCell(numVal(2), pairVal(0))},
		"a later one":   {pairCell(numVal(1), pairVal(1)), pairCell(numVal(2), nilVal())},
		"three round":   {pairCell(numVal(1), pairVal(2)), pairCell(numVal(2), pairVal(0)), pairCell(numVal(3), pairVal(1))},
		"by a function": {fnCell(names("x"), pairVal(1)), pairCell(fnVal(0), nilVal())},
		"itself":        {fnCell(names("x"), fnVal(0)), pairCell(fnVal(0), nilVal())},
		"functions":     {fnCell(names("x"), fnVal(1)), fnCell(names("x"), fnVal(0))},
	} {
		wantHeap(t, what, h, false)
		for i := range h {
			wantText(t, what, h, pairVal(i), "")
			wantText(t, what, h, fnVal(i), "")
		}
		wantText(t, what, h, numVal(7), "")
	}
	round := []impl.Cell{
		recCell("q", 1, recVal(0), recVal(2), pairVal(1), fnVal(3)),
		pairCell(recVal(0), recVal(0)),
		recCell("r", 2, recVal(0), pairVal(1)),
		fnCell(names("x y"), recVal(0), pairVal(1)),
	}
	wantHeap(t, "records that have themselves", round, true)
	wantText(t, "records that have themselves", round, recVal(0), "#q")
	wantText(t, "records that have themselves", round, pairVal(1), "(#q . #q)")
	wantText(t, "records that have themselves", round, fnVal(3), "fn")
}

func TestHowManyVals(t *testing.T) {
	for n := range 12 {
		vals := slices.Repeat([]impl.Value{numVal(1)}, n)
		wantHeap(t, impl.Dec(n)+" Vals of a pair", []impl.Cell{{Kind: impl.CePair, Vals: vals}}, n == 2)
		wantHeap(t, impl.Dec(n)+" Vals of a record", []impl.Cell{recCell("q", 1, vals...)}, n <= 8)
		for m := range 12 {
			wantHeap(t, fmt.Sprintf("%d Names and %d Vals", m, n), []impl.Cell{fnCell(namesUpTo(m), vals...)}, m == n)
		}
	}
	wantHeap(t, "many Vals", []impl.Cell{recCell("q", 1, make([]impl.Value, 1<<16)...)}, false)
}

func TestEdgesOfCells(t *testing.T) {
	for version, want := range map[int]bool{-1: false, 0: true, 1: true, 999: true, 1000: true, 1001: false, math.MaxInt: false, math.MinInt: false} {
		wantHeap(t, "version "+impl.Dec(version), []impl.Cell{recCell("q", version)}, want)
		wantHeap(t, "version of a pair", []impl.Cell{{Kind: impl.CePair, A: version, Vals: []impl.Value{nilVal(), nilVal()}}}, version == 0)
	}
	for n, want := range map[int]bool{-1: false, 0: true, 1: true, 1001: true, math.MaxInt: true, math.MinInt: false} {
		wantHeap(t, "unit "+impl.Dec(n), []impl.Cell{{Kind: impl.CeFn, A: n}}, want)
		wantHeap(t, "node "+impl.Dec(n), []impl.Cell{{Kind: impl.CeFn, B: n}}, want)
	}
	wantHeap(t, "no type", []impl.Cell{recCell("", 1)}, false)
	for _, s := range append(append([]string{"x", "%t", "", "7", "#t", "x y", "X", "%u", "a1", "abcdefghijklmnop", "abcdefghijklmnopq"}, words...), primitives()...) {
		wantHeap(t, "the name "+s, []impl.Cell{fnCell([]string{s}, numVal(1))}, readsAsName(s))
		wantHeap(t, "the second name "+s, []impl.Cell{fnCell([]string{"x", s}, numVal(1), numVal(2))}, readsAsName(s))
	}
}

// What is not named for a Kind of cell is zero.
func TestCellsWithWhatIsNotNamed(t *testing.T) {
	for i, c := range someHeap() {
		for what, change := range map[string]func(c *impl.Cell){
			"S x":     func(c *impl.Cell) { c.S = "x" },
			"S blank": func(c *impl.Cell) { c.S = " " },
			"A 1":     func(c *impl.Cell) { c.A = 1 },
			"A -1":    func(c *impl.Cell) { c.A = -1 },
			"B 1":     func(c *impl.Cell) { c.B = 1 },
			"B -1":    func(c *impl.Cell) { c.B = -1 },
			"Names":   func(c *impl.Cell) { c.Names = append(slices.Clone(c.Names), "x") },
			"N empty": func(c *impl.Cell) { c.Names = append(slices.Clone(c.Names), "") },
			"VaNone":  func(c *impl.Cell) { c.Vals = append(slices.Clone(c.Vals), impl.Value{}) },
		} {
			right := c.Kind == impl.CeRec && (what[0] == 'S' || what == "A 1") || c.Kind == impl.CeFn && (what == "A 1" || what == "B 1")
			h := someHeap()
			change(&h[i])
			wantHeap(t, what+" of cell "+impl.Dec(i), h, right)
			if !right {
				wantText(t, what+" of cell "+impl.Dec(i), h, numVal(1), "")
				wantText(t, what+" of cell "+impl.Dec(i), h, pairVal(0), "")
			}
		}
	}
}

// valsOfAllSorts: right ones in someHeap, and ones that are not.
func valsOfAllSorts() (right []impl.Value, wrong []impl.Value) {
	right = []impl.Value{numVal(impl.MaxWord), boolVal(1), nilVal(), symVal("car"), pairVal(1), fnVal(3), recVal(5)}
	wrong = []impl.Value{{}, {N: 1}, {S: "a"}, numVal(impl.MaxWord + 1), boolVal(2), {Kind: impl.VaNil, N: 1}, symVal("7"), symVal(""), symVal("%t"), pairVal(2), fnVal(4), recVal(1), pairVal(-1), recVal(99), {Kind: impl.VaNum, S: "x"}, {Kind: 8}}
	return right, wrong
}

func TestValsOfCells(t *testing.T) {
	right, wrong := valsOfAllSorts()
	for i, v := range append(slices.Clone(right), wrong...) {
		want := i < len(right)
		for _, c := range []impl.Cell{
			pairCell(v, nilVal()), pairCell(nilVal(), v), pairCell(v, v),
			fnCell(names("x"), v), fnCell(names("x y"), nilVal(), v), fnCell(names("x y"), v, nilVal()),
			recCell("q", 1, v), recCell("q", 1, v, nilVal()), recCell("q", 1, nilVal(), nilVal(), v),
		} {
			wantHeap(t, "a value in a cell", append(someHeap(), c), want)
		}
	}
}

// rightVal says what a value is in the document's own words.
func rightVal(h []impl.Cell, v impl.Value) bool {
	names := func(kind int) bool { return v.S == "" && v.N >= 0 && v.N < len(h) && h[v.N].Kind == kind }
	switch v.Kind {
	case impl.VaNum:
		return v.S == "" && v.N >= -1000000 && v.N <= 1000000
	case impl.VaBool:
		return v == boolVal(0) || v == boolVal(1)
	case impl.VaNil:
		return v == nilVal()
	case impl.VaSym:
		return v.N == 0 && readsAsSymbol(v.S)
	case impl.VaPair:
		return names(impl.CePair)
	case impl.VaFn:
		return names(impl.CeFn)
	case impl.VaRec:
		return names(impl.CeRec)
	}
	return false
}

// rightCell says what a cell is in the document's own words.
func rightCell(h []impl.Cell, own int) bool {
	c := h[own]
	below, names := true, true
	for _, v := range c.Vals {
		if !rightVal(h, v) {
			return false
		}
		if v.Kind >= impl.VaPair && v.N >= own {
			below = false
		}
	}
	for _, s := range c.Names {
		names = names && readsAsName(s)
	}
	switch c.Kind {
	case impl.CePair:
		return len(c.Vals) == 2 && below && c.S == "" && c.A == 0 && c.B == 0 && len(c.Names) == 0
	case impl.CeFn:
		return len(c.Vals) == len(c.Names) && names && below && c.S == "" && c.A >= 0 && c.B >= 0
	case impl.CeRec:
		return len(c.Vals) <= 8 && c.S != "" && c.A >= 0 && c.A <= 1000 && c.B == 0 && len(c.Names) == 0
	}
	return false
}

func TestCellsOfAllShapes(t *testing.T) {
	lists := [][]string{nil, {"x"}, {"%t"}, {"if"}, {""}, {"x", "y"}, {"x", "x"}, namesUpTo(8), namesUpTo(9)}
	vals := [][]impl.Value{nil, {numVal(1)}, {numVal(1), pairVal(1)}, {fnVal(3), nilVal()}, {{}, nilVal()}, {pairVal(6), pairVal(7)}, {recVal(6), recVal(7)}, {nilVal(), nilVal(), nilVal()},
		slices.Repeat([]impl.Value{symVal("a")}, 8), slices.Repeat([]impl.Value{symVal("a")}, 9)}
	right := map[int]int{}
	for kind := -1; kind <= 4; kind++ {
		for _, s := range []string{"", "x", "aa:pt"} {
			for _, a := range []int{-1, 0, 1, 1000, 1001} {
				for _, b := range []int{-1, 0, 1} {
					for _, l := range lists {
						for _, v := range vals {
							h := append(someHeap(), impl.Cell{Kind: kind, S: s, A: a, B: b, Names: l, Vals: v}, recCell("q", 1))
							want := rightCell(h, 6)
							wantHeap(t, "shape", h, want)
							if want {
								right[kind]++
							}
						}
					}
				}
			}
		}
	}
	if right[impl.CePair] == 0 || right[impl.CeFn] == 0 || right[impl.CeRec] == 0 {
		t.Error("a kind has no right shape", right)
	}
}

func TestValuesOfAllShapes(t *testing.T) {
	h := someHeap()
	right := map[int]int{}
	for kind := -1; kind <= 9; kind++ {
		for _, n := range []int{math.MinInt, -1000001, -1000000, -1, 0, 1, 2, 3, 4, 5, 6, 7, 1000000, 1000001, math.MaxInt} {
			for _, s := range []string{"", "a", "7", "%t", "if", "#t"} {
				v := impl.Value{Kind: kind, N: n, S: s}
				want := rightVal(h, v)
				wantValue(t, "shape", h, v, want)
				if got := impl.Text(h, v); (got != "") != want {
					t.Errorf("Text of %+v = %q", v, got)
				}
				if want {
					right[kind]++
				}
			}
		}
	}
	if len(right) != 7 {
		t.Error("a kind has no right shape", right)
	}
}

func TestTextOfEachKind(t *testing.T) {
	h := someHeap()
	for _, c := range []struct {
		v    impl.Value
		want string
	}{
		{numVal(0), "0"}, {numVal(7), "7"}, {numVal(-7), "-7"}, {numVal(impl.MaxWord), "1000000"}, {numVal(-impl.MaxWord), "-1000000"},
		{boolVal(0), "#f"}, {boolVal(1), "#t"}, {nilVal(), "()"}, {symVal("a"), "a"}, {symVal("quote"), "quote"}, {symVal("abcdefghijklmnop"), "abcdefghijklmnop"},
		{pairVal(0), "(2)"}, {pairVal(1), "(a 2)"}, {fnVal(2), "fn"}, {fnVal(3), "fn"}, {recVal(4), "#aa:pt"}, {recVal(5), "#bb:q"},
		{impl.Value{}, ""}, {numVal(impl.MaxWord + 1), ""}, {numVal(-impl.MaxWord - 1), ""}, {boolVal(2), ""}, {boolVal(-1), ""},
		{symVal(""), ""}, {symVal("7"), ""}, {symVal("%t"), ""}, {pairVal(2), ""}, {pairVal(-1), ""}, {pairVal(6), ""}, {fnVal(1), ""}, {fnVal(4), ""}, {recVal(3), ""}, {recVal(6), ""},
	} {
		wantText(t, "in a heap", h, c.v, c.want)
	}
	for _, c := range []impl.Cell{
		pairCell(nilVal(), nilVal()), recCell("not a name", 0), recCell("\x00\xff\n", 1000), recCell("#", 1), recCell("(", 1),
	} {
		want := "#" + c.S
		v := recVal(6)
		if c.Kind == impl.CePair {
			want, v = "(())", pairVal(6)
		}
		wantText(t, "one more", append(someHeap(), c), v, want)
	}
}

func TestTextOfPairs(t *testing.T) {
	h := someHeap()
	at := len(h)
	for _, c := range []struct {
		cells []impl.Cell
		want  string
	}{
		{[]impl.Cell{pairCell(numVal(1), numVal(2))}, "(1 . 2)"},
		{[]impl.Cell{pairCell(nilVal(), boolVal(0))}, "(() . #f)"},
		{[]impl.Cell{pairCell(symVal("a"), symVal("b"))}, "(a . b)"},
		{[]impl.Cell{pairCell(fnVal(2), fnVal(3))}, "(fn . fn)"},
		{[]impl.Cell{pairCell(recVal(4), recVal(5))}, "(#aa:pt . #bb:q)"},
		{[]impl.Cell{pairCell(recVal(4), nilVal())}, "(#aa:pt)"},
		{[]impl.Cell{pairCell(pairVal(1), nilVal())}, "((a 2))"},
		{[]impl.Cell{pairCell(nilVal(), pairVal(1))}, "(() a 2)"},
		{[]impl.Cell{pairCell(pairVal(1), pairVal(1))}, "((a 2) a 2)"},
		{[]impl.Cell{pairCell(pairVal(0), boolVal(1))}, "((2) . #t)"},
		{[]impl.Cell{pairCell(numVal(1), numVal(2)), pairCell(numVal(3), pairVal(at))}, "(3 1 . 2)"},
		{[]impl.Cell{pairCell(numVal(1), numVal(2)), pairCell(pairVal(at), numVal(3))}, "((1 . 2) . 3)"},
		{[]impl.Cell{pairCell(numVal(1), numVal(2)), pairCell(pairVal(at), pairVal(at))}, "((1 . 2) 1 . 2)"},
		{[]impl.Cell{pairCell(symVal("x"), nilVal()), pairCell(symVal("quote"), pairVal(at))}, "(quote x)"},
		{[]impl.Cell{pairCell(nilVal(), nilVal()), pairCell(pairVal(at), nilVal()), pairCell(pairVal(at+1), pairVal(at+1))}, "(((())) (()))"},
		{[]impl.Cell{pairCell(fnVal(3), nilVal()), pairCell(boolVal(1), pairVal(at)), pairCell(symVal("-"), pairVal(at+1)), pairCell(numVal(-4), pairVal(at+2))}, "(-4 - #t fn)"},
	} {
		all := append(slices.Clone(h), c.cells...)
		wantText(t, "pairs", all, pairVal(len(all)-1), c.want)
	}
}

func TestTextInHeapsThatAreNotRight(t *testing.T) {
	_, wrong := valsOfAllSorts()
	for _, bad := range append([]impl.Cell{
		{}, {Kind: 4}, {Kind: impl.CePair}, {Kind: impl.CePair, Vals: []impl.Value{nilVal()}}, {Kind: impl.CeRec}, {Kind: impl.CeFn, A: -1}, {Kind: impl.CeFn, Names: names("x")}, recCell("q", 1001),
	}, pairCell(wrong[0], nilVal()), pairCell(nilVal(), wrong[3]), recCell("q", 1, wrong[5]), pairCell(pairVal(6), nilVal()), pairCell(nilVal(), pairVal(6))) {
		h := append(someHeap(), bad)
		wantHeap(t, "not right", h, false)
		for _, v := range []impl.Value{{}, numVal(7), boolVal(1), nilVal(), symVal("a"), pairVal(1), fnVal(2), recVal(4), pairVal(6), fnVal(6), recVal(6)} {
			wantText(t, "not right", h, v, "")
		}
	}
}

// kept puts a datum into a heap: the cells of its pairs, and its value.
func kept(h []impl.Cell, d impl.Data, i int) ([]impl.Cell, impl.Value) {
	switch c := d.Cells[i]; c.Kind {
	case impl.DaNum:
		return h, numVal(c.N)
	case impl.DaBool:
		return h, boolVal(c.N)
	case impl.DaSym:
		return h, symVal(c.S)
	case impl.DaNil:
		return h, nilVal()
	default:
		h, first := kept(h, d, c.L)
		h, rest := kept(h, d, c.R)
		return append(h, pairCell(first, rest)), pairVal(len(h))
	}
}

func wantAsShown(t *testing.T, text string) {
	t.Helper()
	d := read(t, text)
	h, v := kept(nil, d, d.Tops[0])
	wantHeap(t, text, h, true)
	wantValue(t, text, h, v, true)
	wantText(t, text, h, v, strings.TrimSuffix(impl.Show(d), "\n"))
}

func TestTextIsAsShowShowsIt(t *testing.T) {
	for _, s := range []string{"7", "-1000000", "#t", "#f", "a", "()", "(a)", "(a . b)", "(a b . c)", "'a", "''(a . 'b)", "(1 (2 (3 . 4) . 5) 6)", "((((()))) . ())", "(() () . #f)",
		strings.Repeat("(", impl.MaxDeep) + strings.Repeat(")", impl.MaxDeep), "(" + repeated("abcdefghijklmnop", 299) + " . z)"} {
		wantAsShown(t, s)
	}
	m := maker{rand.New(rand.NewSource(6))}
	for i := range 3000 {
		wantAsShown(t, m.datum(1+i%4))
	}
}

// longRow is a list of n times v, and of one rest.
func longRow(h []impl.Cell, n int, v, rest impl.Value) ([]impl.Cell, impl.Value) {
	for range n {
		h = append(h, pairCell(v, rest))
		rest = pairVal(len(h) - 1)
	}
	return h, rest
}

func TestEdgeOfTheLengthOfATextByARecord(t *testing.T) {
	for _, n := range []int{impl.MaxTell - 2, impl.MaxTell - 1, impl.MaxTell, impl.MaxTell + 1, 3 * impl.MaxTell} {
		h := []impl.Cell{recCell(strings.Repeat("q", n-2)+"z", 1)}
		whole := "#" + h[0].S
		wantText(t, impl.Dec(n)+" bytes", h, recVal(0), whole[:min(n, impl.MaxTell)])
	}
}

// Whatever stands at the end of MaxTell bytes is cut there.
func TestEdgeOfTheLengthOfAText(t *testing.T) {
	for _, c := range []struct {
		cells []impl.Cell // behind cell 0, a record with a text as long as is asked for
		want  string      // what stands behind (#qqq
	}{
		{[]impl.Cell{pairCell(recVal(0), nilVal())}, ")"},
		{[]impl.Cell{pairCell(recVal(0), numVal(-123456))}, " . -123456)"},
		{[]impl.Cell{pairCell(recVal(0), boolVal(1))}, " . #t)"},
		{[]impl.Cell{pairCell(recVal(0), fnVal(1)), fnCell(nil)}, " . fn)"},
		{[]impl.Cell{pairCell(nilVal(), nilVal()), pairCell(recVal(0), pairVal(1))}, " ())"},
		{[]impl.Cell{pairCell(symVal("abc"), symVal("de")), pairCell(boolVal(0), pairVal(1)), pairCell(recVal(0), pairVal(2))}, " #f abc . de)"},
		{[]impl.Cell{pairCell(symVal("abc"), symVal("de")), pairCell(pairVal(1), pairVal(1)), pairCell(recVal(0), pairVal(2))}, " (abc . de) abc . de)"},
		{[]impl.Cell{recCell("xy", 1), pairCell(recVal(1), numVal(12)), pairCell(recVal(0), pairVal(2))}, " #xy . 12)"},
	} {
		if c.cells[len(c.cells)-1].Kind == impl.CeFn {
			slices.Reverse(c.cells)
		}
		for over := -2; over <= len(c.want)+2; over++ {
			n := impl.MaxTell + over - len("(#") - len(c.want)
			h := append([]impl.Cell{recCell(strings.Repeat("q", n), 1)}, c.cells...)
			whole := "(#" + h[0].S + c.want
			if len(whole) != impl.MaxTell+over {
				t.Fatal("this test is wrong", len(whole))
			}
			wantHeap(t, c.want, h, true)
			wantText(t, fmt.Sprintf("%q, %d bytes too many", c.want, over), h, pairVal(len(h)-1), whole[:min(len(whole), impl.MaxTell)])
		}
	}
}

func TestLongListsAndDeepOnes(t *testing.T) {
	h, v := longRow(nil, impl.MaxHeap, symVal("abcdefghijklmnop"), nilVal())
	wantText(t, "a long list", h, v, "("+repeated("abcdefghijklmnop", impl.MaxHeap)+")")
	h, v = longRow(nil, impl.MaxHeap, numVal(-1), numVal(5))
	wantText(t, "a long list", h, v, "("+repeated("-1", impl.MaxHeap)+" . 5)")
	h, v = nil, nilVal()
	for i := range impl.MaxHeap {
		h = append(h, pairCell(v, nilVal()))
		v = pairVal(i)
	}
	wantText(t, "a deep list", h, v, strings.Repeat("(", impl.MaxHeap)+"()"+strings.Repeat(")", impl.MaxHeap))
}

// textsByCells tells texts in a right heap by a second way: of all cells, the lowest first, what stands inside of their brackets.
func textsByCells(h []impl.Cell) func(v impl.Value) string {
	cut := func(s string) string { return s[:min(len(s), impl.MaxTell)] }
	inside := make([]string, len(h))
	text := func(v impl.Value) string {
		switch v.Kind {
		case impl.VaNum:
			return fmt.Sprint(v.N)
		case impl.VaBool:
			return []string{"#f", "#t"}[v.N]
		case impl.VaNil:
			return "()"
		case impl.VaSym:
			return v.S
		case impl.VaFn:
			return "fn"
		case impl.VaRec:
			return cut("#" + h[v.N].S)
		}
		return cut("(" + inside[v.N] + ")")
	}
	for i, c := range h {
		if c.Kind != impl.CePair {
			continue
		}
		inside[i] = text(c.Vals[0])
		switch rest := c.Vals[1]; rest.Kind {
		case impl.VaNil:
		case impl.VaPair:
			inside[i] = cut(inside[i] + " " + inside[rest.N])
		default:
			inside[i] = cut(inside[i] + " . " + text(rest))
		}
	}
	return text
}

func TestPairsThatShareACellManyTimes(t *testing.T) {
	t.Parallel()
	for what, share := range map[string]func(i int) impl.Cell{
		"both":          func(i int) impl.Cell { return pairCell(pairVal(i-1), pairVal(i-1)) },
		"first and two": func(i int) impl.Cell { return pairCell(pairVal(i-1), pairVal(max(i-2, 0))) },
		"rest and two":  func(i int) impl.Cell { return pairCell(pairVal(max(i-2, 0)), pairVal(i-1)) },
		"both and far":  func(i int) impl.Cell { return pairCell(pairVal(i/2), pairVal(i-1)) },
	} {
		for _, first := range []impl.Value{numVal(1), nilVal(), symVal("abcdefghijklmnop"), boolVal(0)} {
			h := []impl.Cell{pairCell(first, first)}
			for i := 1; i < impl.MaxHeap; i++ {
				h = append(h, share(i))
			}
			wantHeap(t, what, h, true)
			text := textsByCells(h)
			for _, i := range []int{0, 1, 5, 10, 13, 14, 15, 16, 17, 20, 40, 64, 100, impl.MaxHeap - 1} {
				wantText(t, what, h, pairVal(i), text(pairVal(i)))
			}
			if last := impl.Text(h, pairVal(impl.MaxHeap-1)); what != "both and far" && len(last) != impl.MaxTell {
				t.Errorf("%s: %d bytes; want all of MaxTell", what, len(last))
			}
		}
	}
}

// heapByChance is right: pairs and functions have cells below their own, records any.
func heapByChance(r *rand.Rand, n int) []impl.Cell {
	h := make([]impl.Cell, n)
	for i := range h {
		h[i].Kind = 1 + r.Intn(8)
		if h[i].Kind > impl.CeRec {
			h[i].Kind = impl.CePair
		}
	}
	value := func(below int) impl.Value {
		if r.Intn(6) > 0 && below > 0 {
			at := below - 1 - r.Intn(min(below, 1+r.Intn(20)))
			return impl.Value{Kind: h[at].Kind + impl.VaPair - impl.CePair, N: at}
		}
		return []impl.Value{numVal(r.Intn(2000001) - 1000000), boolVal(r.Intn(2)), nilVal(), symVal([]string{"a", "if", "abcdefghijklmnop", "-"}[r.Intn(4)])}[r.Intn(4)]
	}
	for i := range h {
		c := &h[i]
		below, vals := i, 2
		switch c.Kind {
		case impl.CeFn:
			c.A, c.B, vals = r.Intn(60), r.Intn(400), r.Intn(5)
			c.Names = namesUpTo(vals)
		case impl.CeRec:
			c.S, c.A = []string{"aa:pt", "q", ":"}[r.Intn(3)], r.Intn(1001)
			below, vals = n, r.Intn(9)
		}
		for range vals {
			c.Vals = append(c.Vals, value(below))
		}
	}
	return h
}

func TestHeapsByChance(t *testing.T) {
	t.Parallel()
	r := rand.New(rand.NewSource(66))
	full := 0
	for i := range 300 {
		h := heapByChance(r, i%(impl.MaxHeap+1))
		if i%9 == 8 {
			h = heapByChance(r, impl.MaxHeap)
		}
		wantHeap(t, "by chance", h, true)
		text := textsByCells(h)
		for k := max(0, len(h)-20); k < len(h); k++ {
			v := impl.Value{Kind: h[k].Kind + impl.VaPair - impl.CePair, N: k}
			wantValue(t, "by chance", h, v, true)
			s := impl.Text(h, v)
			if want := text(v); s != want {
				t.Fatalf("Text = %.80q (%d bytes); want %.80q (%d bytes)", s, len(s), want, len(want))
			}
			if len(s) == impl.MaxTell {
				full++
			}
		}
	}
	if full == 0 {
		t.Error("no text was as long as MaxTell")
	}
}

// Promise 6: what a list has is told in its text, one behind the other.
func TestTextOfAListIsThatOfWhatItHas(t *testing.T) {
	r := rand.New(rand.NewSource(67))
	lists, cut := 0, 0
	for i := range 300 {
		h := heapByChance(r, 30+i%100)
		var texts []string
		rest := nilVal()
		for range 1 + r.Intn(12) {
			v := numVal(r.Intn(100))
			if at := r.Intn(len(h)); r.Intn(4) > 0 {
				v = impl.Value{Kind: h[at].Kind + impl.VaPair - impl.CePair, N: at}
			}
			texts = append([]string{impl.Text(h, v)}, texts...)
			h = append(h, pairCell(v, rest))
			rest = pairVal(len(h) - 1)
		}
		whole := "(" + strings.Join(texts, " ") + ")"
		if len(whole) > impl.MaxTell {
			whole = whole[:impl.MaxTell]
			cut++
		}
		lists++
		wantText(t, "a list", h, rest, whole)
	}
	if lists == cut {
		t.Error("all texts were cut")
	}
}

// spoilt heaps: one thing in a right one is another, and it is asked whether the document still takes it.
func TestSpoiltHeapsByChance(t *testing.T) {
	r := rand.New(rand.NewSource(68))
	odd := []int{-1, 0, 1, 2, 3, 4, 7, 8, 1000, 1001, 1000001}
	right, wrong := 0, 0
	for range 3000 {
		h := heapByChance(r, 1+r.Intn(12))
		i := r.Intn(len(h))
		c := &h[i]
		switch what := r.Intn(8); {
		case what == 0:
			c.Kind = odd[r.Intn(6)]
		case what == 1:
			c.A = odd[r.Intn(len(odd))]
		case what == 2:
			c.B = odd[r.Intn(len(odd))]
		case what == 3:
			c.S = []string{"", "x"}[r.Intn(2)]
		case what == 4:
			c.Names = append(c.Names, []string{"x", "if"}[r.Intn(2)])
		case what == 5 || len(c.Vals) == 0:
			c.Vals = append(c.Vals, impl.Value{Kind: r.Intn(9), N: r.Intn(len(h))})
		case what == 6:
			c.Vals[r.Intn(len(c.Vals))].N = odd[r.Intn(len(odd))]
		default:
			c.Vals[r.Intn(len(c.Vals))].Kind = r.Intn(9)
		}
		want := true
		for k := range h {
			want = want && rightCell(h, k)
		}
		wantHeap(t, "spoilt", h, want)
		for _, v := range append(slices.Clone(c.Vals), numVal(1), pairVal(i), fnVal(i), recVal(i)) {
			wantValue(t, "spoilt", h, v, rightVal(h, v))
			if s := impl.Text(h, v); (s != "") != (want && rightVal(h, v)) {
				t.Errorf("spoilt: Text of %+v = %.80q in %+v", v, s, h)
			}
		}
		if want {
			right++
		} else {
			wrong++
		}
	}
	if right == 0 || wrong == 0 {
		t.Error("one sort was never there", right, wrong)
	}
}

// roomyHeap is h with spare room behind each of its lists, which is filled.
func roomyHeap(h []impl.Cell) []impl.Cell {
	g := append(slices.Clone(h), fnCell(names("spare"), numVal(-9)))[:len(h)]
	for i, c := range h {
		g[i].Names = append(slices.Clone(c.Names), "spare")[:len(c.Names)]
		g[i].Vals = append(slices.Clone(c.Vals), numVal(-9))[:len(c.Vals)]
	}
	return g
}

// wholeHeap is h with what stands in the room that roomyHeap made.
func wholeHeap(h []impl.Cell) []impl.Cell {
	g := slices.Clone(h[:len(h)+1])
	for i, c := range h {
		g[i].Names = slices.Clone(c.Names[:len(c.Names)+1])
		g[i].Vals = slices.Clone(c.Vals[:len(c.Vals)+1])
	}
	return g
}

func TestValuesAndHeapsAreLeftAsTheyAre(t *testing.T) {
	r := rand.New(rand.NewSource(69))
	for i := range 60 {
		h := roomyHeap(heapByChance(r, 1+i))
		if i%4 == 0 {
			h[i/2].A = -1
		}
		before := wholeHeap(h)
		impl.HeapOk(h)
		for k := range h {
			for _, v := range []impl.Value{pairVal(k), fnVal(k), recVal(k), numVal(k), symVal("a"), {}} {
				impl.ValueOk(h, v)
				impl.Text(h, v)
			}
		}
		if !reflect.DeepEqual(wholeHeap(h), before) {
			t.Errorf("a heap of %d cells is changed", len(h))
		}
	}
}

func TestTextAnswersNewMemory(t *testing.T) {
	within := func(s, text string) bool {
		at, from := uintptr(unsafe.Pointer(unsafe.StringData(s))), uintptr(unsafe.Pointer(unsafe.StringData(text)))
		return at >= from && at < from+uintptr(len(text))
	}
	word := strings.Clone("symbol")
	typ := strings.Clone("aa:pt")
	h := []impl.Cell{recCell(typ, 1), pairCell(symVal(word), recVal(0))}
	for _, v := range []impl.Value{symVal(word), recVal(0), pairVal(1)} {
		one, two := impl.Text(h, v), impl.Text(h, v)
		if one != two || one == "" {
			t.Errorf("Text of %+v = %q, and then %q", v, one, two)
		}
		if within(one, word) || within(one, typ) || within(one, two) {
			t.Errorf("Text of %+v shares its memory", v)
		}
	}
}
