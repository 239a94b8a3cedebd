package tests

import (
	"fmt"
	"math"
	"math/big"
	"math/rand"
	"reflect"
	"slices"
	"strings"
	"testing"
	"unsafe"

	"loop.example/g00765/impl"
)

// taken are the primitives that Prim takes, left those that it leaves to others.
var (
	taken = []string{"+", "-", "*", "<", "=", "eq?", "cons", "car", "cdr", "null?", "pair?", "not"}
	left  = []string{"print", "error", "make", "field", "is"}
)

func vals(v ...impl.Value) []impl.Value { return v }

// deepHeap is h once more, field by field, with nothing of it shared.
func deepHeap(h []impl.Cell) []impl.Cell {
	g := slices.Clone(h)
	for i, c := range h {
		g[i].Names, g[i].Vals = slices.Clone(c.Names), slices.Clone(c.Vals)
	}
	return g
}

// told holds what Prim answers against a value, a code, and the heap, which but for cons is as it was.
func told(t *testing.T, h []impl.Cell, s string, args []impl.Value, want impl.Value, code int, more ...impl.Cell) {
	t.Helper()
	all := append(deepHeap(h), more...)
	g, v, c := impl.Prim(h, s, args)
	if v != want || c != code {
		t.Errorf("Prim of %q %+v in %d cells = %+v, %d; want %+v, %d", s, args, len(h), v, c, want, code)
	}
	if len(g) != len(all) || len(g) > 0 && !reflect.DeepEqual(g, all) {
		t.Errorf("Prim of %q %+v in %d cells: the heap is not as it should be: %.300s", s, args, len(h), fmt.Sprintf("%+v", g))
	}
}

func refused(t *testing.T, h []impl.Cell, s string, args []impl.Value, code int) {
	t.Helper()
	told(t, h, s, args, impl.Value{}, code)
}

// yesNo tells a VaBool.
func yesNo(yes bool) impl.Value {
	if yes {
		return boolVal(1)
	}
	return boolVal(0)
}

// oneOfEach: right values of someHeap, each kind with at least two that differ.
func oneOfEach() []impl.Value {
	return vals(numVal(0), numVal(1), numVal(-1), numVal(impl.MaxWord), numVal(-impl.MaxWord), boolVal(0), boolVal(1), nilVal(),
		symVal("a"), symVal("b"), symVal("quote"), pairVal(0), pairVal(1), fnVal(2), fnVal(3), recVal(4), recVal(5))
}

// fitting are values that the primitive takes, in someHeap.
func fitting(s string) []impl.Value {
	switch s {
	case "+", "-", "*", "<", "=":
		return vals(numVal(2), numVal(3))
	case "eq?", "cons":
		return vals(symVal("a"), pairVal(1))
	}
	return vals(pairVal(1))
}

func TestConstantsOfEnds(t *testing.T) {
	all := []int{impl.EnDone, impl.EnUnbound, impl.EnType, impl.EnRange, impl.EnUser, impl.EnArity, impl.EnDepth, impl.EnFull}
	if !slices.Equal(all, []int{0, 1, 2, 3, 4, 5, 6, 7}) {
		t.Error(all)
	}
}

func TestPrimOfEachPrimitive(t *testing.T) {
	h := someHeap()
	for _, c := range []struct {
		s    string
		args []impl.Value
		want impl.Value
	}{
		{"+", vals(numVal(2), numVal(3)), numVal(5)},
		{"+", vals(numVal(2), numVal(-3)), numVal(-1)},
		{"-", vals(numVal(2), numVal(3)), numVal(-1)},
		{"-", vals(numVal(3), numVal(2)), numVal(1)},
		{"-", vals(numVal(-3), numVal(-3)), numVal(0)},
		{"*", vals(numVal(2), numVal(3)), numVal(6)},
		{"*", vals(numVal(-2), numVal(3)), numVal(-6)},
		{"*", vals(numVal(-2), numVal(-3)), numVal(6)},
		{"<", vals(numVal(2), numVal(3)), boolVal(1)},
		{"<", vals(numVal(3), numVal(2)), boolVal(0)},
		{"<", vals(numVal(2), numVal(2)), boolVal(0)},
		{"<", vals(numVal(-2), numVal(1)), boolVal(1)},
		{"=", vals(numVal(2), numVal(3)), boolVal(0)},
		{"=", vals(numVal(2), numVal(2)), boolVal(1)},
		{"=", vals(numVal(2), numVal(-2)), boolVal(0)},
		{"eq?", vals(symVal("a"), symVal("a")), boolVal(1)},
		{"eq?", vals(symVal("a"), symVal("b")), boolVal(0)},
		{"eq?", vals(pairVal(0), pairVal(0)), boolVal(1)},
		{"eq?", vals(pairVal(0), pairVal(1)), boolVal(0)},
		{"car", vals(pairVal(0)), numVal(2)},
		{"cdr", vals(pairVal(0)), nilVal()},
		{"car", vals(pairVal(1)), symVal("a")},
		{"cdr", vals(pairVal(1)), pairVal(0)},
		{"null?", vals(nilVal()), boolVal(1)},
		{"null?", vals(pairVal(0)), boolVal(0)},
		{"pair?", vals(nilVal()), boolVal(0)},
		{"pair?", vals(pairVal(0)), boolVal(1)},
		{"not", vals(boolVal(0)), boolVal(1)},
		{"not", vals(boolVal(1)), boolVal(0)},
	} {
		told(t, h, c.s, c.args, c.want, impl.EnDone)
	}
	told(t, h, "cons", vals(numVal(7), pairVal(1)), pairVal(6), impl.EnDone, pairCell(numVal(7), pairVal(1)))
	told(t, nil, "cons", vals(numVal(7), nilVal()), pairVal(0), impl.EnDone, pairCell(numVal(7), nilVal()))
	told(t, []impl.Cell{}, "cons", vals(boolVal(0), symVal("b")), pairVal(0), impl.EnDone, pairCell(boolVal(0), symVal("b")))
	told(t, nil, "+", vals(numVal(2), numVal(3)), numVal(5), impl.EnDone)
}

// wantCounted asks + - * < and = of two numbers, by numbers that have no end.
func wantCounted(t *testing.T, h []impl.Cell, a, b int) {
	t.Helper()
	x, y := big.NewInt(int64(a)), big.NewInt(int64(b))
	for s, n := range map[string]*big.Int{"+": new(big.Int).Add(x, y), "-": new(big.Int).Sub(x, y), "*": new(big.Int).Mul(x, y)} {
		if n.CmpAbs(big.NewInt(1000000)) > 0 {
			refused(t, h, s, vals(numVal(a), numVal(b)), impl.EnRange)
		} else {
			told(t, h, s, vals(numVal(a), numVal(b)), numVal(int(n.Int64())), impl.EnDone)
		}
	}
	told(t, h, "<", vals(numVal(a), numVal(b)), yesNo(x.Cmp(y) < 0), impl.EnDone)
	told(t, h, "=", vals(numVal(a), numVal(b)), yesNo(x.Cmp(y) == 0), impl.EnDone)
}

func TestEdgesOfWhatComesOfNumbers(t *testing.T) {
	const most = impl.MaxWord
	for _, c := range []struct {
		s    string
		a, b int
		want int // most + 1 where it is refused
	}{
		{"+", most, 0, most}, {"+", most - 1, 1, most}, {"+", most, 1, most + 1}, {"+", 1, most, most + 1}, {"+", most, most, most + 1},
		{"+", -most, 0, -most}, {"+", 1 - most, -1, -most}, {"+", -most, -1, most + 1}, {"+", -most, -most, most + 1}, {"+", most, -most, 0},
		{"-", most, 0, most}, {"-", most - 1, -1, most}, {"-", most, -1, most + 1}, {"-", 0, most, -most}, {"-", 0, -most, most},
		{"-", -most, 0, -most}, {"-", 1 - most, 1, -most}, {"-", -most, 1, most + 1}, {"-", -1, most, most + 1}, {"-", most, -most, most + 1}, {"-", -most, -most, 0},
		{"*", most, 1, most}, {"*", most, -1, -most}, {"*", 1000, 1000, most}, {"*", -1000, 1000, -most}, {"*", -1000, -1000, most},
		{"*", 999, 1001, most - 1}, {"*", 101, 9901, most + 1}, {"*", 101, -9901, most + 1}, {"*", 1000, 1001, most + 1}, {"*", most, 2, most + 1}, {"*", most, 0, 0},
		{"*", most, most, most + 1}, {"*", -most, most, most + 1}, {"*", -most, -most, most + 1},
		// these come back within the bounds where only 16, 31 or 32 bits are kept
		{"*", 65536, 65536, most + 1}, {"*", 65536, 131072, most + 1}, {"*", 65536, 32768, most + 1}, {"*", -65536, 65536, most + 1}, {"*", 524288, 8192, most + 1}, {"*", 256, 8192, most + 1},
		{"*", 65537, 65536, most + 1}, {"*", 65537, 65535, most + 1},
	} {
		if c.want > most {
			refused(t, someHeap(), c.s, vals(numVal(c.a), numVal(c.b)), impl.EnRange)
		} else {
			told(t, someHeap(), c.s, vals(numVal(c.a), numVal(c.b)), numVal(c.want), impl.EnDone)
		}
	}
}

func TestNumbersByAGridAndByChance(t *testing.T) {
	grid := []int{0, 1, 2, 3, 101, 127, 128, 255, 256, 641, 999, 1000, 1001, 9901, 32767, 32768, 46340, 46341, 65535, 65536, 65537, 131072, 500000, 500001, 524288, 999998, 999999, 1000000}
	for _, a := range grid {
		for _, b := range grid {
			wantCounted(t, nil, a, b)
			wantCounted(t, nil, a, -b)
			wantCounted(t, nil, -a, b)
			wantCounted(t, nil, -a, -b)
		}
	}
	r := rand.New(rand.NewSource(7))
	h := someHeap()
	for range 3000 {
		wantCounted(t, h, r.Intn(2000001)-1000000, r.Intn(2000001)-1000000)
		wantCounted(t, h, r.Intn(2001)-1000, r.Intn(2001)-1000)
	}
}

// What is no number is refused, and at cons, eq? and not it is not.
func TestNumbersOfValuesOfAnotherKind(t *testing.T) {
	h := someHeap()
	for _, s := range taken[:5] {
		for _, a := range oneOfEach() {
			for _, b := range oneOfEach() {
				if a.Kind == impl.VaNum && b.Kind == impl.VaNum {
					wantCounted(t, h, a.N, b.N)
				} else {
					refused(t, h, s, vals(a, b), impl.EnType)
				}
			}
		}
	}
}

func TestConsOfEachKind(t *testing.T) {
	h := someHeap()
	for _, a := range oneOfEach() {
		for _, b := range oneOfEach() {
			told(t, h, "cons", vals(a, b), pairVal(6), impl.EnDone, pairCell(a, b))
			g, v, _ := impl.Prim(h, "cons", vals(a, b))
			wantHeap(t, "behind cons", g, true)
			wantValue(t, "behind cons", g, v, true)
			// promise 7: a pair is taken apart again
			told(t, g, "car", vals(v), a, impl.EnDone)
			told(t, g, "cdr", vals(v), b, impl.EnDone)
			told(t, g, "pair?", vals(v), boolVal(1), impl.EnDone)
			told(t, g, "eq?", vals(v, v), boolVal(1), impl.EnDone)
			if again, w, _ := impl.Prim(g, "cons", vals(a, b)); w != pairVal(7) || len(again) != 8 {
				t.Errorf("cons of %+v and %+v once more is %+v in %d cells", a, b, w, len(again))
			}
		}
	}
}

func TestEdgeOfTheHeapAtCons(t *testing.T) {
	for _, c := range []impl.Cell{pairCell(numVal(1), nilVal()), fnCell(names("x"), nilVal()), recCell("q", 1, symVal("a"))} {
		for _, n := range []int{0, 1, 2, impl.MaxHeap - 2, impl.MaxHeap - 1, impl.MaxHeap, impl.MaxHeap + 1, impl.MaxHeap + 2, 1 << 12} {
			h := deepHeap(slices.Repeat([]impl.Cell{c}, n))
			args := vals(numVal(7), symVal("b"))
			switch {
			case n < impl.MaxHeap:
				told(t, h, "cons", args, pairVal(n), impl.EnDone, pairCell(args[0], args[1]))
			case n == impl.MaxHeap:
				refused(t, h, "cons", args, impl.EnFull)
				told(t, h, "eq?", args, boolVal(0), impl.EnDone) // all others need no room
				told(t, h, "not", args[:1], boolVal(0), impl.EnDone)
				told(t, h, "+", vals(numVal(2), numVal(3)), numVal(5), impl.EnDone)
			default:
				refused(t, h, "cons", args, impl.EnType) // such a heap is not right
				refused(t, h, "eq?", args, impl.EnType)
			}
		}
	}
}

// A heap is filled by cons alone, and taken apart again.
func TestAListMadeAndTakenApart(t *testing.T) {
	h, v := []impl.Cell(nil), nilVal()
	for i := range impl.MaxHeap {
		g, w, code := impl.Prim(h, "cons", vals(numVal(i), v))
		if code != impl.EnDone || w != pairVal(i) || len(g) != i+1 {
			t.Fatalf("cons %d tells %+v, %d in %d cells", i, w, code, len(g))
		}
		h, v = g, w
	}
	wantHeap(t, "a full heap", h, true)
	refused(t, h, "cons", vals(numVal(0), v), impl.EnFull)
	for i := impl.MaxHeap - 1; i >= 0; i-- {
		told(t, h, "car", vals(v), numVal(i), impl.EnDone)
		_, rest, code := impl.Prim(h, "cdr", vals(v))
		if code != impl.EnDone {
			t.Fatalf("cdr of %+v tells %d", v, code)
		}
		v = rest
	}
	told(t, h, "null?", vals(v), boolVal(1), impl.EnDone)
}

func TestOneValueOfEachKind(t *testing.T) {
	h := someHeap()
	for _, v := range oneOfEach() {
		told(t, h, "null?", vals(v), yesNo(v.Kind == impl.VaNil), impl.EnDone)
		told(t, h, "pair?", vals(v), yesNo(v.Kind == impl.VaPair), impl.EnDone)
		told(t, h, "not", vals(v), yesNo(v == boolVal(0)), impl.EnDone)
		for i, s := range []string{"car", "cdr"} {
			if v.Kind == impl.VaPair {
				told(t, h, s, vals(v), h[v.N].Vals[i], impl.EnDone)
			} else {
				refused(t, h, s, vals(v), impl.EnType)
			}
		}
	}
}

// The number of a pair's cell is that of no function, no record and no number.
func TestEqOfValuesThatDifferInOnePart(t *testing.T) {
	h := someHeap()
	for i, a := range oneOfEach() {
		for k, b := range oneOfEach() {
			b.S = strings.Clone(b.S) // texts of one content are alike wherever they stand
			told(t, h, "eq?", vals(a, b), yesNo(i == k), impl.EnDone)
		}
	}
	for _, c := range [][2]impl.Value{
		{numVal(1), boolVal(1)}, {numVal(0), boolVal(0)}, {numVal(0), nilVal()}, {boolVal(0), nilVal()}, {numVal(0), pairVal(0)}, {numVal(2), fnVal(2)}, {numVal(4), recVal(4)},
		{boolVal(1), pairVal(1)}, {nilVal(), pairVal(0)}, {numVal(3), numVal(-3)}, {symVal("a"), symVal("aa")}, {symVal("ab"), symVal("a")}, {symVal("-"), symVal("--")},
	} {
		told(t, h, "eq?", c[:], boolVal(0), impl.EnDone)
		told(t, h, "eq?", vals(c[1], c[0]), boolVal(0), impl.EnDone)
		told(t, h, "eq?", vals(c[0], c[0]), boolVal(1), impl.EnDone)
	}
	// two pairs with the same parts are two, and so are records
	twice := append(someHeap(), pairCell(numVal(2), nilVal()), recCell("aa:pt", 1), fnCell(nil))
	told(t, twice, "eq?", vals(pairVal(0), pairVal(6)), boolVal(0), impl.EnDone)
	told(t, twice, "eq?", vals(recVal(4), recVal(7)), boolVal(0), impl.EnDone)
	told(t, twice, "eq?", vals(fnVal(2), fnVal(8)), boolVal(0), impl.EnDone)
	told(t, twice, "eq?", vals(pairVal(6), pairVal(6)), boolVal(1), impl.EnDone)
}

func TestTruth(t *testing.T) {
	right, wrong := valsOfAllSorts()
	all := slices.Concat(oneOfEach(), right, wrong, vals(impl.Value{}, boolVal(2), boolVal(-1), boolVal(1<<32), boolVal(math.MinInt),
		impl.Value{Kind: impl.VaBool, N: 1, S: "a"}, impl.Value{Kind: impl.VaBool, S: "a"}, impl.Value{Kind: -2}, impl.Value{Kind: 8}, impl.Value{Kind: 1<<32 + impl.VaBool}))
	for _, v := range all {
		if impl.Truth(v) != (v != boolVal(0)) {
			t.Errorf("Truth of %+v = %v", v, impl.Truth(v))
		}
	}
	if impl.Truth(boolVal(0)) || !impl.Truth(boolVal(1)) || !impl.Truth(impl.Value{}) || !impl.Truth(numVal(0)) || !impl.Truth(nilVal()) {
		t.Error("Truth of #f, #t, VaNone, 0 or ()")
	}
}

func TestWhatIsNoPrimitiveHere(t *testing.T) {
	h := someHeap()
	others := []string{"", "x", "%t", "1", "#t", "()", "add", "eq", "null", "pair", "first", "+ ", " +", "CAR", "Cons", "/", ">", "<=", "==", "\x00", "\xff", strings.Repeat("+", 1000)}
	for _, s := range taken {
		others = append(others, nearby(s)...)
	}
	for _, s := range slices.Concat(others, words, left) {
		if slices.Contains(taken, s) {
			continue // - is near to + and so on
		}
		for _, args := range [][]impl.Value{nil, vals(numVal(1)), vals(pairVal(1)), vals(recVal(4)), vals(numVal(1), numVal(2)), vals(pairVal(0), pairVal(1), nilVal())} {
			refused(t, h, s, args, impl.EnType)
		}
	}
	for _, s := range left {
		for n := range 10 {
			for _, v := range oneOfEach() {
				refused(t, h, s, slices.Repeat(vals(v), n), impl.EnType)
			}
		}
	}
}

func TestTooFewAndTooManyValues(t *testing.T) {
	for _, h := range [][]impl.Cell{nil, someHeap()} {
		for _, s := range taken {
			for n := range 12 {
				if n == arities[s] {
					continue
				}
				for _, v := range vals(numVal(1), boolVal(0), nilVal(), symVal("a"), pairVal(1), pairVal(0), recVal(5)) {
					refused(t, h, s, slices.Repeat(vals(v), n), impl.EnType)
				}
			}
			refused(t, h, s, slices.Repeat(vals(numVal(1)), 1<<16), impl.EnType)
			// what stands in the room behind them is none of them
			refused(t, h, s, vals(numVal(1), numVal(2))[:0], impl.EnType)
			refused(t, h, s, slices.Repeat(vals(numVal(1)), arities[s])[:arities[s]-1], impl.EnType)
		}
	}
}

func TestPrimOfValuesThatAreNotRight(t *testing.T) {
	h := someHeap()
	_, wrong := valsOfAllSorts()
	wrong = append(wrong, numVal(-impl.MaxWord-1), numVal(math.MaxInt), numVal(math.MinInt), numVal(1<<32), numVal(1<<32+2), boolVal(-1), pairVal(6), fnVal(0), recVal(0), pairVal(4), pairVal(math.MinInt), pairVal(1<<32),
		impl.Value{Kind: impl.VaBool, S: "x"}, impl.Value{Kind: impl.VaPair, S: "x"}, impl.Value{Kind: impl.VaNil, S: "x"}, impl.Value{Kind: impl.VaSym, N: 1, S: "a"}, impl.Value{Kind: -1})
	for _, v := range wrong {
		wantValue(t, "this test", h, v, false)
		for _, s := range taken {
			if arities[s] == 1 {
				refused(t, h, s, vals(v), impl.EnType)
				continue
			}
			refused(t, h, s, vals(v, v), impl.EnType)
			for _, other := range oneOfEach() {
				refused(t, h, s, vals(v, other), impl.EnType)
				refused(t, h, s, vals(other, v), impl.EnType)
			}
		}
	}
	// a value of cells that are not there
	for _, s := range []string{"car", "cdr", "pair?", "null?", "not"} {
		refused(t, nil, s, vals(pairVal(0)), impl.EnType)
		refused(t, someHeap()[:1], s, vals(pairVal(1)), impl.EnType)
	}
	// the new cell of cons is not there as yet
	refused(t, h, "cons", vals(pairVal(6), nilVal()), impl.EnType)
	refused(t, h, "cons", vals(nilVal(), pairVal(6)), impl.EnType)
}

// badHeaps are not right, each for another reason.
func badHeaps() [][]impl.Cell {
	var all [][]impl.Cell
	_, wrong := valsOfAllSorts()
	for _, bad := range []impl.Cell{
		{}, {Kind: 4}, {Kind: -1}, {Kind: impl.CePair}, {Kind: impl.CePair, Vals: vals(nilVal())}, {Kind: impl.CePair, Vals: vals(nilVal(), nilVal(), nilVal())},
		{Kind: impl.CePair, S: "x", Vals: vals(nilVal(), nilVal())}, {Kind: impl.CePair, A: 1, Vals: vals(nilVal(), nilVal())}, {Kind: impl.CePair, B: 1, Vals: vals(nilVal(), nilVal())},
		{Kind: impl.CePair, Names: names("x"), Vals: vals(nilVal(), nilVal())}, {Kind: impl.CePair, Names: names("x y"), Vals: vals(nilVal(), nilVal())},
		pairCell(wrong[0], nilVal()), pairCell(nilVal(), wrong[3]), pairCell(pairVal(6), nilVal()), pairCell(nilVal(), pairVal(6)), pairCell(recVal(7), nilVal()),
		{Kind: impl.CeFn, A: -1}, {Kind: impl.CeFn, B: -1}, {Kind: impl.CeFn, S: "x"}, fnCell(names("x")), fnCell(nil, nilVal()), fnCell([]string{"if"}, nilVal()), fnCell(names("x"), fnVal(6)),
		recCell("", 1), recCell("q", -1), recCell("q", 1001), {Kind: impl.CeRec, S: "q", B: 1}, {Kind: impl.CeRec, S: "q", Names: names("x")},
		recCell("q", 1, slices.Repeat(vals(nilVal()), 9)...), recCell("q", 1, impl.Value{}), recCell("q", 1, pairVal(9)),
	} {
		all = append(all, append(someHeap(), bad, recCell("r", 1)))
	}
	many := deepHeap(slices.Repeat([]impl.Cell{pairCell(nilVal(), nilVal())}, impl.MaxHeap-5))
	return append(all, append(someHeap(), many...))
}

func TestPrimInHeapsThatAreNotRight(t *testing.T) {
	for _, h := range badHeaps() {
		wantHeap(t, "this test", h, false)
		for _, s := range taken {
			refused(t, h, s, fitting(s), impl.EnType)
		}
		refused(t, h, "null?", vals(nilVal()), impl.EnType)
		refused(t, h, "not", vals(boolVal(0)), impl.EnType)
		refused(t, h, "car", vals(pairVal(6)), impl.EnType)
		refused(t, h, "+", vals(numVal(impl.MaxWord), numVal(1)), impl.EnType)
		refused(t, h, "print", vals(nilVal()), impl.EnType)
		refused(t, h, "", nil, impl.EnType)
	}
	for _, s := range taken {
		if _, v, code := impl.Prim(someHeap(), s, fitting(s)); code != impl.EnDone || v == (impl.Value{}) {
			t.Errorf("this test: %q tells %+v, %d in a right heap", s, v, code)
		}
	}
}

// Where several reasons apply, EnType is named first.
func TestWhichReasonIsToldFirst(t *testing.T) {
	h := deepHeap(slices.Repeat([]impl.Cell{pairCell(numVal(1), nilVal())}, impl.MaxHeap))
	refused(t, h, "cons", vals(nilVal(), nilVal()), impl.EnFull)
	for _, args := range [][]impl.Value{nil, vals(nilVal()), vals(nilVal(), nilVal(), nilVal()), vals(impl.Value{}, nilVal()), vals(nilVal(), impl.Value{}), vals(nilVal(), pairVal(impl.MaxHeap)), vals(symVal("7"), nilVal())} {
		refused(t, h, "cons", args, impl.EnType)
	}
	spoilt := deepHeap(h)
	spoilt[impl.MaxHeap-1].A = 1
	refused(t, spoilt, "cons", vals(nilVal(), nilVal()), impl.EnType)
	most, least := numVal(impl.MaxWord), numVal(-impl.MaxWord)
	refused(t, nil, "+", vals(most, most), impl.EnRange)
	refused(t, spoilt, "+", vals(most, most), impl.EnType)
	refused(t, nil, "+", vals(most, most, most), impl.EnType)
	refused(t, nil, "-", vals(most, least, impl.Value{}), impl.EnType)
	refused(t, nil, "*", vals(most, numVal(impl.MaxWord+1)), impl.EnType)
	refused(t, nil, "*", vals(most, boolVal(1)), impl.EnType)
	refused(t, nil, "+", vals(numVal(impl.MaxWord+1), numVal(-2)), impl.EnType)
	refused(t, nil, "*", vals(numVal(impl.MaxWord+1), numVal(0)), impl.EnType)
}

// modelPrim says what each primitive does in the document's own words; whether a heap is right is handed in.
func modelPrim(h []impl.Cell, right bool, s string, args []impl.Value) ([]impl.Cell, impl.Value, int) {
	g := deepHeap(h)
	no := func(code int) ([]impl.Cell, impl.Value, int) { return g, impl.Value{}, code }
	is := func(v impl.Value) ([]impl.Cell, impl.Value, int) { return g, v, impl.EnDone }
	if !right || !slices.Contains(taken, s) || len(args) != arities[s] {
		return no(impl.EnType)
	}
	numbers := true
	for _, v := range args {
		if !rightVal(h, v) {
			return no(impl.EnType)
		}
		numbers = numbers && v.Kind == impl.VaNum
	}
	a, b := args[0], args[len(args)-1]
	switch s {
	case "eq?":
		return is(yesNo(a == b))
	case "null?":
		return is(yesNo(a.Kind == impl.VaNil))
	case "pair?":
		return is(yesNo(a.Kind == impl.VaPair))
	case "not":
		return is(yesNo(a.Kind == impl.VaBool && a.N == 0))
	case "car", "cdr":
		if a.Kind != impl.VaPair {
			return no(impl.EnType)
		}
		return is(h[a.N].Vals[strings.Index("ad", s[1:2])])
	case "cons":
		if len(h) >= impl.MaxHeap {
			return no(impl.EnFull)
		}
		g = append(g, pairCell(a, b))
		return is(pairVal(len(h)))
	}
	if !numbers {
		return no(impl.EnType)
	}
	if s == "<" || s == "=" {
		return is(yesNo(s == "<" && a.N < b.N || s == "=" && a.N == b.N))
	}
	n := map[string]int{"+": a.N + b.N, "-": a.N - b.N, "*": a.N * b.N}[s]
	if n < -impl.MaxWord || n > impl.MaxWord {
		return no(impl.EnRange)
	}
	return is(numVal(n))
}

// argsByChance: mostly as many as s takes, mostly right, numbers often.
func argsByChance(r *rand.Rand, h []impl.Cell, s string) []impl.Value {
	n := max(arities[s], 0)
	if r.Intn(12) == 0 {
		n = r.Intn(4)
	}
	var args []impl.Value
	for range n {
		at := r.Intn(len(h) + 1)
		switch r.Intn(10) {
		case 0, 1, 2:
			args = append(args, numVal(r.Intn(2000003)-1000001))
		case 3:
			args = append(args, numVal(r.Intn(7)-3))
		case 4:
			args = append(args, oneOfEach()[r.Intn(8)])
		case 5:
			args = append(args, symVal([]string{"a", "b", "7", ""}[r.Intn(4)]))
		case 6:
			args = append(args, impl.Value{Kind: r.Intn(9), N: at})
		default:
			v := nilVal()
			if at < len(h) && h[at].Kind > 0 {
				v = impl.Value{Kind: h[at].Kind + impl.VaPair - impl.CePair, N: at}
			}
			args = append(args, v)
		}
	}
	if n == 2 && r.Intn(3) == 0 {
		args[1] = args[0]
	}
	return args
}

func TestPrimByChance(t *testing.T) {
	t.Parallel()
	r := rand.New(rand.NewSource(77))
	seen := map[string]int{}
	for i := range 1500 {
		h := heapByChance(r, i%40)
		if i%5 == 4 {
			h = heapByChance(r, impl.MaxHeap-i%3)
		}
		right := true
		if i%11 == 10 && len(h) > 0 {
			h[r.Intn(len(h))].A = -1
			right = false
		}
		for range 20 {
			s := taken[r.Intn(len(taken))]
			if r.Intn(20) == 0 {
				s = left[r.Intn(len(left))]
			}
			args := argsByChance(r, h, s)
			wantHeap, want, code := modelPrim(h, right, s, args)
			told(t, h, s, args, want, code, wantHeap[len(h):]...)
			seen[fmt.Sprint(s, " ", code)]++
		}
	}
	for _, s := range taken {
		if seen[s+" 0"] == 0 || seen[s+" 2"] == 0 {
			t.Errorf("%q was not done, or not refused: %v", s, seen)
		}
	}
	if seen["+ 3"] == 0 || seen["- 3"] == 0 || seen["* 3"] == 0 || seen["cons 7"] == 0 {
		t.Error("a code was never told", seen)
	}
}

// casesOfMemory: heaps with spare room, some not right, and a primitive with values, some of which do not fit.
func casesOfMemory(ask func(h []impl.Cell, s string, args []impl.Value)) {
	r := rand.New(rand.NewSource(78))
	for i := range 40 {
		h := heapByChance(r, 1+i)
		h = append(h, pairCell(symVal(strings.Clone("first")), symVal(strings.Clone("second"))), fnCell([]string{strings.Clone("name")}, nilVal()), recCell(strings.Clone("aa:pt"), 1, nilVal()))
		if i%4 == 0 {
			h[i/2].A = -1
		}
		if i == 39 {
			h = heapByChance(r, impl.MaxHeap)
		}
		own := pairVal(len(h) - 3)
		for _, s := range append(slices.Clone(taken), "print", "x") {
			for _, args := range [][]impl.Value{nil, vals(own), vals(own, symVal(strings.Clone("third"))), vals(numVal(2), numVal(3)), vals(numVal(impl.MaxWord), numVal(impl.MaxWord)), vals(boolVal(0)), vals(impl.Value{}, own)} {
				ask(roomyHeap(h), s, args)
			}
		}
	}
}

func TestPrimLeavesItsArguments(t *testing.T) {
	casesOfMemory(func(h []impl.Cell, s string, args []impl.Value) {
		args = append(args, numVal(-9), symVal("spare"))[:len(args)]
		heapBefore, argsBefore := wholeHeap(h), slices.Clone(args[:len(args)+2])
		impl.Prim(h, s, args)
		for _, v := range args {
			impl.Truth(v)
		}
		if !reflect.DeepEqual(wholeHeap(h), heapBefore) || !slices.Equal(args[:len(args)+2], argsBefore) {
			t.Errorf("Prim of %q %+v changes what is handed in", s, args)
		}
	})
}

// scribble writes over all of g, and over the room behind each of its lists.
func scribble(g []impl.Cell) {
	for i := range g {
		c := &g[i]
		for k := range c.Names[:cap(c.Names)] {
			c.Names[:cap(c.Names)][k] = "other"
		}
		for k := range c.Vals[:cap(c.Vals)] {
			c.Vals[:cap(c.Vals)][k] = numVal(-99)
		}
	}
	for i := range g[:cap(g)] {
		g[:cap(g)][i] = impl.Cell{Kind: -99}
	}
}

func TestPrimAnswersNewMemory(t *testing.T) {
	casesOfMemory(func(h []impl.Cell, s string, args []impl.Value) {
		heapBefore, argsBefore := wholeHeap(h), slices.Clone(args)
		g, v, code := impl.Prim(h, s, args)
		again, _, _ := impl.Prim(h, s, args)
		want := deepHeap(again)
		scribble(g)
		if !reflect.DeepEqual(wholeHeap(h), heapBefore) || !slices.Equal(args, argsBefore) || !reflect.DeepEqual(again, want) {
			t.Errorf("Prim of %q %+v: what it tells shares its memory", s, args)
		}
		if _, w, c := impl.Prim(h, s, args); w != v || c != code {
			t.Errorf("Prim of %q %+v tells %+v, %d and then %+v, %d", s, args, v, code, w, c)
		}
	})
}

// No two lists of one answer share memory, even where those of the heap that is handed in do.
func TestPrimTellsListsThatShareNone(t *testing.T) {
	one, two := names("x y"), vals(numVal(1), numVal(2))
	shared := []impl.Cell{{Kind: impl.CePair, Vals: two}, {Kind: impl.CeFn, Names: one, Vals: two}, {Kind: impl.CeFn, Names: one, Vals: two}, {Kind: impl.CeRec, S: "q", Vals: two}}
	for _, h := range [][]impl.Cell{shared, append(slices.Clone(shared), impl.Cell{Kind: 4, Names: one, Vals: two})} {
		for _, s := range []string{"cons", "car", "+", "x"} {
			g, _, _ := impl.Prim(h, s, two)
			for i, c := range g {
				for k, d := range g[:i] {
					if len(c.Vals) > 0 && &c.Vals[0] == &d.Vals[0] || len(c.Names) > 0 && len(d.Names) > 0 && &c.Names[0] == &d.Names[0] {
						t.Errorf("%q: cells %d and %d share a list", s, k, i)
					}
				}
				if &c.Vals[0] == &two[0] {
					t.Errorf("%q: cell %d has the list of values that was handed in", s, i)
				}
			}
		}
	}
}

// textsIn are those of a heap and of values.
func textsIn(h []impl.Cell, all []impl.Value) []string {
	var texts []string
	for _, c := range h {
		texts = append(append(texts, c.S), c.Names...)
		all = append(slices.Clone(all), c.Vals...)
	}
	for _, v := range all {
		texts = append(texts, v.S)
	}
	return slices.DeleteFunc(texts, func(s string) bool { return s == "" })
}

func TestPrimAnswersNewTexts(t *testing.T) {
	long := 0
	casesOfMemory(func(h []impl.Cell, s string, args []impl.Value) {
		if len(h) > 12 {
			return
		}
		g, v, _ := impl.Prim(h, s, args)
		in, out := textsIn(h, args), textsIn(g, vals(v))
		for _, a := range in {
			for _, b := range out {
				if len(b) > 1 && unsafe.StringData(a) == unsafe.StringData(b) {
					t.Errorf("Prim of %q %+v shares the text %q", s, args, b)
				}
			}
		}
		long += len(out)
	})
	if long == 0 {
		t.Error("no text was told")
	}
}
