package tests

import (
	"slices"
	"strings"
	"testing"

	"loop.example/g00765/impl"
)

func num(n int) impl.Datum             { return impl.Datum{Kind: impl.DaNum, N: n} }
func flag(n int) impl.Datum            { return impl.Datum{Kind: impl.DaBool, N: n} }
func sym(s string) impl.Datum          { return impl.Datum{Kind: impl.DaSym, S: s} }
func none() impl.Datum                 { return impl.Datum{Kind: impl.DaNil} }
func pair(l, r int) impl.Datum         { return impl.Datum{Kind: impl.DaPair, L: l, R: r} }
func row(c ...impl.Datum) []impl.Datum { return c }

func sameData(a, b impl.Data) bool {
	return slices.Equal(a.Cells, b.Cells) && slices.Equal(a.Tops, b.Tops)
}

func wantRead(t *testing.T, s string, cells []impl.Datum, tops ...int) {
	t.Helper()
	d, bad := impl.Read(s)
	if want := (impl.Data{Cells: cells, Tops: tops}); bad != -1 || !sameData(d, want) {
		t.Errorf("Read(%.60q) = %v, %d; want %v, -1", s, d, bad, want)
	}
}

func wantRefused(t *testing.T, s string, place int) {
	t.Helper()
	if d, bad := impl.Read(s); bad != place || len(d.Cells) != 0 || len(d.Tops) != 0 {
		t.Errorf("Read(%.60q) = %d cells, %v, %d; want the zero Data, %d", s, len(d.Cells), d.Tops, bad, place)
	}
}

func wantShow(t *testing.T, d impl.Data, want string) {
	t.Helper()
	if s := impl.Show(d); s != want {
		t.Errorf("Show(%v) = %q; want %q", d, s, want)
	}
}

func wantOk(t *testing.T, d impl.Data, want bool) {
	t.Helper()
	if ok := impl.DataOk(d); ok != want {
		t.Errorf("DataOk(%v) = %v; want %v", d, ok, want)
	}
}

// wantReadBack asks for P2 of a text that is read.
func wantReadBack(t *testing.T, s string) {
	t.Helper()
	d, bad := impl.Read(s)
	if bad != -1 {
		t.Errorf("Read(%.60q) is refused at %d", s, bad)
		return
	}
	shown := impl.Show(d)
	if again, bad := impl.Read(shown); bad != -1 || !sameData(d, again) {
		t.Errorf("Read(%.60q) = %v; read again from %.60q: %v, %d", s, d, shown, again, bad)
	}
	if !impl.DataOk(d) {
		t.Errorf("Read(%.60q) = %v is not DataOk", s, d)
	}
}

func TestReadTellsCells(t *testing.T) {
	wantRead(t, "7", row(num(7)), 0)
	wantRead(t, "-7 0", row(num(-7), num(0)), 0, 1)
	wantRead(t, "#t #f", row(flag(1), flag(0)), 0, 1)
	wantRead(t, "a", row(sym("a")), 0)
	wantRead(t, "()", row(none()), 0)
	wantRead(t, "(a)", row(sym("a"), none(), pair(0, 1)), 2)
	wantRead(t, "(a b)", row(sym("a"), sym("b"), none(), pair(1, 2), pair(0, 3)), 4)
	wantRead(t, "(a . b)", row(sym("a"), sym("b"), pair(0, 1)), 2)
	wantRead(t, "(a b . c)", row(sym("a"), sym("b"), sym("c"), pair(1, 2), pair(0, 3)), 4)
	wantRead(t, "(a . ())", row(sym("a"), none(), pair(0, 1)), 2)
	wantRead(t, "(a . (b . c))", row(sym("a"), sym("b"), sym("c"), pair(1, 2), pair(0, 3)), 4)
	wantRead(t, "(() a)", row(none(), sym("a"), none(), pair(1, 2), pair(0, 3)), 4)
	wantRead(t, "((a) b)", row(sym("a"), none(), pair(0, 1), sym("b"), none(), pair(3, 4), pair(2, 5)), 6)
	wantRead(t, "'x", row(sym("quote"), sym("x"), none(), pair(1, 2), pair(0, 3)), 4)
	wantRead(t, "''x", row(sym("quote"), sym("quote"), sym("x"), none(), pair(2, 3), pair(1, 4),
		none(), pair(5, 6), pair(0, 7)), 8)
	wantRead(t, "'(x)", row(sym("quote"), sym("x"), none(), pair(1, 2), none(), pair(3, 4), pair(0, 5)), 6)
	wantRead(t, "(a 'b)", row(sym("a"), sym("quote"), sym("b"), none(), pair(2, 3), pair(1, 4),
		none(), pair(5, 6), pair(0, 7)), 8)
	wantRead(t, "(a . 'b)", row(sym("a"), sym("quote"), sym("b"), none(), pair(2, 3), pair(1, 4), pair(0, 5)), 6)
	wantRead(t, "1(2)a'b", row(num(1), num(2), none(), pair(1, 2), sym("a"), sym("quote"), sym("b"), none(),
		pair(6, 7), pair(5, 8)), 0, 3, 4, 9)
	wantRead(t, "", nil)
	wantRead(t, " \t\n;x", nil)
}

func TestReadTakesEachSign(t *testing.T) {
	signs := "abcdefghijklmnopqrstuvwxyz0123456789!?*/<=>+-_"
	for c := range 256 {
		b := string([]byte{byte(c)})
		switch {
		case strings.Contains(signs, b):
			wantRead(t, "x"+b, row(sym("x"+b)), 0)
		case strings.Contains(" \t\n;", b):
			wantRead(t, "x"+b, row(sym("x")), 0)
		case b == "#" || b == ".":
			wantRefused(t, "x"+b, 0)
		case b == "(" || b == "'":
			wantRefused(t, "x"+b, 2)
		case b == ")":
			wantRefused(t, "x"+b, 1)
		default:
			wantRefused(t, "x"+b, 1)
			wantRefused(t, "(x "+b+")", 3)
		}
	}
}

func TestReadTellsNumbersFromSymbols(t *testing.T) {
	for _, n := range []int{0, 1, 9, 10, 999999, impl.MaxWord} {
		wantRead(t, impl.Dec(n), row(num(n)), 0)
		wantRead(t, impl.Dec(-n), row(num(-n)), 0)
	}
	for _, s := range []string{"1000001", "-1000001", "999999999", "-999999999", "1234567890", "01", "00", "1a", "1-", "9!"} {
		wantRefused(t, s, 0)
		wantRefused(t, "(a "+s+")", 3)
	}
	for _, s := range []string{"-", "+", "+1", "-0", "-01", "--1", "-1a", "-a", "a1", "-1234567890", "set!", "t", "abcdefghijklmnop"} {
		wantRead(t, s, row(sym(s)), 0)
	}
	wantRefused(t, "abcdefghijklmnopq", 0)
	wantRefused(t, "'"+strings.Repeat("z", 400), 1)
	for _, s := range []string{"#", "##", "#x", "#tt", "#t1", "#1", "t#", "a#f", "#t.", "#f#"} {
		wantRefused(t, " "+s, 1)
	}
}

func TestReadPassesOverBlanksAndRemarks(t *testing.T) {
	tokens := []string{"(", "a", "7", "(", "b", ".", "'", "c", ")", ")", "#t"}
	want, bad := impl.Read(strings.Join(tokens, " "))
	if bad != -1 || len(want.Tops) != 2 {
		t.Fatal("the tokens are refused", want, bad)
	}
	for _, gap := range []string{"\t", "\n", "  ", ";\n", "; (x\n", ";;'\n", ";a\t.)\n;@\xff\x00\r\n ", "\n;\n;\n"} {
		for _, end := range []string{"", ";", "; a", ";)\n"} {
			s := gap + strings.Join(tokens, gap) + end
			if d, bad := impl.Read(s); bad != -1 || !sameData(d, want) {
				t.Errorf("Read(%q) = %v, %d; want %v", s, d, bad, want)
			}
		}
	}
	wantRead(t, "a;b\nc", row(sym("a"), sym("c")), 0, 1)
	wantRead(t, "(a);", row(sym("a"), none(), pair(0, 1)), 2)
	wantRead(t, "(a .(b))", row(sym("a"), sym("b"), none(), pair(1, 2), pair(0, 3)), 4)
	wantRead(t, "(a .;\n'b)", row(sym("a"), sym("quote"), sym("b"), none(), pair(2, 3), pair(1, 4), pair(0, 5)), 6)
}

func TestReadRefusesWhereItBegins(t *testing.T) {
	for _, c := range []struct {
		s     string
		place int
	}{
		{".", 0}, {" . ", 1}, {". a", 0}, {"a . b", 2}, {"(a) .", 4}, {"'.", 1}, {"' . a", 2},
		{"(.)", 1}, {"(. a)", 1}, {"((a) (. b))", 6}, {"('. a)", 2},
		{"(a .)", 4}, {"(a . )", 5}, {"(a . . b)", 5}, {"(a . b c)", 7}, {"(a . b . c)", 7}, {"(a . b 'c)", 7}, {"(a . b (c))", 7},
		{"..", 0}, {"(a ..)", 3}, {"(a .. b)", 3}, {"(a .b)", 3}, {"(a b.)", 3}, {"(a .#t)", 3}, {"a.b", 0}, {".5", 0},
		{")", 0}, {"a )", 2}, {"())", 2}, {"(a . b))", 7}, {"')", 1}, {"(')", 2},
		{"(", 1}, {"( ", 2}, {"(a", 2}, {"(a . ", 5}, {"(a . b", 6}, {"(a . b;)", 8}, {"((a)", 4},
		{"'", 1}, {"' ;", 3}, {"a ''", 4}, {"('a '", 5},
		{"\"a\"", 0}, {"a\r", 1}, {"a [b]", 2}, {"A", 0}, {"aB", 1}, {"\x80", 0}, {"a \xff", 2}, {"\x00", 0}, {"é", 0},
		{"@ )", 0}, {"1a @", 0},
	} {
		wantRefused(t, c.s, c.place)
	}
}

func TestReadDeep(t *testing.T) {
	for _, open := range []string{"(", "'", "(a ", "(a . ", "('", "(a . '"} {
		n := strings.Count(open, "(") + strings.Count(open, "'")
		ahead := strings.Repeat(open, impl.MaxDeep/n)
		behind := strings.Repeat(")", strings.Count(ahead, "("))
		wantReadBack(t, ahead+"a"+behind)
		wantReadBack(t, ahead+"a"+behind+" "+ahead+"a"+behind)
		for _, one := range []string{"(", "'", "()", "'a"} {
			wantRefused(t, ahead+one+behind, len(ahead))
		}
		wantRefused(t, ahead, len(ahead))
	}
	side := "(" + strings.Repeat("('a ()) ", 40) + ")"
	wantReadBack(t, strings.Repeat("(", impl.MaxDeep-3)+side+strings.Repeat(")", impl.MaxDeep-3))
}

func TestReadManyCells(t *testing.T) {
	full := strings.Repeat("a ", impl.MaxCells)
	wantReadBack(t, full)
	wantRefused(t, full+"; b\n b", len(full)+5)
	wantRefused(t, full+"'", len(full))
	wantRefused(t, full+"'a", len(full))
	wantRefused(t, full+"()", len(full)+1)
	wantRefused(t, full+"((", len(full)+2)
	wantRefused(t, full+"b @", len(full))
	wantRefused(t, full+"@ b", len(full))

	list := "(" + strings.Repeat("a ", (impl.MaxCells-1)/2)
	wantReadBack(t, list+")")
	wantReadBack(t, list+") b")
	wantRefused(t, list+" b )", len(list)+3)
	wantReadBack(t, list+". b)")
	wantRefused(t, list+". (b) ) ", len(list)+6)
	wantRefused(t, list+") b c", len(list)+4)

	quotes := strings.Repeat("'a", impl.MaxCells/5)
	wantReadBack(t, quotes)
	wantRefused(t, "b"+quotes, len(quotes))
	wantRefused(t, "b"+quotes[:len(quotes)-2]+"'(a )", len(quotes)+3)
}

// ends: what may end a text that was broken off between two tokens.
func ends() []string {
	var all []string
	for _, part := range []string{"", "a", "a . a"} {
		for n := range 7 {
			all = append(all, "\n"+part+strings.Repeat(")", n))
		}
	}
	return all
}

// canEnd: is there an end with which s is read?
func canEnd(s string, ends []string) bool {
	return slices.ContainsFunc(ends, func(end string) bool {
		_, bad := impl.Read(s + end)
		return bad == -1
	})
}

func TestReadOfShowOfWhatIsRead(t *testing.T) {
	t.Parallel()
	all := ends()
	eachText("a1.()'#t; \n", 5, func(s string) {
		_, bad := impl.Read(s)
		if bad == -1 {
			wantReadBack(t, s)
			return
		}
		// the place is the first one at which no text that is read can go on
		if bad < 0 || bad > len(s) || !canEnd(s[:bad], all) {
			t.Errorf("Read(%q) is refused at %d: what stands ahead is wrong already", s, bad)
		}
		if bad < len(s) && canEnd(s, all) {
			t.Errorf("Read(%q) is refused at %d: but it can end", s, bad)
		}
	})
}

func TestReadAnswersNewMemory(t *testing.T) {
	const text = "(a b) '7"
	one, _ := impl.Read(text)
	two, _ := impl.Read(text)
	want := impl.Data{Cells: slices.Clone(two.Cells), Tops: slices.Clone(two.Tops)}
	for i := range one.Cells {
		one.Cells[i] = impl.Datum{}
	}
	one.Tops[0] = 99
	if !sameData(two, want) {
		t.Error("one answer is written into another")
	}
	if three, _ := impl.Read(text); !sameData(three, want) {
		t.Error("an answer is kept")
	}
}

func TestShowTells(t *testing.T) {
	for _, c := range []struct{ text, want string }{
		{"", ""},
		{"7 -12 #t #f abc ()", "7\n-12\n#t\n#f\nabc\n()\n"},
		{"(a)(a b)", "(a)\n(a b)\n"},
		{"(a . b)(a b . c)", "(a . b)\n(a b . c)\n"},
		{"(a . (b))", "(a b)\n"},
		{"(() . ())", "(())\n"},
		{"'a ''a '()", "(quote a)\n(quote (quote a))\n(quote ())\n"},
		{"(a . 'b)", "(a quote b)\n"},
		{"((1 (2 . #t)) . 3)", "((1 (2 . #t)) . 3)\n"},
	} {
		d, bad := impl.Read(c.text)
		if bad != -1 {
			t.Errorf("Read(%q) is refused at %d", c.text, bad)
		}
		wantShow(t, d, c.want)
		wantOk(t, d, true)
	}
}

func TestShowOfWhatIsNotRight(t *testing.T) {
	for _, d := range []impl.Data{
		{Cells: row(sym("a"), none(), pair(-1, 1)), Tops: []int{2, 0}},
		{Cells: row(sym("a"), none(), pair(0, -1)), Tops: []int{2, 1}},
		{Cells: row(sym("a"), none(), pair(2, 1)), Tops: []int{0, 2}},
		{Cells: row(sym("a"), none(), pair(0, 2)), Tops: []int{1, 2}},
		{Cells: row(sym("a"), pair(0, 2), none()), Tops: []int{1}},
		{Cells: row(sym("a"), pair(2, 0), none()), Tops: []int{1}},
		{Cells: row(sym("a"), none(), pair(0, 3)), Tops: []int{2, 1}},
		{Cells: row(sym("a"), none(), pair(0, 1<<62)), Tops: []int{2, 1}},
		{Cells: row(sym("a")), Tops: []int{-1}},
		{Cells: row(sym("a")), Tops: []int{1}},
		{Cells: row(sym("a")), Tops: []int{0, 1}},
		{Cells: row(sym("a")), Tops: []int{0, -1}},
		{Tops: []int{0}},
		{Cells: row(sym("a"))},
		{Cells: row(sym("a"), sym("b")), Tops: []int{0}},
		{Cells: row(sym("a")), Tops: []int{0, 0}},
		{Cells: row(sym("a"), pair(0, 0)), Tops: []int{1}},
		{Cells: row(sym("a"), none(), pair(0, 1)), Tops: []int{2, 0}},
		{Cells: row(sym("a"), none(), pair(0, 1), pair(0, 2)), Tops: []int{3}},
		{Cells: row(sym("a"), none(), none(), pair(0, 1)), Tops: []int{3}},
	} {
		wantShow(t, d, "")
		wantOk(t, d, false)
	}
}

// What Show tells, though Read would not make it so.
func TestDataThatReadDoesNotMake(t *testing.T) {
	for _, c := range []struct {
		d    impl.Data
		want string
	}{
		{impl.Data{Cells: row(none(), sym("a"), pair(1, 0)), Tops: []int{2}}, "(a)\n"},
		{impl.Data{Cells: row(sym("a"), sym("b")), Tops: []int{1, 0}}, "b\na\n"},
		{impl.Data{Cells: row(sym("a"), sym("b"), none(), pair(0, 2)), Tops: []int{3, 1}}, "(a)\nb\n"},
		{impl.Data{Cells: row(num(impl.MaxWord + 1)), Tops: []int{0}}, "1000001\n"},
		{impl.Data{Cells: row(num(-impl.MaxWord - 1)), Tops: []int{0}}, "-1000001\n"},
		{impl.Data{Cells: row(sym("7")), Tops: []int{0}}, "7\n"},
		{impl.Data{Cells: row(sym("#t")), Tops: []int{0}}, "#t\n"},
		{impl.Data{Cells: row(sym("")), Tops: []int{0}}, "\n"},
		{impl.Data{Cells: row(sym("a b")), Tops: []int{0}}, "a b\n"},
		{impl.Data{Cells: row(sym("a;")), Tops: []int{0}}, "a;\n"},
		{impl.Data{Cells: row(sym("abcdefghijklmnopq")), Tops: []int{0}}, "abcdefghijklmnopq\n"},
		{impl.Data{Cells: row(impl.Datum{Kind: impl.DaNum, N: 7, S: "x"}), Tops: []int{0}}, "7\n"},
		{impl.Data{Cells: row(impl.Datum{Kind: impl.DaNum, N: 7, L: 1}), Tops: []int{0}}, "7\n"},
		{impl.Data{Cells: row(impl.Datum{Kind: impl.DaNum, N: 7, R: 1}), Tops: []int{0}}, "7\n"},
		{impl.Data{Cells: row(impl.Datum{Kind: impl.DaBool, N: 1, S: "x"}), Tops: []int{0}}, "#t\n"},
		{impl.Data{Cells: row(impl.Datum{Kind: impl.DaBool, L: 1}), Tops: []int{0}}, "#f\n"},
		{impl.Data{Cells: row(impl.Datum{Kind: impl.DaSym, S: "a", N: 1}), Tops: []int{0}}, "a\n"},
		{impl.Data{Cells: row(impl.Datum{Kind: impl.DaSym, S: "a", R: -1}), Tops: []int{0}}, "a\n"},
		{impl.Data{Cells: row(impl.Datum{Kind: impl.DaNil, N: 1}), Tops: []int{0}}, "()\n"},
		{impl.Data{Cells: row(impl.Datum{Kind: impl.DaNil, S: "a"}), Tops: []int{0}}, "()\n"},
		{impl.Data{Cells: row(sym("a"), none(), impl.Datum{Kind: impl.DaPair, R: 1, N: 1}), Tops: []int{2}}, "(a)\n"},
		{impl.Data{Cells: row(sym("a"), none(), impl.Datum{Kind: impl.DaPair, R: 1, S: "x"}), Tops: []int{2}}, "(a)\n"},
	} {
		wantShow(t, c.d, c.want)
		wantOk(t, c.d, false)
	}
	for _, kind := range []int{0, 6, -1} {
		wantOk(t, impl.Data{Cells: row(impl.Datum{Kind: kind}), Tops: []int{0}}, false)
	}
	for _, n := range []int{2, -1} {
		wantOk(t, impl.Data{Cells: row(flag(n)), Tops: []int{0}}, false)
	}
	wantOk(t, impl.Data{}, true)
	wantOk(t, impl.Data{Cells: row(), Tops: []int{}}, true)
}

// nested is a list of a list, and so on, n deep.
func nested(n int) impl.Data {
	cells := row(none())
	for range n - 1 {
		cells = append(cells, none(), pair(0, 0))
	}
	// each list is the first one of the next, which ends in a DaNil of its own
	inner := 0
	for i := 2; i < len(cells); i += 2 {
		cells[i] = pair(inner, i-1)
		inner = i
	}
	return impl.Data{Cells: cells, Tops: []int{inner}}
}

func TestDataPastTheLimits(t *testing.T) {
	wantOk(t, nested(impl.MaxDeep), true)
	for _, n := range []int{impl.MaxDeep + 1, 1 << 16} {
		d := nested(n)
		if s := impl.Show(d); s != strings.Repeat("(", n)+strings.Repeat(")", n)+"\n" {
			t.Errorf("Show of %d lists in each other: %d bytes", n, len(s))
		}
		if impl.DataOk(d) {
			t.Errorf("%d lists in each other are DataOk", n)
		}
	}
	for _, n := range []int{impl.MaxCells, impl.MaxCells + 1} {
		var d impl.Data
		for i := range n {
			d.Cells = append(d.Cells, sym("a"))
			d.Tops = append(d.Tops, i)
		}
		wantShow(t, d, strings.Repeat("a\n", n))
		wantOk(t, d, n == impl.MaxCells)
	}
}

func TestShowLeavesItsArgument(t *testing.T) {
	d, _ := impl.Read("(a 'b . #t) 7")
	cells, tops := slices.Clone(d.Cells), slices.Clone(d.Tops)
	impl.Show(d)
	impl.DataOk(d)
	if !sameData(d, impl.Data{Cells: cells, Tops: tops}) {
		t.Error("an argument is changed")
	}
}
