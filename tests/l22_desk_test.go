package tests

import (
	"fmt"
	"math/rand"
	"regexp"
	"slices"
	"strconv"
	"strings"
	"testing"

	"loop.example/g00765/impl"
)

// knownLine is what the desk knows, as the table of the chapter has it.
var knownLine = regexp.MustCompile(`(?s)^(?:(say|up|task|alive) (.+)|(sweep|out|look)|(slice) (0|-?[1-9][0-9]{0,8}) (0|-?[1-9][0-9]{0,8}))$`)

// modelLine is a world behind a line, and the answer, as the chapters' own functions tell them.
func modelLine(w impl.World, line string) (impl.World, string) {
	part := knownLine.FindStringSubmatch(line)
	if part == nil {
		return w, "what"
	}
	switch part[1] + part[3] + part[4] {
	case "say":
		z, answers := impl.Say(w, part[2])
		return z, strings.Join(answers, " ")
	case "up":
		z, report := impl.Upgrade(w, strings.Join(strings.Split(part[2], "\\"), "\n"))
		if report.Code == impl.UpOk {
			return z, strings.Join(append([]string{"0"}, report.Made...), " ")
		}
		return z, fmt.Sprint(report.Code, report.Detail)
	case "task":
		z, id := impl.Post(w, part[2])
		return z, fmt.Sprint(id)
	case "alive":
		return w, strings.Trim(fmt.Sprint(impl.Alive(w, part[2])), "[]")
	case "sweep":
		return impl.Sweep(w), fmt.Sprint(impl.Waste(w))
	case "out":
		return w, strings.Join(w.Sys.Out, " ")
	case "look":
		return w, fmt.Sprint(len(impl.Portrait(w)))
	}
	id, _ := strconv.Atoi(part[5])
	fuel, _ := strconv.Atoi(part[6])
	z, answer := impl.Slice(w, id, fuel)
	if answer == "" {
		answer = "none"
	}
	return z, answer
}

// linesOf are the lines of a text, byte by byte.
func linesOf(text string) []string {
	var all []string
	var line []byte
	for i := range len(text) {
		if text[i] == 10 {
			all, line = append(all, string(line)), nil
		} else {
			line = append(line, text[i])
		}
	}
	if len(line) > 0 {
		all = append(all, string(line))
	}
	return all
}

// modelDesk says it in the document's own words.
func modelDesk(text string) string {
	lines := linesOf(text)
	if len(text) > 20000 || len(lines) > 80 {
		return ""
	}
	w, answer, all := impl.NewWorld(), "", ""
	for _, line := range lines {
		if len(line) > 0 {
			w, answer = modelLine(w, line)
			all += answer + "\n"
		}
	}
	return all
}

// withBytes are those of some lines that have one.
func withBytes(lines []string) []string {
	return slices.DeleteFunc(slices.Clone(lines), func(line string) bool { return line == "" })
}

// ended is each of some lines with its byte 10.
func ended(lines []string) string {
	return each(lines, "", "\n")
}

// cutAt shortens what is to be seen of a long text.
func cutAt(text string, most int) string {
	if len(text) > most {
		return fmt.Sprintf("%.*q.. (%d bytes)", most, text, len(text))
	}
	return fmt.Sprintf("%q", text)
}

// wantAnswered asks for just these answers to a text, and P22 of it: a line for each line that has a byte.
func wantAnswered(t *testing.T, text string, want []string) {
	t.Helper()
	got := impl.Desk(text)
	if got != ended(want) {
		t.Fatalf("Desk(%s) = %s; want %s", cutAt(text, 6000), cutAt(got, 2000), cutAt(ended(want), 2000))
	}
	if lines := withBytes(linesOf(text)); len(want) > 0 && strings.Count(got, "\n") != len(lines) {
		t.Fatalf("Desk(%s) has %d lines; %d lines have a byte", cutAt(text, 6000), strings.Count(got, "\n"), len(lines))
	}
}

// wantDesk asks for lines and their answers, which stand in turn: of all of them, of the first ones alone, with the last
// byte 10 and without it, and as the model has it.
func wantDesk(t *testing.T, pairs ...string) {
	t.Helper()
	var lines, answers []string
	for i := 0; i < len(pairs); i += 2 {
		lines, answers = append(lines, pairs[i]), append(answers, pairs[i+1])
		wantAnswered(t, ended(lines), answers)
		wantAnswered(t, strings.Join(lines, "\n"), answers)
	}
	if text := ended(lines); modelDesk(text) != ended(answers) {
		t.Fatalf("%q: the model has %q", text, modelDesk(text))
	}
}

func TestLimitsOfTheDesk(t *testing.T) {
	if impl.MaxText != 20000 || impl.MaxLines != 80 {
		t.Error("limits", impl.MaxText, impl.MaxLines)
	}
}

func TestSaidAtTheDesk(t *testing.T) {
	wantDesk(t, "say 1", "1", "say 1 'a #t", "1 a #t", "say (+ 1 2)", "3", "say (define x 5)", "ok", "say x (+ x 1)", "5 6",
		"say (define (f y) (cons x y)) (f 'a)", "ok (5 . a)", "say (set! x 7) (f f)", "7 (7 . fn)")
	wantDesk(t, "say (error 'a) (car 1) nobody ((lambda () 1) 2) (if) (import aa)", "error a type unbound arity form no",
		"say ((lambda (x) (x x)) (lambda (x) (x x)))", "running")
	// no datum, no answer, but a line
	wantDesk(t, "say ;", "", "say ; 1 2", "", "say '() ; 5", "()", "say \t", "")
	// what cannot be read is not done at all
	wantDesk(t, "say (", "read 1", "say )", "read 0", "say (define y 1) )", "read 13", "say y", "unbound", "say \\", "read 0", "say 1 \\ 2", "read 2",
		"say ; \\ 1", "", "say 1\r", "read 1", "say \xff", "read 0", "say A", "read 0")
	wantDesk(t, "say say", "unbound", "say look out", "unbound unbound", "say (define say 1) say", "ok 1", "say what", "unbound", "say 'what", "what")
}

func TestChangedAtTheDesk(t *testing.T) {
	wantDesk(t, "up (library aa)", "0 aa", "up (library aa)", "0 aa", "up (library bb) (import aa)", "0 bb", "up (library cc) (import aa bb)", "0 cc",
		"up (library aa) (export f) (define f 1)", "0 aa bb cc", "up (library bb)", "0 bb cc", "alive aa", "3", "alive bb", "3", "alive cc", "3")
	// each code, with its detail
	wantDesk(t, "up (", "1 1", "up 5", "1 2", "up (library aa) (define f 1) (define f 2)", "1 3", "up (library aa) (export f)", "1 4", "up ;", "1 2",
		"up (library aa) (import zz)", "2 0",
		"up (library aa)", "0 aa", "up (library bb) (import aa)", "0 bb", "up (library aa) (import bb)", "3 0",
		"up (library cc) (define f nobody)", "4 1", "up (library cc) (define f (car 1))", "4 2", "up (library cc) (define f (* 1000000 1000000))", "4 3", "up (library cc) (define f (error 'a))", "4 4",
		"up (library cc) (define f ((lambda () 1) 2))", "4 5", "up (library cc) (define f ((lambda (x) (x x)) (lambda (x) (x x))))", "4 7",
		"up (library cc) (record pt 1) (define p (make pt 5))", "0 cc", "up (library cc) (record pt 1) (convert pt (lambda (r) 1))", "5 0",
		"up (library cc) (record ln 1) (record pt 1) (convert ln car) (convert pt (lambda (r) '(1 2)))", "1 2",
		"up (library cc) (record ln 1) (record pt 1) (convert ln 1) (convert pt (lambda (r) '(1 2)))", "5 1",
		"alive cc", "1", "look", "15")
	wantDesk(t, "up say 1", "1 2", "up up (library aa)", "1 2", "up (library up)", "0 up", "alive up", "1")
}

// What is refused leaves what there is.
func TestRefusedAtTheDesk(t *testing.T) {
	wantDesk(t, "up (library aa) (export f) (define (f) 1)", "0 aa", "say (import aa) (f)", "ok 1",
		"up (library aa) (export f) (define (f) 2) (define g (car 1))", "4 2", "say (f)", "1",
		"up (library aa) (export f) (define (f) 3)", "0 aa", "say (f)", "3", "up (library aa)", "0 aa", "say (f)", "unbound")
}

// Each \ in a text of a library is a byte 10, whatever stands on both sides of it.
func TestLinesWithinALine(t *testing.T) {
	wantDesk(t, `up \`, "1 2", `up \\\`, "1 2", `up \(library aa)`, "0 aa", `up (library aa)\`, "0 aa", `up (library\aa)`, "0 aa", `up \(\library\\aa\)\`, "0 aa",
		`up (lib\rary aa)`, "1 2", `up (library a\a)`, "1 2", `up (library aa\`, "1 1")
	// a remark ends there
	wantDesk(t, `up ; one\(library aa)`, "0 aa", `up ; one (library aa)`, "1 2", `up (library aa) ; (\(export f) ; )))\(define f 5) ;\`, "0 aa",
		"say (import aa) f", "ok 5", `up (library aa);\;\(export f);;\(define f;)\6);`, "0 aa", "say f", "6",
		`up (library aa) (export f);\(define f 7) ; (define f 8)`, "0 aa", "say f", "7")
	// in other lines it is the byte that it is
	wantDesk(t, `say 1\2`, "read 1", `say ; 1\2`, "", `task 1\`, "0", `task ; a\5`, "0", `task 5 ; a\`, "1", `alive aa\`, "", `slice 1\1`, "what", `slice 1 1\`, "what", `look\`, "what", `out\look`, "what", `say 1\say 2`, "read 1")
}

func TestTasksAtTheDesk(t *testing.T) {
	wantDesk(t, "task 5", "1", "slice 1 0", "running", "slice 1 9", "5", "slice 1 0", "5", "slice 1 9", "5")
	wantDesk(t, "slice 1 9", "none", "task (f 2)", "1", "slice 2 9", "none", "slice 0 9", "none", "say (define (f x) (cons x x))", "ok", "task (car 1)", "2", "task (error 'a)", "3",
		"slice 3 9", "error a", "slice 2 99", "type", "slice 1 99", "(2 . 2)", "task nobody", "4", "slice 4 1", "unbound")
	wantDesk(t, "task (", "0", "task 1 2", "0", "task ;", "0", "task (if)", "0", "task (import aa)", "1", "task (define x 1)", "0", "task 'task", "2", "slice 2 9", "task")
	// step by step
	wantDesk(t, "task (begin (print 'a) (print 'b) (print 'c))", "1", "slice 1 3", "running", "out", "", "slice 1 1", "running", "out", "a", "slice 1 3", "running", "out", "a", "slice 1 1", "running", "out", "a b", "slice 1 4", "running", "out", "a b c", "slice 1 99", "c", "out", "a b c")
	// as many as there may be
	wantDesk(t, "task 1", "1", "task 2", "2", "task 3", "3", "task 4", "4", "task 5", "5", "task 6", "6", "task 7", "0", "slice 6 9", "6", "task 7", "0", "slice 7 9", "none", "slice 1 9", "1")
}

// Numbers are what ReadDec takes: with - ahead of them, too, and of at most nine digits.
func TestNumbersAtTheDesk(t *testing.T) {
	wantDesk(t, "task ((lambda (x) (x x)) (lambda (x) (x x)))", "1", "slice 1 999999999", "running", "slice 1 -1", "running", "slice 1 -999999999", "running", "slice 1 0", "running",
		"slice -1 1", "none", "slice -999999999 1", "none", "slice 999999999 1", "none", "slice 0 0", "none", "slice -1 -1", "none")
	wantDesk(t, "task 1", "1", "slice 1 -1", "running", "slice 1 2", "1", "slice 1 -1", "1")
	wantDesk(t, "task 1", "1", "slice 1 1000000000", "what", "slice 1000000000 1", "what", "slice 1 -1000000000", "what", "slice -1000000000 1", "what", "slice 1 0000000001", "what",
		"slice 01 9", "what", "slice 1 09", "what", "slice 1 00", "what", "slice -0 1", "what", "slice 1 -0", "what", "slice 1 -01", "what", "slice +1 9", "what", "slice 1 +9", "what", "slice 1 - 9", "what", "slice - 1 9", "what",
		"slice 1 9", "1")
	// a slice of more than MaxSteps steps is one of MaxSteps
	long := "task ((lambda (f) (f f 0)) (lambda (f n) (if (< n 400) (f f (+ n 1)) n)))"
	var pairs []string
	for _, fuel := range []string{"3000", "3001", "999999999"} {
		pairs = []string{long, "1", "slice 1 " + fuel, "running", "slice 1 3000", "running"}
		wantDesk(t, pairs...)
	}
	w, _ := impl.Post(impl.NewWorld(), long[5:])
	steps := 0
	for m := w.Tasks[0].Mac; m.Mode != impl.MoEnd; {
		var taken int
		w.Sys, m, taken = impl.Run(w.Sys, m, 1000)
		steps += taken
	}
	if steps <= 6000 {
		t.Fatal("not long", steps)
	}
	wantDesk(t, append(pairs, fmt.Sprint("slice 1 ", steps-6000-1), "running", "slice 1 1", "400")...)
}

func TestSweptAtTheDesk(t *testing.T) {
	wantDesk(t, "sweep", "0", "say 1 2 3", "1 2 3", "sweep", "3", "sweep", "0", "say (cons 1 2)", "(1 . 2)", "sweep", "2", "say (define x (cons 1 2)) 5", "ok 5", "sweep", "2", "sweep", "0",
		"up (library aa) (define f (lambda () 1))", "0 aa", "sweep", "0", "up (library aa)", "0 aa", "sweep", "3", "say x", "(1 . 2)", "sweep", "1")
	wantDesk(t, "task 5", "1", "sweep", "0", "slice 1 9", "5", "sweep", "0", "say (import aa)", "no", "sweep", "0", "say (if) (", "read 6", "sweep", "0")
}

func TestAliveAtTheDesk(t *testing.T) {
	wantDesk(t, "alive aa", "", "up (library aa) (export f) (define (f) 1)", "0 aa", "alive aa", "1", "say (import aa) (define old f)", "ok ok",
		"up (library aa) (export f) (define (f) 2)", "0 aa", "alive aa", "1 2", "up (library aa) (export f) (define (f) 3)", "0 aa", "alive aa", "1 3",
		"say (define older f)", "ok", "up (library aa)", "0 aa", "alive aa", "1 3 4", "sweep", "5", "alive aa", "1 3 4",
		"say (old) (older) (define old 1)", "1 3 ok", "alive aa", "3 4", "say (define older 1)", "ok", "alive aa", "4", "sweep", "10", "alive aa", "4")
	// nothing but the name of a library is one
	wantDesk(t, "up (library aa)", "0 aa", "alive  aa", "", "alive aa ", "", "alive aa aa", "", "alive AA", "", "alive a", "", "alive aaa", "", "alive aa;", "", "alive  ", "", "alive 5", "", "alive ()", "", "alive \xff", "", "alive aa", "1")
	// the session is a library, too, and has no name that could be asked for
	wantDesk(t, "say (define x 1)", "ok", "alive x", "", "alive  ", "")
}

func TestOutAndLookAtTheDesk(t *testing.T) {
	wantDesk(t, "out", "", "look", "0", "say (print 1)", "1", "out", "1", "look", "2", "say (print 'abc) (print '(1 2))", "abc (1 2)", "out", "1 abc (1 2)", "look", "12", "out", "1 abc (1 2)")
	wantDesk(t, "up (library aa)", "0 aa", "look", "5", "say (define x 12)", "ok", "look", "10", "task 5", "1", "look", "20", "slice 1 9", "5", "look", "14", "say (print x)", "12", "look", "17",
		"up (library aa) (export y) (define y 7)", "0 aa", "look", "17", "say (import aa)", "ok", "look", "21", "sweep", "4", "look", "21", "say (define x 'x)", "ok", "look", "20")
	// a change prints, too; what is refused prints nothing
	wantDesk(t, "up (library aa) (define x (print 'a)) (define y (print 'b))", "0 aa", "out", "a b", "up (library aa) (define x (print 'c)) (define y (car (print 'd)))", "4 2", "out", "a b")
}

// A desk where all is full goes on.
func TestFullAtTheDesk(t *testing.T) {
	ones := strings.TrimSpace(repeated("1", impl.MaxUnits))
	wantDesk(t, "say "+ones, ones, "say 1", "full", "say (define x 1) (import aa) (if)", "full no form", "task 1", "0", "up (library aa)", "0 aa", "up (library aa) (define f 1)", "4 7",
		"sweep", "60", "say 1", "1", "task 1", "1", "up (library aa) (define f 1)", "0 aa")
	prints := "say " + strings.TrimSpace(repeated("(print 'a)", impl.MaxOut))
	all := strings.TrimSpace(repeated("a", impl.MaxOut))
	wantDesk(t, prints, all, "out", all, "say (print 'b)", "full", "out", all, "sweep", "41", "say (print 'b)", "full")
	list := "'(" + strings.TrimSpace(repeated("a", impl.MaxHeap/3)) + ")"
	wantDesk(t, "say (define x "+list+") (define y "+list+")", "ok ok", "say (define x 1) (define z "+list+")", "ok ok", "say (cons 1 2)", "full", "up (library aa) (define f (cons 1 2))", "4 7", "sweep", "105", "say (cons 1 2)", "(1 . 2)")
	var pairs []string
	for _, lib := range names("aa bb cc dd ee ff") {
		pairs = append(pairs, "up (library "+lib+")", "0 "+lib)
	}
	wantDesk(t, append(pairs, "up (library gg)", "6 0", "up (library a)", "6 0", "up (library aa)", "0 aa", "up (library gg)", "6 0", "sweep", "1", "up (library gg)", "6 0")...)
	pairs = nil
	for range impl.MaxInsts - 1 {
		pairs = append(pairs, "up (library aa)", "0 aa")
	}
	wantDesk(t, append(pairs, "up (library aa)", "4 7", "alive aa", "11", "sweep", "10", "up (library aa)", "0 aa", "alive aa", "12")...)
}

func TestRestsOfOneByte(t *testing.T) {
	wantDesk(t, "say 1", "1", "say  ", "", "say ;", "", "say x", "unbound", "say (", "read 1", "say .", "read 0", "say '", "read 1", "say \t", "", "say \x00", "read 0")
	wantDesk(t, "up  ", "1 2", "up 1", "1 2", "up (", "1 1", "up x", "1 2", `up \`, "1 2", "up ;", "1 2")
	wantDesk(t, "task  ", "0", "task 1", "1", "task x", "2", "task (", "0", "task ;", "0", "slice 1 9", "1", "slice 2 9", "unbound")
	wantDesk(t, "up (library a)", "0 a", "alive a", "1", "alive b", "", "alive  ", "", "alive 1", "")
	wantDesk(t, "slice 1", "what", "slice  ", "what", "slice -", "what")
	wantDesk(t, "sweep  ", "what", "out  ", "what", "look  ", "what", "sweep 1", "what", "out 1", "what", "look 1", "what")
}

func TestBlanksInRests(t *testing.T) {
	wantDesk(t, "say  1", "1", "say 1 ", "1", "say   1   2   ", "1 2", "say \t1\t", "1", "say ( + 1 2 )", "3")
	wantDesk(t, "up   (library   aa)   ", "0 aa", "up  ( library aa )\t(export)", "0 aa", "alive aa", "2")
	wantDesk(t, "task  5", "1", "task 5 ", "2", "task   ( + 1  2 )  ", "3", "slice 1 9", "5", "slice 2 9", "5", "slice 3 99", "3")
	wantDesk(t, "task 5", "1", "slice  1 9", "what", "slice 1  9", "what", "slice 1 9 ", "what", "slice 1 9  ", "what", "slice  1  9 ", "what", "slice 1\t9", "what", "slice\t1 9", "what", "slice 1 9", "5")
	wantDesk(t, "up (library aa)", "0 aa", "alive  aa", "", "alive aa ", "", "alive aa bb", "", "alive aa", "1")
}

// wrongLines are those that the desk does not know.
func wrongLines() []string {
	lines := []string{
		" ", "  ", "   ", "\t", "\r", "\x00", "\xff\xfe", "\\", "what", "none", "1", "5 1", "-", "(+ 1 2)", "(say 1)", "; say 1", "' say 1", "help", "quit", "lib aa", "round 5", "cancel 1", "plan (library aa)", "portrait", "waste", "upgrade (library aa)", "post 1", "exports aa",
		"says 1", "sa 1", "sa y 1", "say1", "say(1)", "say'1", "say\t1", "say\x001", "say\r", "\rsay 1", "upp (library aa)", "u p (library aa)", "up(library aa)", "up\\(library aa)", "up\t(library aa)", "task(1)", "tasks 1", "task\t1",
		"slice1 1", "slice 1", "slice 1 ", "slice  ", "slice  1", "slice 1 1 1", "slice 1 1 ", "slice  1 1", "slice 1  1", "slice\t1 1", "slice 1\t1", "slice 1,1", "slice 1.1", "slice a b", "slice 1 b", "slice a 1", "slice (1 1)", "slice 1 1;", "slice 1 1\r", "slice 1 1e1", "slice 0x1 1", "slice 1 1_0", "slice \xff 1", "slice 1 \xff",
		"slice +1 1", "slice 1 +1", "slice -0 1", "slice 1 -0", "slice 01 1", "slice 1 01", "slice 1 --1", "slice --1 1", "slice - 1", "slice 1 -", "slice 1234567890 1", "slice 1 1234567890", "slice 1 -1234567890", "slice 18446744073709551617 1", "slice 1 9223372036854775807",
		"sweep 1", "sweep aa", "sweeps", "sweep\t", "sweep\r", "out 1", "out aa", "outs", "out\t", "look 1", "look aa", "looks", "look\r", "look out", "alive\taa", "aliv e aa",
	}
	for _, word := range names("say up task slice sweep alive out look") {
		lines = append(lines, word+" ", " "+word, " "+word+" ", "  "+word, "\t"+word, strings.ToUpper(word), strings.ToUpper(word[:1])+word[1:], word[1:], word[:len(word)-1], word+word, word+".", "\""+word+"\"")
		if !slices.Contains(names("sweep out look"), word) {
			lines = append(lines, word)
		} else {
			lines = append(lines, word+"  ", word+" "+word)
		}
		for _, rest := range []string{" 1", " (library zz)", " 1 1", " aa"} {
			lines = append(lines, " "+word+rest, strings.ToUpper(word)+rest, strings.ToUpper(word[:1])+word[1:]+rest, word+"\t"+rest, word[:len(word)-1]+rest)
		}
	}
	return lines
}

func TestLinesThatTheDeskDoesNotKnow(t *testing.T) {
	t.Parallel()
	for _, line := range wrongLines() {
		wantDesk(t, line, "what")
		// nothing is done: all is answered as without it
		wantDesk(t, "up (library aa) (export f) (define (f) 1)", "0 aa", line, "what", "say (import aa) (define old f)", "ok ok", line, "what", "task (cons (f) (old))", "1", line, "what",
			"slice 1 1", "running", line, "what", "up (library aa) (export f) (define (f) 2)", "0 aa", line, "what", "alive aa", "1 2", "sweep", "1", line, "what", "alive aa", "1 2",
			line, "what", "slice 1 99", "(2 . 1)", line, "what", "out", "", "look", "27", line, "what", "task 5", "2", "say (f)", "2", "sweep", "2")
	}
}

func TestLinesWithoutAByte(t *testing.T) {
	for text, want := range map[string]string{
		"": "", "\n": "", "\n\n\n": "", "look": "0", "look\n": "0", "\nlook": "0", "\n\n\nlook\n\n": "0", "look\n\nlook": "0|0", "look\nlook\n": "0|0", "\n\nlook\n\n\n\nsay 1\n\n": "0|1",
		" \n": "what", "\n \n": "what", " ": "what", " \n \n ": "what|what|what", "\r\n": "what", "look\r\nlook\r\n": "what|what", "say 1\r\n": "read 1", "say \n": "what", "say  \n": "", "say ;\n\nsay ;\n": "|",
	} {
		answers := strings.Split(want, "|")
		if len(withBytes(linesOf(text))) == 0 {
			answers = nil
		}
		wantAnswered(t, text, answers)
		if modelDesk(text) != ended(answers) {
			t.Errorf("%q: the model has %q", text, modelDesk(text))
		}
	}
}

// wantDeskAsModelled asks for what the model has, and tells it.
func wantDeskAsModelled(t *testing.T, text string) string {
	t.Helper()
	got, want := impl.Desk(text), modelDesk(text)
	if got != want {
		t.Fatalf("Desk(%s) = %s; want %s", cutAt(text, 6000), cutAt(got, 2000), cutAt(want, 2000))
	}
	return got
}

func TestTextsOfMaxTextBytes(t *testing.T) {
	long := "say 1" + strings.Repeat(" ", impl.MaxText-5)
	wantAnswered(t, long, names("1"))
	wantAnswered(t, long[1:]+"\n", names("what"))
	wantAnswered(t, long[:impl.MaxText-1]+"\n", names("1"))
	wantAnswered(t, long[:impl.MaxText-1]+"2", []string{"1 2"})
	wantAnswered(t, long+" ", nil)
	wantAnswered(t, long+"\n", nil)
	wantAnswered(t, long+long, nil)
	for _, one := range []string{"x", "\n", " ", "\x00", "look\n"} {
		wantAnswered(t, strings.Repeat(one, impl.MaxText+1), nil)
		wantAnswered(t, strings.Repeat(one, 50*impl.MaxText), nil)
	}
	wantAnswered(t, strings.Repeat("x", impl.MaxText), names("what"))
	wantAnswered(t, strings.Repeat(" ", impl.MaxText), names("what"))
	wantAnswered(t, strings.Repeat("\xff", impl.MaxText), names("what"))
	wantAnswered(t, "alive "+strings.Repeat("a", impl.MaxText-6), []string{""})
	wantAnswered(t, "up "+strings.Repeat("\\", impl.MaxText-3-len("(library aa)"))+"(library aa)", []string{"0 aa"})
	wantAnswered(t, "say "+strings.Repeat("1 ", impl.MaxText/2-2), []string{fmt.Sprint("read ", 2*impl.MaxCells)})
	wantAnswered(t, "say "+strings.Repeat("(", impl.MaxText-4), []string{"read 24"})
	wantAnswered(t, "slice 1 "+strings.Repeat("1", impl.MaxText-8), names("what"))
	// as many bytes in as many lines as there may be
	var lines, answers []string
	for i := range impl.MaxLines {
		line := fmt.Sprint("say ", i)
		lines, answers = append(lines, line+strings.Repeat(" ", impl.MaxText/impl.MaxLines-len(line)-1)), append(answers, fmt.Sprint(i))
		if i >= impl.MaxUnits {
			answers[i] = "full"
		}
	}
	text := ended(lines)
	wantAnswered(t, text, answers)
	wantAnswered(t, text[:impl.MaxText-1], answers)
	wantAnswered(t, text[:impl.MaxText-1]+";", answers)
	wantAnswered(t, text[:impl.MaxText-1]+";\n", nil)
}

func TestTextsOfMaxLinesLines(t *testing.T) {
	zeros := strings.Fields(repeated("0", impl.MaxLines))
	all := strings.Repeat("look\n", impl.MaxLines)
	wantAnswered(t, all, zeros)
	wantAnswered(t, all[:len(all)-1], zeros)
	wantAnswered(t, all[5:], zeros[1:])
	for _, more := range []string{"\n", "x", " ", "look", "look\n", all} {
		wantAnswered(t, all+more, nil)
		wantAnswered(t, more+"\n"+all, nil)
	}
	// lines without a byte count, wherever they stand
	empty := strings.Repeat("\n", impl.MaxLines)
	for _, count := range []int{0, 1, 5, 40, 78, 79} {
		wantAnswered(t, empty[:count]+"look", zeros[:1])
		wantAnswered(t, empty[:count]+"look\n", zeros[:1])
		wantAnswered(t, "look\n"+empty[:count], zeros[:1])
		wantAnswered(t, "look\n"+empty[:count/2]+"look\n"+empty[:impl.MaxLines-2-count/2], zeros[:2])
		wantAnswered(t, "look\n"+empty[:count/2]+"look\n"+empty[:impl.MaxLines-1-count/2], nil)
	}
	wantAnswered(t, empty, nil)
	wantAnswered(t, empty[:impl.MaxLines-1]+"say 1", names("1"))
	wantAnswered(t, empty+"say 1", nil)
	wantAnswered(t, "say 1"+empty, names("1"))
	wantAnswered(t, "say 1\n"+empty, nil)
	wantAnswered(t, "say 1\n"+empty[1:]+" ", nil)
	wantAnswered(t, "say 1\n"+empty[2:]+" ", names("1 what"))
}

// What is long is told as it is.
func TestLongAnswersAtTheDesk(t *testing.T) {
	deep := "'(1 2 3 4 5 6 7 8 9)"
	for range 15 {
		deep = "(twice " + deep + ")"
	}
	text := "say (define (twice x) (cons x x)) (define x " + deep + ") (begin " + repeated("(print x)", impl.MaxOut) + ")\nout\nlook\nsay (print 1)\nlook\n"
	got := strings.Split(wantDeskAsModelled(t, text), "\n")
	said := strings.TrimPrefix(got[0], "ok ok ")
	if len(said) != impl.MaxTell || len(got[1]) != impl.MaxOut*(impl.MaxTell+1)-1 || got[1] != strings.TrimSpace(repeated(said, impl.MaxOut)) {
		t.Error("bytes", len(said), len(got[1]))
	}
	look := fmt.Sprint(len("twice fn\n") + len("x \n") + impl.MaxTell + impl.MaxOut*(impl.MaxTell+1))
	if !alike(got[2:], []string{look, "full", look, ""}) {
		t.Error("look", got[2:], look)
	}
}

// deskLine is a line for a desk that has come to w, by chance.
func (m maker) deskLine(w impl.World) string {
	if len(w.Sys.Units) > impl.MaxUnits-6 && m.r.Intn(8) == 0 || len(w.Sys.Insts) > impl.MaxInsts-2 && m.r.Intn(3) == 0 {
		return "sweep"
	}
	libs := names("aa bb cc dd")
	switch m.r.Intn(20) {
	case 0, 1, 2, 3:
		spare := "(library " + m.pick(names("dd ee ff gg hh ii jj")...) + ")"
		text := m.pick(m.edition(), m.edition(), m.change(libs, libsOf(w)), m.carrying(m.pick("aa", "bb"), libsOf(w)), m.change(libs, libs), spare, spare, m.pick("(library aa) (record pt 1) (convert pt (lambda (r) 1))", spare))
		if m.r.Intn(8) == 0 {
			text = m.spoilt(text)
		}
		return "up " + strings.ReplaceAll(text, ") (", m.pick(") (", `)\(`, `) ; and \ (`, `)\\(`))
	case 4:
		return "say " + m.pick(repeated("(cons 1 2)", 50), "(import aa) (define x f)", "(import aa) (define y g)", "(import bb) (define a (cons f a))", "(define x0 (lambda () (f x0)))")
	case 5, 6, 7, 8:
		return "say " + strings.ReplaceAll(m.taken(w)+m.sayings(w, 4), "\n", m.pick(" ", " ", "\\", "  "))
	case 9, 10:
		return "task " + m.pick("(f 1)", "(set! f 1)", "(g (f 2))", "(f (lambda () g))", "(begin (f 1) (print 2) (h 3))", "(cons rec (rec))", "(error v)", "7", "(f 1) 2", "(if)", m.form(2))
	case 11, 12, 13:
		return fmt.Sprint("slice ", 1+m.r.Intn(w.Next)-m.r.Intn(2), " ", m.r.Intn(30)-m.r.Intn(3))
	case 14:
		return "sweep"
	case 15:
		for _, lib := range libsOf(w) {
			if len(impl.Alive(w, lib)) > 1 {
				return "alive " + lib
			}
		}
		return "alive " + m.pick("aa", "bb", "cc", "dd", "zz", "ee")
	case 16:
		return "out"
	case 17:
		return "look"
	case 18:
		return ""
	}
	return m.pick(wrongLines()...)
}

// deskText is a text of so many lines at most, by chance, and the answer to each line in it that has a byte.
func (m maker) deskText(most int) (lines, answers []string) {
	w, answer := impl.NewWorld(), ""
	for range most {
		line := m.deskLine(w)
		if len(ended(lines))+len(line) >= impl.MaxText {
			break
		}
		lines = append(lines, line)
		if line != "" {
			w, answer = modelLine(w, line)
			answers = append(answers, answer)
		}
	}
	return lines, answers
}

// countLine notes which sort of line was answered in which way.
func countLine(seen map[string]int, line, answer string) {
	word, _, _ := strings.Cut(line, " ")
	switch {
	case answer == "what":
		seen["what"]++
	case word == "say":
		countAnswers(seen, strings.Split(answer, " "))
	case word == "up":
		seen["up "+answer[:1]]++
	case word == "slice" && slices.Contains(names("none running type unbound"), answer):
		seen["slice "+answer]++
	case answer == "" || answer == "0":
		seen[word+" nothing"]++
	case strings.Contains(answer, " "):
		seen[word+" several"]++
	default:
		seen[word]++
	}
}

// Each line is answered as the chapters' own functions answer in the same world.
func TestDeskByChance(t *testing.T) {
	t.Parallel()
	m, seen := maker{rand.New(rand.NewSource(221))}, map[string]int{}
	for range 100 {
		lines, answers := m.deskText(1 + m.r.Intn(impl.MaxLines))
		text := ended(lines)
		wantAnswered(t, text, answers)
		wantAnswered(t, strings.TrimSuffix(text, "\n"), answers)
		for i, line := range withBytes(lines) {
			countLine(seen, line, answers[i])
		}
	}
	wantAll(t, seen, 10, "what|told|ok|no|form|full|read|unbound|type|up 0|up 1|up 2|up 4|up 6|slice|slice none|slice running|slice type|slice unbound|task|task nothing|sweep|sweep nothing|alive|alive nothing|alive several|out|out nothing|out several|look|look nothing")
	wantAll(t, seen, 4, "up 3|up 5|error|arity|running")
}

// scribble is a text of all sorts of bytes, by chance.
func (m maker) scribble(most int) string {
	text := ""
	for range m.r.Intn(most + 1) {
		text += m.pick("say", "say ", "up ", "task ", "slice ", "sweep", "alive ", "out", "look", "\nsay ", "\nup (library aa)", "\ntask 5\n", "\nslice 1 ", "\nsweep\n", "\nalive aa\n", "\nout\n", "\nlook\n",
			" ", " ", "\n", "\n", "\n\n", "1", "2", "0", "-", "(", ")", "'", "a", "\\", ";", "(library aa)", "(library bb) (import aa)", "(define x 1)", "(print 'a)", "x", "\r", "\t", "\x00", "\xff", "SAY", "01", "(f")
	}
	return text
}

// Each line that has a byte is answered by just one line, one without a byte by none, whatever stands in it.
func TestEachLineHasOneAnswer(t *testing.T) {
	t.Parallel()
	m, lines, refused, empty := maker{rand.New(rand.NewSource(222))}, 0, 0, 0
	for range 2500 {
		text := m.scribble(40 + 40*m.r.Intn(8))
		got, all := wantDeskAsModelled(t, text), linesOf(text)
		if len(all) > impl.MaxLines {
			refused++
			continue
		}
		count := len(withBytes(all))
		if strings.Count(got, "\n") != count || count > 0 && !strings.HasSuffix(got, "\n") {
			t.Fatalf("%q: %d lines have a byte, and the answer is %q", text, count, got)
		}
		lines, empty = lines+count, empty+len(all)-count
	}
	if lines < 20000 || refused < 20 || empty < 5000 {
		t.Error("one sort was hardly there", lines, refused, empty)
	}
}

// Any byte, at any place of a line, leaves it one line.
func TestEachByteInALine(t *testing.T) {
	for b := range 256 {
		if b == 10 {
			continue
		}
		for _, line := range []string{"say 1", "up (library aa)", "task 5", "slice 1 9", "sweep", "alive aa", "out", "look", "x"} {
			for at := range len(line) + 1 {
				text := "say 7\n" + line[:at] + string([]byte{byte(b)}) + line[at:] + "\nsay 8\n"
				got := wantDeskAsModelled(t, text)
				if strings.Count(got, "\n") != 3 || !strings.HasPrefix(got, "7\n") || !strings.HasSuffix(got, "\n8\n") {
					t.Fatalf("%q is answered %q", text, got)
				}
			}
		}
	}
}

// What is answered to the first lines stays, whatever stands behind them.
func TestLinesBehindChangeNothing(t *testing.T) {
	t.Parallel()
	m, differ := maker{rand.New(rand.NewSource(223))}, 0
	for range 30 {
		lines, answers := m.deskText(impl.MaxLines)
		for range 12 {
			cut := m.r.Intn(len(lines))
			first, count := ended(lines[:cut]), len(withBytes(lines[:cut]))
			wantAnswered(t, first, answers[:count])
			others, _ := m.deskText(impl.MaxLines - cut)
			behind := m.pick(ended(others), ended(others), " ", "sweep", "(", "\xff", "\n\nlook")
			if len(first+behind) > impl.MaxText || len(linesOf(first+behind)) > impl.MaxLines {
				continue
			}
			got := impl.Desk(first + behind)
			if !strings.HasPrefix(got, ended(answers[:count])) || strings.Count(got, "\n") != count+len(withBytes(linesOf(behind))) {
				t.Fatalf("Desk(%s) = %s; the first %d lines alone are answered %s", cutAt(first+behind, 6000), cutAt(got, 2000), cut, cutAt(ended(answers[:count]), 2000))
			}
			if strings.TrimPrefix(got, ended(answers[:count])) != impl.Desk(behind) {
				differ++
			}
		}
	}
	if differ < 100 {
		t.Error("what stood ahead hardly mattered", differ)
	}
}

// quietLine is a line that is answered, but changes nothing of a world, by chance.
func (m maker) quietLine(w impl.World) string {
	return m.pick("alive aa", "alive bb", "alive zz", "out", "look", "say ;", "say (if)", "say (import zz)", "say )", "say (define x 1) (", "say (define) (if)", "up (", "up (library aa) (import zz)", "up (library cc) (define f (print (car 1)))",
		"up (library dd) (define f (begin (print 1) (cons 1 2) (error 'a)))", "up (library aa) (export zz)", "up (library bb) (import bb)", "task (", "task 1 2", "task (if)", "slice 0 5", "slice -1 5", "slice 99 5", fmt.Sprint("slice ", m.r.Intn(w.Next+1), " 0"), fmt.Sprint("slice ", m.r.Intn(w.Next+1), " -7"), m.pick(wrongLines()...))
}

// ofThese are those of a row that are its own.
func ofThese(row []string, its []bool) []string {
	return among(row, numbersOf(its))
}

// mixedText is a text of lines by chance with others between, which are none of the session's own; and of each line that
// has a byte whether it is its own.
func (m maker) mixedText(own, other func(w impl.World) string) (lines []string, its []bool) {
	w, size := impl.NewWorld(), 0
	for range impl.MaxLines {
		line, is := own(w), m.r.Intn(3) > 0
		if !is {
			line = other(w)
		}
		if size += len(line) + 1; size > impl.MaxText {
			break
		}
		lines = append(lines, line)
		if line == "" {
			continue
		}
		if its = append(its, is); is {
			w, _ = modelLine(w, line)
		}
	}
	return lines, its
}

// What changes nothing may stand anywhere: the lines behind it are answered as without it.
func TestLinesThatChangeNothing(t *testing.T) {
	t.Parallel()
	m, between := maker{rand.New(rand.NewSource(224))}, 0
	for range 80 {
		lines, its := m.mixedText(m.deskLine, m.quietLine)
		answers := strings.Split(impl.Desk(ended(lines)), "\n")
		without := ofThese(withBytes(lines), its)
		wantAnswered(t, ended(without), ofThese(answers, its))
		between += len(its) - len(without)
	}
	if between < 1500 {
		t.Error("hardly one changed nothing", between)
	}
}

// A sweep is not seen at the desk either, but by what is asked of the sweep, and where something was full. No converter is
// in it: that is handed what is not live, too.
func TestASweepIsNotSeenAtTheDesk(t *testing.T) {
	t.Parallel()
	m, same, full := maker{rand.New(rand.NewSource(225))}, 0, 0
	line := func(w impl.World) string {
		for {
			if line := m.deskLine(w); line != "sweep" && !strings.Contains(line, "convert") {
				return line
			}
		}
	}
	for range 60 {
		lines, its := m.mixedText(line, func(impl.World) string { return "sweep" })
		swept := ofThese(strings.Split(impl.Desk(ended(lines)), "\n"), its)
		without := ofThese(withBytes(lines), its)
		answers := strings.Split(impl.Desk(ended(without)), "\n")
		for i, answer := range swept {
			if one := answer + " " + answers[i]; strings.Contains(one, "full") || strings.Contains(one, "4 7") || strings.Contains(one, "6 0") || strings.HasPrefix(without[i], "task") && answer != answers[i] {
				full++
				break
			}
			if answer != answers[i] {
				t.Fatalf("%q: line %q is answered %q; %q without sweeps", lines, without[i], answer, answers[i])
			}
			same++
		}
	}
	if same < 1000 || full > 50 {
		t.Error("hardly one was alike", same, full)
	}
}

// Nothing is kept: one text changes nothing of what is answered to another.
func TestDeskKeepsNothing(t *testing.T) {
	texts := []string{"", "look", "say x", "say (define x 1) x", "say x\nout", "up (library aa) (export x) (define x (print 1))\nout\nlook", "out\nlook\nalive aa\nsay (import aa)", "task 5\nslice 1 9", "task 6\nslice 1 1", "slice 1 9", "sweep", "say 1 2 3\nsweep",
		"say 1 2 3", strings.Repeat("x", impl.MaxText+1), strings.Repeat("\n", impl.MaxLines+1), "\xff", "what"}
	m := maker{rand.New(rand.NewSource(226))}
	for range 12 {
		lines, _ := m.deskText(40)
		texts = append(texts, ended(lines))
	}
	wantAgain(t, texts, impl.Desk)
}
