package tests

import (
	"fmt"
	"slices"
	"strings"
	"sync"
	"testing"

	"loop.example/borrowcheck/impl"
)

// listsOf returns all lists of choices of a length, by counting with the first element as the one that changes most.
func listsOf(length int) [][]int {
	list := make([]int, length)
	lists := [][]int{}
	for {
		lists = append(lists, slices.Clone(list))
		at := slices.Index(list, 0)
		if at < 0 {
			return lists
		}
		clear(list[:at])
		list[at] = 1
	}
}

func TestChoicesOf(t *testing.T) {
	for length := range impl.MaxChoices + 1 {
		lists := listsOf(length)
		if len(lists) != 1<<length {
			t.Fatalf("%d lists of the length %d", len(lists), length)
		}
		for n, want := range lists {
			if got := impl.ChoicesOf(n, length); !slices.Equal(got, want) {
				t.Errorf("ChoicesOf(%d, %d) = %v, want %v", n, length, got, want)
			}
		}
	}
	for _, c := range []struct {
		n, length int
		want      string
	}{
		{0, 0, "[]"}, {0, 1, "[0]"}, {1, 1, "[1]"}, {1, 2, "[1 0]"}, {2, 2, "[0 1]"}, {0, 6, "[0 0 0 0 0 0]"},
		{1, 6, "[1 0 0 0 0 0]"}, {32, 6, "[0 0 0 0 0 1]"}, {6, 4, "[0 1 1 0]"}, {63, 6, "[1 1 1 1 1 1]"},
	} {
		if got := fmt.Sprint(impl.ChoicesOf(c.n, c.length)); got != c.want {
			t.Errorf("ChoicesOf(%d, %d) = %s, want %s", c.n, c.length, got, c.want)
		}
	}
}

// farLengths are no lengths of lists of choices.
var farLengths = []int{-1 << 63, -1 << 32, -64, -6, -1, 7, 8, 31, 32, 63, 64, 65, 1 << 32, 1<<63 - 1}

func TestChoicesThatAreNot(t *testing.T) {
	for length := range impl.MaxChoices + 1 {
		for _, n := range []int{-1 << 63, -1 << length, -1, 1 << length, 1<<length + 1, 64, 128, 1 << 32, 1<<63 - 1} {
			if l := impl.ChoicesOf(n, length); len(l) != 0 {
				t.Errorf("ChoicesOf(%d, %d) = %v", n, length, l)
			}
		}
	}
	for _, length := range farLengths {
		for _, n := range []int{-1 << 63, -1, 0, 1, 63, 64, 127, 1<<63 - 1} {
			if l := impl.ChoicesOf(n, length); len(l) != 0 {
				t.Errorf("ChoicesOf(%d, %d) = %v", n, length, l)
			}
		}
	}
}

// explored is all that is known of the runs of a program with all lists of a length.
type explored struct {
	wrong, all int
	first      []int
	found      bool
	safe       bool
	points     []int
}

func (e explored) String() string {
	return fmt.Sprint(e.wrong, " of ", e.all, " first ", e.first, e.found, " safe ", e.safe, " at ", e.points)
}

func exploredBy(p impl.Program, length int) explored {
	var e explored
	e.wrong, e.all = impl.CountWrong(p, length)
	e.first, e.found = impl.FirstWrong(p, length)
	e.safe = impl.SafeUpTo(p, length)
	e.points = impl.WrongPoints(p, length)
	return e
}

// exploreCases are programs whose runs are tried with lists of a length, and how many go wrong, the first one, and where they do.
var exploreCases = []struct {
	text          string
	length, wrong int
	first, points string
}{
	// Programs without choices: all lists lead to the same run.
	{":", 0, 0, "", "[]"},
	{":", 6, 0, "", "[]"},
	{"ib:b=box 1;a=*b", 3, 0, "", "[]"},
	{"ib:a=*b", 0, 1, "[]", "[0]"},
	{"ib:a=*b", 1, 2, "[0]", "[0]"},
	{"ib:a=*b", 6, 64, "[0 0 0 0 0 0]", "[0]"},
	{"ibr:b=box 1;c=&b;drop b;a=*c", 2, 4, "[0 0]", "[3]"},
	{"ibr:a=3;b=box 1;c=&b;*b=a;a=*c", 2, 4, "[0 0]", "[4]"},
	// No choices at all: the second way comes at each choice.
	{"ib:if{b=box 1}{};a=*b", 0, 1, "[]", "[3]"},
	{"ib:if{}{b=box 1};a=*b", 0, 0, "", "[]"},
	{"ib:loop{a=*b}", 0, 0, "", "[]"},
	{"ib:loop{b=box 1};a=*b", 0, 1, "[]", "[3]"},
	// The example of the chapter, with fewer and more choices than the run makes.
	{"ib:if{b=box 1}{};a=*b", 1, 1, "[1]", "[3]"},
	{"ib:if{b=box 1}{};a=*b", 2, 2, "[1 0]", "[3]"},
	{"ib:if{b=box 1}{};a=*b", 6, 32, "[1 0 0 0 0 0]", "[3]"},
	{"ib:if{}{b=box 1};a=*b", 6, 32, "[0 0 0 0 0 0]", "[3]"},
	{"ib:if{b=box 1}{b=box 2};a=*b", 6, 0, "", "[]"},
	// Which list is the first one.
	{"ib:if{b=box 1}{if{b=box 1}{}};a=*b", 2, 1, "[1 1]", "[6]"},
	{"ib:if{if{b=box 1}{}}{b=box 1};a=*b", 2, 1, "[0 1]", "[6]"},
	{"ib:if{if{b=box 1}{}}{if{}{b=box 1}};a=*b", 2, 2, "[1 0]", "[8]"},
	{"ib:if{if{b=box 1}{}}{if{}{b=box 1}};a=*b", 1, 1, "[0]", "[8]"},
	{"ib:if{}{b=box 1};if{}{b=box 1};if{}{b=box 1};a=*b", 3, 1, "[0 0 0]", "[9]"},
	{"ib:if{b=box 1}{};if{b=box 1}{};if{b=box 1}{};a=*b", 3, 1, "[1 1 1]", "[9]"},
	{"ib:if{b=box 1}{};if{}{b=box 1};if{b=box 1}{};a=*b", 3, 1, "[1 0 1]", "[9]"},
	// Loops that go wrong the second time, and the third.
	{"ib:b=box 1;loop{drop b};b=box 2", 1, 0, "", "[]"},
	{"ib:b=box 1;loop{drop b};b=box 2", 2, 1, "[0 0]", "[2]"},
	{"ib:b=box 1;loop{drop b};b=box 2", 3, 2, "[0 0 0]", "[2]"},
	{"ib:b=box 1;loop{drop b};a=*b", 2, 2, "[0 0]", "[2 4]"},
	{"bb:a=box 1;loop{if{b=a}{a=b}}", 1, 1, "[0]", "[5]"},
	{"bb:a=box 1;loop{if{b=a}{a=b}}", 2, 1, "[0 1]", "[5]"},
	{"bb:a=box 1;loop{if{b=a}{a=b}}", 4, 5, "[0 0 0 0]", "[3 5]"},
	{"ibr:b=box 1;c=&b;loop{a=*c;b=box 2}", 2, 1, "[0 0]", "[3]"},
	{"ibm:a=1;b=box 1;c=&mut b;loop{*c=a;*b=a}", 2, 1, "[0 0]", "[4]"},
	// Runs that go wrong at several points, the last one first, and in different ways.
	{"ibr:b=box 1;c=&b;if{drop b}{if{b=box 2}{*b=a}};a=*c", 1, 2, "[0]", "[8 9]"},
	{"ibr:b=box 1;c=&b;if{drop b}{if{b=box 2}{*b=a}};a=*c", 2, 4, "[0 0]", "[8 9]"},
	{"ib:if{a=*b}{drop b};*b=a", 3, 8, "[0 0 0]", "[1 3]"},
	{"ibr:if{a=4;b=box 1}{};if{c=&b}{b=box 2};if{*b=a;drop b}{a=7};a=*c", 3, 7, "[0 0 0]", "[5 9 13]"},
	// Only as many choices as this go wrong.
	{"ii:" + strings.Repeat("if{}{a=1};", 6) + "b=a", 5, 0, "", "[]"},
	{"ii:" + strings.Repeat("if{}{a=1};", 6) + "b=a", 6, 1, "[0 0 0 0 0 0]", "[18]"},
	{"ii:" + strings.Repeat("if{}{a=1};", 7) + "b=a", 6, 0, "", "[]"},
	{"ii:" + strings.Repeat("if{a=1}{};", 6) + "b=a", 6, 1, "[1 1 1 1 1 1]", "[18]"},
	{"ii:" + strings.Repeat("if{a=1}{};", 7) + "b=a", 6, 1, "[1 1 1 1 1 1]", "[21]"},
}

func TestExploredRuns(t *testing.T) {
	for _, c := range exploreCases {
		e := exploredBy(parsed(t, c.text), c.length)
		first := ""
		if e.found {
			first = fmt.Sprint(e.first)
		}
		if e.wrong != c.wrong || e.all != 1<<c.length || e.safe != (c.wrong == 0) {
			t.Errorf("%s with %d choices: %v, want %d wrong ones", c.text, c.length, e, c.wrong)
		}
		if first != c.first || fmt.Sprint(e.points) != c.points || !e.found && len(e.first) != 0 {
			t.Errorf("%s with %d choices: %v, want first %s at %s", c.text, c.length, e, c.first, c.points)
		}
	}
}

// A run that is cut off behind 80 points has not gone wrong, whatever comes behind them.
func TestCutRuns(t *testing.T) {
	again := "loop{" + strings.TrimSuffix(strings.Repeat("a=1;", 11), ";") + "}"
	long := "loop{" + strings.TrimSuffix(strings.Repeat("a=1;", 27), ";") + "}"
	for _, c := range []struct {
		text          string
		wrong         int
		first, points string
	}{
		// With six zeros, the 80th point of the run uses what has no value, or the one behind it does.
		{"iib:" + again + ";b=*c", 64, "[0 0 0 0 0 0]", "[13]"},
		{"iib:" + again + ";b=*c;a=1;a=2", 64, "[0 0 0 0 0 0]", "[13]"},
		{"iib:a=1;" + again + ";b=*c", 63, "[1 0 0 0 0 0]", "[14]"},
		{"iib:" + again + ";a=1;b=*c", 63, "[1 0 0 0 0 0]", "[14]"},
		{"iib:" + again + ";a=1;b=*c;a=1", 63, "[1 0 0 0 0 0]", "[14]"},
		// Three zeros in front are enough, and two are not.
		{"iib:" + long + ";b=*c", 56, "[1 0 0 0 0 0]", "[29]"},
		{"iib:" + long + ";a=1;a=2", 0, "[]", "[]"},
		{"iib:b=*c;" + long, 64, "[0 0 0 0 0 0]", "[0]"},
	} {
		p := parsed(t, c.text)
		e := exploredBy(p, 6)
		if e.wrong != c.wrong || e.all != 64 || e.safe != (c.wrong == 0) || fmt.Sprint(e.first) != c.first || fmt.Sprint(e.points) != c.points {
			t.Errorf("%s: %v, want %d wrong ones, first %s at %s", c.text, e, c.wrong, c.first, c.points)
		}
	}
	p := parsed(t, "iib:a=1;"+again+";b=*c")
	if code, at := impl.RunProgram(p, make([]int, 6), 150); code != impl.RunUnset || at != 14 {
		t.Errorf("the whole run ends with %s at %d", endNames[code], at)
	}
	if code, _ := impl.RunProgram(p, make([]int, 6), 80); code != impl.RunCut {
		t.Errorf("the run of 80 points ends with %s", endNames[code])
	}
}

// modelOfExplored tries the runs on the model of the machine.
func modelOfExplored(p impl.Program, length int) explored {
	e := explored{safe: true}
	at := map[int]bool{}
	for _, choices := range listsOf(length) {
		e.all++
		r := modelOfRun(p, choices, 80)
		if r.code == impl.RunDone || r.code == impl.RunCut {
			continue
		}
		if !e.found {
			e.first, e.found, e.safe = choices, true, false
		}
		e.wrong++
		at[r.at] = true
	}
	for point := range 61 {
		if at[point] {
			e.points = append(e.points, point)
		}
	}
	return e
}

// exploredPrograms are valid programs, some of which go wrong, and some do not.
func exploredPrograms(t *testing.T) []impl.Program {
	programs := append(mixedPrograms(150), borrowing(150)...)
	for _, p := range borrowing(300) {
		p.Body = append(startOf(p.Types), p.Body...)
		if impl.ProgramValid(p) {
			programs = append(programs, p)
		}
	}
	for _, c := range exploreCases {
		programs = append(programs, parsed(t, c.text))
	}
	return append(programs, longLoops()...)
}

// longLoops are programs with loops of many statements, so that many runs are cut off.
func longLoops() []impl.Program {
	d := &dice{state: 31}
	types := []int{impl.TypeInt, impl.TypeBox, impl.TypeMut, impl.TypeRef}
	all := fitting(types)
	var programs []impl.Program
	for range 40 {
		body := startOf(types)
		again := slices.Repeat([]impl.Stmt{simple(impl.OpInt, 0, 0, 2)}, 6+d.upTo(12))
		again = append(again, all[d.upTo(len(all))], all[d.upTo(len(all))])
		programs = append(programs, impl.Program{Types: types, Body: append(body, loop(again...), all[d.upTo(len(all))])})
	}
	return programs
}

func TestExploredRunsOfManyPrograms(t *testing.T) {
	d := &dice{state: 37}
	safe, some, all := 0, 0, 0
	for _, p := range exploredPrograms(t) {
		text := impl.FormatProgram(p)
		length := d.upTo(impl.MaxChoices + 1)
		got, want := exploredBy(p, length), modelOfExplored(p, length)
		if got.String() != want.String() {
			t.Fatalf("%s with %d choices: %v, want %v", text, length, got, want)
		}
		if impl.FormatProgram(p) != text {
			t.Fatalf("an argument changed: %s", text)
		}
		switch {
		case got.safe:
			safe++
		case got.wrong < got.all:
			some++
		default:
			all++
		}
	}
	if safe < 50 || some < 50 || all < 50 {
		t.Errorf("%d programs are safe, %d go wrong on some runs, and %d on all", safe, some, all)
	}
}

// A run with a list of choices is the one with a 1 behind it, too, so that more choices go wrong wherever fewer do.
func TestMoreChoices(t *testing.T) {
	for _, p := range exploredPrograms(t) {
		var last explored
		for length := range impl.MaxChoices + 1 {
			e := exploredBy(p, length)
			missed := slices.ContainsFunc(last.points, func(at int) bool { return !slices.Contains(e.points, at) })
			if e.wrong < last.wrong || e.all != 1<<length || missed || e.safe && last.found {
				t.Fatalf("%s: %v with %d choices, and %v with one less", impl.FormatProgram(p), e, length, last)
			}
			last = e
		}
	}
}

// The first run goes wrong, at one of the points, and none with a less number does.
func TestFirstWrongIsTheFirst(t *testing.T) {
	found := 0
	for _, p := range exploredPrograms(t) {
		choices, ok := impl.FirstWrong(p, 4)
		points := impl.WrongPoints(p, 4)
		for _, list := range listsOf(4) {
			code, at := impl.RunProgram(p, list, 80)
			wrong := code != impl.RunDone && code != impl.RunCut
			if wrong && (!ok || !slices.Contains(points, at)) {
				t.Fatalf("%s goes wrong with %v at %d", impl.FormatProgram(p), list, at)
			}
			if ok && slices.Equal(list, choices) != wrong {
				t.Fatalf("FirstWrong(%s, 4) = %v, but with %v: %s", impl.FormatProgram(p), choices, list, endNames[code])
			}
			if wrong {
				found++
				break
			}
		}
	}
	if found < 100 {
		t.Errorf("only %d programs go wrong", found)
	}
}

// inserted returns a list with a further statement somewhere in it, or in a statement of it.
func (d *dice) inserted(list []impl.Stmt, s impl.Stmt) []impl.Stmt {
	i := d.upTo(len(list) + 1)
	list = slices.Clone(list)
	if i == len(list) || list[i].Op < impl.OpIf || d.upTo(2) == 0 {
		return slices.Insert(list, i, s)
	}
	if list[i].Op == impl.OpIf && d.upTo(2) == 0 {
		list[i].Else = d.inserted(list[i].Else, s)
	} else {
		list[i].Then = d.inserted(list[i].Then, s)
	}
	return list
}

// grown returns programs with many statements that are accepted, each of which comes in if the program is accepted with it.
func grown(count int, accepts func(p impl.Program) bool) []impl.Program {
	d := &dice{state: 41}
	var programs []impl.Program
	for len(programs) < count {
		types := d.mixedTypes()
		all := append(fitting(types), loop(), loop(), either(nil, nil), either(nil, nil))
		p := impl.Program{Types: types}
		for range 100 {
			q := impl.Program{Types: types, Body: d.inserted(p.Body, all[d.upTo(len(all))])}
			if accepts(q) {
				p = q
			}
		}
		programs = append(programs, p)
	}
	return programs
}

// acceptedPrograms are accepted by the checker, many of them with choices, loans, and values that are taken.
func acceptedPrograms(t *testing.T) []impl.Program {
	programs := grown(150, impl.Accepts)
	for _, p := range append(exploredPrograms(t), borrowing(400)...) {
		repaired, _ := impl.RepairProgram(p)
		programs = append(programs, repaired)
	}
	for _, p := range smallPrograms(t) {
		if impl.Accepts(p) {
			programs = append(programs, p)
		}
	}
	return programs
}

func TestNoRunOfAnAcceptedProgramGoesWrong(t *testing.T) {
	choices, loans := 0, 0
	for _, p := range acceptedPrograms(t) {
		if !impl.Accepts(p) {
			t.Fatalf("%s is not accepted", impl.FormatProgram(p))
		}
		for _, length := range []int{0, 3, impl.MaxChoices} {
			if e := exploredBy(p, length); e.wrong != 0 || e.all != 1<<length || e.found || !e.safe || len(e.first)+len(e.points) != 0 {
				t.Fatalf("%s is accepted, with %d choices: %v", impl.FormatProgram(p), length, e)
			}
		}
		if impl.CountChoices(p) > 0 {
			choices++
		}
		if len(impl.LoansOf(p)) > 1 {
			loans++
		}
	}
	if choices < 200 || loans < 500 {
		t.Errorf("only %d of the accepted programs have choices, and only %d have loans", choices, loans)
	}
}

// Where runs use what has no value, the checker has found it; and each program that goes wrong has an issue.
func TestWrongRunsHaveIssues(t *testing.T) {
	wrong := 0
	for _, p := range append(exploredPrograms(t), smallPrograms(t)...) {
		choices, found := impl.FirstWrong(p, 3)
		if !found {
			continue
		}
		wrong++
		if impl.Accepts(p) || impl.SafeUpTo(p, 3) {
			t.Fatalf("%s goes wrong with %v, and is accepted, or safe", impl.FormatProgram(p), choices)
		}
		if code, at := impl.RunProgram(p, choices, 80); code == impl.RunUnset && !slices.Contains(impl.UnsetUses(p), at) {
			t.Fatalf("%s uses what has no value at %d, which is not among UnsetUses", impl.FormatProgram(p), at)
		}
	}
	if wrong < 500 {
		t.Errorf("only %d programs go wrong", wrong)
	}
}

func TestExploredRunsThatAreNotThere(t *testing.T) {
	none := explored{}.String()
	broken := impl.Program{Types: []int{1, 2}, Body: []impl.Stmt{simple(impl.OpLoad, 0, 1, 0), simple(impl.OpDrop, 0, 0, 0)}}
	for i, p := range append(invalidPrograms(), broken) {
		for length := -1; length <= impl.MaxChoices+1; length++ {
			if e := exploredBy(p, length); e.String() != none {
				t.Errorf("the invalid program %d with %d choices: %v", i, length, e)
			}
		}
		for _, length := range farLengths {
			if e := exploredBy(p, length); e.String() != none {
				t.Errorf("the invalid program %d with %d choices: %v", i, length, e)
			}
		}
	}
	for _, text := range []string{":", "i:a=1", "ib:a=*b", "ib:if{b=box 1}{};a=*b", "ib:b=box 1;loop{drop b}"} {
		for _, length := range farLengths {
			if e := exploredBy(parsed(t, text), length); e.String() != none {
				t.Errorf("%s with %d choices: %v", text, length, e)
			}
		}
	}
}

// Runs are tried side by side, which is not to be seen in a result.
func TestExploredAtOnce(t *testing.T) {
	programs := exploredPrograms(t)[:200]
	var want []string
	for _, p := range programs {
		want = append(want, exploredBy(p, 5).String())
	}
	got := make([][]string, 4)
	var running sync.WaitGroup
	for i := range got {
		running.Go(func() {
			for _, p := range programs {
				got[i] = append(got[i], exploredBy(p, 5).String())
			}
		})
	}
	running.Wait()
	for i := range got {
		if !slices.Equal(got[i], want) {
			t.Errorf("the results of the goroutine %d are others", i)
		}
	}
}

func TestExploredRunsShareNoMemory(t *testing.T) {
	text := "ibr:b=box 1;c=&b;if{drop b}{if{b=box 2}{*b=a}};a=*c"
	p := parsed(t, text)
	want := exploredBy(p, 3).String()
	e := exploredBy(p, 3)
	list := impl.ChoicesOf(5, 3)
	for _, l := range [][]int{e.first, e.points, list} {
		l = l[:cap(l)]
		for i := range l {
			l[i] = 99
		}
	}
	if got := exploredBy(p, 3).String(); got != want {
		t.Errorf("two results share memory: %s, want %s", got, want)
	}
	if got := impl.ChoicesOf(5, 3); !slices.Equal(got, []int{1, 0, 1}) || impl.FormatProgram(p) != text {
		t.Errorf("two results share memory, or an argument changed: %v, %s", got, impl.FormatProgram(p))
	}
}

func TestMostChoices(t *testing.T) {
	if impl.MaxChoices != 6 {
		t.Errorf("MaxChoices = %d", impl.MaxChoices)
	}
	p := impl.Program{Types: []int{2}, Body: append(slices.Repeat([]impl.Stmt{either(nil, nil)}, 29), simple(impl.OpDrop, 0, 0, 0))}
	if e := exploredBy(p, 6); e.wrong != 64 || e.all != 64 || !slices.Equal(e.points, []int{58}) {
		t.Errorf("with 29 choices: %v", e)
	}
}
