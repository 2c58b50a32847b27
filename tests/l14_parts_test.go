package tests

import (
	"fmt"
	"slices"
	"strings"
	"testing"

	"loop.example/borrowcheck/impl"
)

// named returns the variables with some letters, in the order of these.
func named(letters string) []int {
	var vars []int
	for _, c := range letters {
		vars = append(vars, int(c-'a'))
	}
	return vars
}

// begin is what is given to a part, what it gives then, and the points that are open.
type begin struct {
	given, gives string
	open         []int
}

var partCases = []struct {
	text, needs, takes string
	begins             []begin
}{
	// A part without statements gives what is given.
	{":", "", "", []begin{{"", "", nil}}},
	{"ibrm:", "", "", []begin{{"", "", nil}, {"b", "b", nil}, {"ad", "ad", nil}, {"abcd", "abcd", nil}}},
	{"ib:if{}{};loop{}", "", "", []begin{{"", "", nil}, {"b", "b", nil}, {"ab", "ab", nil}}},
	// The example of the chapter.
	{"ib:a=*b;drop b", "b", "b", []begin{{"", "a", []int{0, 1}}, {"b", "a", nil}, {"a", "a", []int{0, 1}}, {"ab", "a", nil}}},
	// Each kind of statement.
	{"i:a=1", "", "", []begin{{"", "a", nil}, {"a", "a", nil}}},
	{"b:a=box 1", "", "", []begin{{"", "a", nil}, {"a", "a", nil}}},
	{"ii:a=b", "b", "", []begin{{"", "a", []int{0}}, {"a", "a", []int{0}}, {"b", "ab", nil}}},
	{"rr:a=b", "b", "", []begin{{"", "a", []int{0}}, {"b", "ab", nil}}},
	{"bb:a=b", "b", "b", []begin{{"", "a", []int{0}}, {"b", "a", nil}, {"ab", "a", nil}}},
	{"mm:a=b", "b", "b", []begin{{"", "a", []int{0}}, {"b", "a", nil}, {"ab", "a", nil}}},
	{"br:b=&a", "a", "", []begin{{"", "b", []int{0}}, {"a", "ab", nil}, {"b", "b", []int{0}}}},
	{"bm:b=&mut a", "a", "", []begin{{"", "b", []int{0}}, {"a", "ab", nil}}},
	{"ir:a=*b", "b", "", []begin{{"", "a", []int{0}}, {"b", "ab", nil}}},
	{"im:*b=a", "ab", "", []begin{{"", "", []int{0}}, {"a", "a", []int{0}}, {"b", "b", []int{0}}, {"ab", "ab", nil}}},
	{"b:drop a", "a", "a", []begin{{"", "", []int{0}}, {"a", "", nil}}},
	// What is set in front of its uses is not needed, and what is set behind them is.
	{"ib:b=box 1;a=*b;drop b", "", "b", []begin{{"", "a", nil}, {"b", "a", nil}}},
	{"ib:a=*b;b=box 1", "b", "", []begin{{"", "ab", []int{0}}, {"b", "ab", nil}}},
	{"ii:a=b;b=a", "b", "", []begin{{"", "ab", []int{0}}, {"b", "ab", nil}}},
	{"ii:b=1;a=b", "", "", []begin{{"", "ab", nil}}},
	// What is used again behind a point that takes it is needed, but need not have a value there if it is given.
	{"ib:drop b;a=*b", "b", "b", []begin{{"", "a", []int{0, 1}}, {"b", "a", []int{1}}}},
	{"bb:a=b;a=b", "b", "b", []begin{{"", "a", []int{0, 1}}, {"b", "a", []int{1}}}},
	{"bb:a=b;b=a", "b", "ab", []begin{{"", "b", []int{0}}, {"b", "b", nil}, {"a", "b", []int{0}}}},
	{"b:a=box 1;drop a;drop a", "", "a", []begin{{"", "", []int{2}}, {"a", "", []int{2}}}},
	{"b:drop a;a=box 1;drop a", "a", "a", []begin{{"", "", []int{0}}, {"a", "", nil}}},
	// Ways that set it, and ways that do not.
	{"ib:if{b=box 1}{};a=*b", "b", "", []begin{{"", "a", []int{3}}, {"b", "ab", nil}}},
	{"ib:if{}{b=box 1};a=*b", "b", "", []begin{{"", "a", []int{3}}, {"b", "ab", nil}}},
	{"ib:if{b=box 1}{b=box 2};a=*b", "", "", []begin{{"", "ab", nil}, {"b", "ab", nil}}},
	{"ib:if{a=*b}{a=1}", "b", "", []begin{{"", "a", []int{1}}, {"b", "ab", nil}}},
	{"ib:if{a=1}{a=*b}", "b", "", []begin{{"", "a", []int{3}}, {"b", "ab", nil}}},
	{"b:if{drop a}{}", "a", "a", []begin{{"", "", []int{1}}, {"a", "", nil}}},
	{"b:if{drop a}{drop a};a=box 1", "a", "a", []begin{{"", "a", []int{1, 3}}, {"a", "a", nil}}},
	{"b:if{drop a}{};drop a", "a", "a", []begin{{"", "", []int{1, 3}}, {"a", "", []int{3}}}},
	{"b:if{drop a;a=box 1}{};drop a", "a", "a", []begin{{"", "", []int{1, 4}}, {"a", "", nil}}},
	// What runs after a loop that is not entered, and again and again in it.
	{"ib:loop{b=box 1};a=*b", "b", "", []begin{{"", "a", []int{3}}, {"b", "ab", nil}}},
	{"ib:loop{a=*b;b=box 1}", "b", "", []begin{{"", "", []int{1}}, {"b", "b", nil}, {"ab", "ab", nil}}},
	{"ib:loop{b=box 1;a=*b}", "", "", []begin{{"", "", nil}, {"a", "a", nil}, {"b", "b", nil}}},
	// A loop that takes what was given. Its choice is the point 0, to which other ways lead than that with no steps.
	{"b:loop{drop a}", "a", "a", []begin{{"", "", []int{1}}, {"a", "", []int{1}}}},
	{"ib:loop{drop b};a=*b", "b", "b", []begin{{"", "a", []int{1, 3}}, {"b", "a", []int{1, 3}}}},
	{"bb:loop{a=b}", "b", "b", []begin{{"", "", []int{1}}, {"b", "", []int{1}}, {"a", "a", []int{1}}, {"ab", "a", []int{1}}}},
	{"b:loop{drop a;a=box 1}", "a", "a", []begin{{"", "", []int{1}}, {"a", "a", nil}}},
	{"b:loop{a=box 1;drop a}", "", "a", []begin{{"", "", nil}, {"a", "", nil}}},
	{"b:loop{if{drop a}{a=box 1}}", "a", "a", []begin{{"", "", []int{2}}, {"a", "", []int{2}}}},
	{"ib:if{b=box 1}{};loop{drop b}", "b", "b", []begin{{"", "", []int{4}}, {"b", "", []int{4}}, {"ab", "a", []int{4}}}},
	{"mm:loop{loop{a=b};b=a}", "ab", "ab", []begin{{"", "", []int{2, 4}}, {"a", "", []int{2, 4}}, {"b", "b", []int{2, 4}}, {"ab", "b", []int{2, 4}}}},
	// A variable that is given twice, and several in another order.
	{"b:", "", "", []begin{{"aa", "a", nil}, {"aaaaaaa", "a", nil}}},
	{"b:drop a", "a", "a", []begin{{"aa", "", nil}}},
	{"b:drop a;drop a", "a", "a", []begin{{"aa", "", []int{1}}}},
	{"ib:a=*b;drop b", "b", "b", []begin{{"bb", "a", nil}, {"bab", "a", nil}, {"aa", "a", []int{0, 1}}}},
	{"iibr:*c=a", "ac", "", []begin{{"ca", "ac", nil}, {"dcba", "abcd", nil}, {"dbadb", "abd", []int{0}}, {"cdcdb", "bcd", []int{0}}}},
	// Loans do not matter: these programs have issues of chapter 5, which are not open.
	{"ibr:drop b;a=*c", "bc", "b", []begin{{"", "a", []int{0, 1}}, {"b", "a", []int{1}}, {"c", "ac", []int{0}}, {"bc", "ac", nil}}},
	{"ibr:c=&b;drop b;a=*c", "b", "b", []begin{{"", "ac", []int{0, 1}}, {"b", "ac", nil}}},
}

// sameList fails if a list is not the one that is wanted.
func sameList(t *testing.T, got, want []int, what string, args ...any) {
	t.Helper()
	if !slices.Equal(got, want) {
		t.Errorf("%s = %v, want %v", fmt.Sprintf(what, args...), got, want)
	}
}

func TestParts(t *testing.T) {
	for _, c := range partCases {
		p := parsed(t, c.text)
		sameList(t, impl.NeedsOf(p), named(c.needs), "NeedsOf(%s)", c.text)
		sameList(t, impl.TakesOf(p), named(c.takes), "TakesOf(%s)", c.text)
		for _, b := range c.begins {
			given := named(b.given)
			sameList(t, impl.GivesOf(p, given), named(b.gives), "GivesOf(%s, %v)", c.text, given)
			sameList(t, impl.OpenIssues(p, given), b.open, "OpenIssues(%s, %v)", c.text, given)
		}
	}
}

func TestSplitProgram(t *testing.T) {
	for _, c := range []struct {
		text          string
		k             int
		first, others string
	}{
		{":", 0, ":", ":"},
		{"ibrm:", 0, "ibrm:", "ibrm:"},
		{"i:a=1", 0, "i:", "i:a=1"},
		{"i:a=1", 1, "i:a=1", "i:"},
		{"ibr:b=box 1;c=&b;a=*c;drop b", 0, "ibr:", "ibr:b=box 1;c=&b;a=*c;drop b"},
		{"ibr:b=box 1;c=&b;a=*c;drop b", 1, "ibr:b=box 1", "ibr:c=&b;a=*c;drop b"},
		{"ibr:b=box 1;c=&b;a=*c;drop b", 3, "ibr:b=box 1;c=&b;a=*c", "ibr:drop b"},
		{"ibr:b=box 1;c=&b;a=*c;drop b", 4, "ibr:b=box 1;c=&b;a=*c;drop b", "ibr:"},
		// Statements in others do not count, and stay where they are.
		{"i:if{a=1;a=2}{a=3};loop{a=4;if{}{a=5}};a=6", 1, "i:if{a=1;a=2}{a=3}", "i:loop{a=4;if{}{a=5}};a=6"},
		{"i:if{a=1;a=2}{a=3};loop{a=4;if{}{a=5}};a=6", 2, "i:if{a=1;a=2}{a=3};loop{a=4;if{}{a=5}}", "i:a=6"},
		{"i:loop{a=1;a=2}", 1, "i:loop{a=1;a=2}", "i:"},
		{"i:loop{a=1;a=2}", 2, "", ""},
		{"i:if{a=1}{a=2}", 3, "", ""},
		{":", 1, "", ""},
		{":", -1, "", ""},
		{"i:a=1", 2, "", ""},
		{"i:a=1", -1, "", ""},
	} {
		p := parsed(t, c.text)
		first, others, ok := impl.SplitProgram(p, c.k)
		if impl.FormatProgram(p) != c.text {
			t.Errorf("SplitProgram(%s, %d) has changed its argument", c.text, c.k)
		}
		if c.first == "" {
			noSplit(t, c.text, p, c.k)
		} else if !ok || impl.FormatProgram(first) != c.first || impl.FormatProgram(others) != c.others {
			t.Errorf("SplitProgram(%s, %d) = %v, %v, %v, want %s and %s", c.text, c.k, first, others, ok, c.first, c.others)
		}
	}
}

func noSplit(t *testing.T, what string, p impl.Program, k int) {
	t.Helper()
	first, others, ok := impl.SplitProgram(p, k)
	if ok || first.Types != nil || first.Body != nil || others.Types != nil || others.Body != nil {
		t.Errorf("%s: SplitProgram at %d = %v, %v, %v", what, k, first, others, ok)
	}
}

// lackedAt follows one variable on all ways, from where it has a value or has none, and returns the points before which it can have none.
func lackedAt(p impl.Program, points []impl.Point, v int, has bool) [61]bool {
	type state struct {
		at  int
		has bool
	}
	var lacked [61]bool
	met := map[state]bool{}
	work := []state{{0, has}}
	for len(work) > 0 {
		s := work[0]
		work = work[1:]
		if met[s] {
			continue
		}
		met[s] = true
		lacked[s.at] = lacked[s.at] || !s.has
		x := points[s.at]
		behind := setsAt(x, v) || s.has && useAt(p, x, v) != impl.UseTake
		for _, next := range x.Next {
			work = append(work, state{next, behind})
		}
	}
	return lacked
}

// asked is all that the chapter tells of a part that begins with some variables.
type asked struct{ needs, takes, gives, open []int }

func (a asked) String() string { return fmt.Sprint(a.needs, a.takes, a.gives, a.open) }

func askedOf(p impl.Program, given []int) asked {
	return asked{impl.NeedsOf(p), impl.TakesOf(p), impl.GivesOf(p, given), impl.OpenIssues(p, given)}
}

func modelOfPart(p impl.Program, given []int) asked {
	var a asked
	points := impl.PointsOf(p)
	open := map[int]bool{}
	for v := range p.Types {
		lacked := lackedAt(p, points, v, slices.Contains(given, v))
		taken := false
		for at, x := range points {
			use := useAt(p, x, v)
			taken = taken || use == impl.UseTake
			if use != impl.UseNone && lacked[at] {
				open[at] = true
			}
		}
		if taken {
			a.takes = append(a.takes, v)
		}
		if !lacked[len(points)-1] {
			a.gives = append(a.gives, v)
		}
		if useAt(p, points[0], v) != impl.UseNone || !setsAt(points[0], v) && usedBehind(p, points, 0, v) {
			a.needs = append(a.needs, v)
		}
	}
	for at := range points {
		if open[at] {
			a.open = append(a.open, at)
		}
	}
	return a
}

// eachGiven visits all sets of variables, each in ascending order.
func eachGiven(p impl.Program, visit func(given []int)) {
	for set := range uint64(1) << len(p.Types) {
		visit(membersOf(set))
	}
}

func TestManyParts(t *testing.T) {
	needs, takes, gives, open := 0, 0, 0, 0
	for _, p := range slices.Concat(mixedPrograms(200), borrowing(150), smallPrograms(t)[:300]) {
		eachGiven(p, func(given []int) {
			got, want := askedOf(p, given), modelOfPart(p, given)
			if got.String() != want.String() {
				t.Fatalf("%s with %v: %v, want %v", impl.FormatProgram(p), given, got, want)
			}
			needs, takes, gives, open = needs+len(got.needs), takes+len(got.takes), gives+len(got.gives), open+len(got.open)
		})
	}
	if needs < 5000 || takes < 5000 || gives < 5000 || open < 5000 {
		t.Errorf("only %d needs, %d takes, %d gives and %d open issues", needs, takes, gives, open)
	}
}

// varsIn returns all variables of a program.
func varsIn(p impl.Program) []int { return membersOf(1<<len(p.Types) - 1) }

// If nothing is given, chapter 3 tells the same; and of what is given, nothing but what is needed matters to what is open.
func TestPartsAsWholePrograms(t *testing.T) {
	for _, p := range slices.Concat(mixedPrograms(400), borrowing(200)) {
		text, last := impl.FormatProgram(p), len(impl.PointsOf(p))-1
		sameList(t, impl.GivesOf(p, nil), impl.AlwaysSet(p, last), "GivesOf(%s)", text)
		sameList(t, impl.OpenIssues(p, nil), impl.UnsetUses(p), "OpenIssues(%s)", text)
		sameList(t, impl.OpenIssues(p, impl.NeedsOf(p)), impl.OpenIssues(p, varsIn(p)), "OpenIssues(%s, what it needs)", text)
	}
}

// It does not matter in which order variables are given, and how often.
func TestGivenInAnyOrder(t *testing.T) {
	d := &dice{state: 97}
	for _, p := range slices.Concat(mixedPrograms(100), borrowing(100)) {
		eachGiven(p, func(given []int) {
			mixed := slices.Clone(given)
			for range len(given) * 4 {
				mixed = slices.Insert(mixed, d.upTo(len(mixed)+1), given[d.upTo(len(given))])
			}
			before := slices.Clone(mixed)
			sameList(t, impl.GivesOf(p, mixed), impl.GivesOf(p, given), "GivesOf(%s, %v)", impl.FormatProgram(p), before)
			sameList(t, impl.OpenIssues(p, mixed), impl.OpenIssues(p, given), "OpenIssues(%s, %v)", impl.FormatProgram(p), before)
			if !slices.Equal(mixed, before) {
				t.Fatalf("an argument changed: %v, it was %v", mixed, before)
			}
		})
	}
}

// touched has the variables that a point uses, takes and sets, as bits.
type touched struct{ uses, takes, sets uint64 }

func touchedAt(p impl.Program) []touched {
	var all []touched
	for at := range impl.PointsOf(p) {
		var x touched
		for v := range p.Types {
			switch impl.UseOf(p, at, v) {
			case impl.UseTake:
				x.takes |= 1 << v
				x.uses |= 1 << v
			case impl.UseRead, impl.UseReach:
				x.uses |= 1 << v
			}
		}
		if v := impl.SetBy(p, at); v >= 0 {
			x.sets = 1 << v
		}
		all = append(all, x)
	}
	return all
}

// enoughRuns returns the runs with all lists of some length. On a way to where a variable has no value, no point has to be passed twice with the variable, and none twice without it, so that twice as many choices as the program has are enough for all that ways can show.
func enoughRuns(t *testing.T, p impl.Program) [][]int {
	var runs [][]int
	for _, choices := range listsOf(2 * impl.CountChoices(p)) {
		run, ok := impl.RunPath(p, choices, 1000)
		if !ok {
			t.Fatalf("a run of %s does not end", impl.FormatProgram(p))
		}
		runs = append(runs, run)
	}
	return runs
}

// shownBy tells what runs show that begin with some variables.
func shownBy(runs [][]int, points []touched, given, all uint64) asked {
	var needs, takes, open uint64
	gives := all
	for _, run := range runs {
		has, set := given, uint64(0)
		for _, at := range run {
			x := points[at]
			needs |= x.uses &^ set
			takes |= x.takes
			if x.uses&^has != 0 {
				open |= 1 << at
			}
			has = has&^x.takes | x.sets
			set |= x.sets
		}
		gives &= has
	}
	return asked{membersOf(needs), membersOf(takes), membersOf(gives), membersOf(open)}
}

// What runs show of a part is exactly what is told of it.
func TestPartsOnRuns(t *testing.T) {
	parts, open := 0, 0
	for _, p := range slices.Concat(mixedPrograms(250), borrowing(150)) {
		if choices := impl.CountChoices(p); choices == 0 || choices > 4 {
			continue
		}
		runs, points := enoughRuns(t, p), touchedAt(p)
		parts++
		eachGiven(p, func(given []int) {
			set := uint64(0)
			for _, v := range given {
				set |= 1 << v
			}
			got, want := askedOf(p, given), shownBy(runs, points, set, 1<<len(p.Types)-1)
			if got.String() != want.String() {
				t.Fatalf("%s with %v: %v, but runs show %v", impl.FormatProgram(p), given, got, want)
			}
			open += len(got.open)
		})
	}
	if parts < 80 || open < 5000 {
		t.Errorf("only %d parts with %d open issues", parts, open)
	}
}

// someParts returns programs with the same types, one without statements, and others with choices and loops.
func (d *dice) someParts(types []int, count int) []impl.Program {
	all := fitting(types)
	parts := []impl.Program{{Types: types}}
	for len(parts) < count {
		p := impl.Program{Types: types, Body: d.dense(all, 7, 2)}
		if repaired, _ := impl.RepairProgram(p); d.upTo(2) == 0 {
			p = repaired
		}
		if impl.CountStmts(p) <= 12 {
			parts = append(parts, p)
		}
	}
	return parts
}

// eachSequence visits pairs of programs and those in which the second one follows the first one, with some variables that are given.
func eachSequence(t *testing.T, visit func(p, q, both impl.Program, given []int)) {
	d := &dice{state: 101}
	for range 10 {
		parts := d.someParts(d.mixedTypes(), 20)
		for _, p := range parts {
			for _, q := range parts {
				both, ok := impl.SequenceOf(p, q)
				if !ok {
					t.Fatalf("%s does not follow %s", impl.FormatProgram(q), impl.FormatProgram(p))
				}
				for _, set := range []uint64{0, 1<<len(p.Types) - 1, uint64(d.upTo(1 << len(p.Types)))} {
					visit(p, q, both, membersOf(set))
				}
			}
		}
	}
}

// moved returns points of a program that follows p as points of both. The last point of p is that at which the other one begins.
func moved(p impl.Program, points []int) []int {
	first := len(impl.PointsOf(p)) - 1
	var all []int
	for _, at := range points {
		all = append(all, first+at)
	}
	return all
}

// A part that follows another one begins with what this gives.
func TestPartsOfSequences(t *testing.T) {
	eachSequence(t, func(p, q, both impl.Program, given []int) {
		first, got := askedOf(p, given), askedOf(both, given)
		second := askedOf(q, first.gives)
		text := impl.FormatProgram(both)
		sameList(t, got.open, slices.Concat(first.open, moved(p, second.open)), "OpenIssues(%s, %v)", text, given)
		sameList(t, got.gives, second.gives, "GivesOf(%s, %v)", text, given)
		sameList(t, got.takes, with(first.takes, second.takes...), "TakesOf(%s)", text)
		if !hasAll(got.needs, first.needs) || !hasAll(with(first.needs, second.needs...), got.needs) {
			t.Errorf("NeedsOf(%s) = %v, but its parts need %v and %v", text, got.needs, first.needs, second.needs)
		}
		// If the first one neither takes a variable nor gives it, some way through it does not set the variable.
		setOrTaken := slices.Concat(first.takes, impl.GivesOf(p, nil))
		for _, v := range second.needs {
			if !slices.Contains(setOrTaken, v) && !slices.Contains(got.needs, v) {
				t.Errorf("NeedsOf(%s) = %v, but the second part needs %d", text, got.needs, v)
			}
		}
	})
}

// A part can follow another one if this gives what it needs, and cannot if this does not.
func TestPartsFollowWhatGivesTheirNeeds(t *testing.T) {
	follow, lack := 0, 0
	eachSequence(t, func(p, q, both impl.Program, given []int) {
		needs, gives := impl.NeedsOf(q), impl.GivesOf(p, given)
		open := impl.OpenIssues(both, given)
		switch {
		case len(impl.OpenIssues(p, given))+len(impl.OpenIssues(q, needs)) > 0:
		case hasAll(gives, needs):
			if follow++; len(open) != 0 {
				t.Fatalf("%s with %v has the open issues %v, but its second part needs %v of %v", impl.FormatProgram(both), given, open, needs, gives)
			}
		default:
			if lack++; len(open) == 0 {
				t.Fatalf("%s with %v has no open issues, but its second part needs %v of %v", impl.FormatProgram(both), given, needs, gives)
			}
		}
	})
	if follow < 500 || lack < 500 {
		t.Errorf("%d parts follow others, and %d do not", follow, lack)
	}
}

// Without open issues, no run uses what has no value, and the checker finds no such issue. Runs that do so end at open issues.
func TestRunsOfParts(t *testing.T) {
	closed, unset := 0, 0
	eachSequence(t, func(p, q, both impl.Program, given []int) {
		if len(given) > 0 {
			return
		}
		start := impl.Program{Types: p.Types, Body: startOf(p.Types)}
		sameList(t, impl.GivesOf(start, nil), varsIn(p), "GivesOf(%s)", impl.FormatProgram(start))
		whole, ok := impl.SequenceOf(start, both)
		if !ok {
			t.Fatalf("%s does not follow %s", impl.FormatProgram(both), impl.FormatProgram(start))
		}
		open := moved(start, impl.OpenIssues(both, varsIn(p)))
		if len(open) == 0 {
			closed++
		}
		for _, x := range impl.CheckProgram(whole) {
			if x.Kind == impl.IssueUnset && !slices.Contains(open, x.Point) {
				t.Errorf("the issue %v of %s is not among %v", x, impl.FormatProgram(whole), open)
			}
		}
		for _, choices := range listsOf(3) {
			code, at := impl.RunProgram(whole, choices, 150)
			if code != impl.RunUnset {
				continue
			}
			if unset++; !slices.Contains(open, at) {
				t.Errorf("%s with %v ends at %d, which is not among %v", impl.FormatProgram(whole), choices, at, open)
			}
		}
	})
	if closed < 200 || unset < 200 {
		t.Errorf("%d parts have no open issues, and %d runs end at some", closed, unset)
	}
}

func TestSplitsOfManyPrograms(t *testing.T) {
	for _, p := range slices.Concat(mixedPrograms(200), borrowing(100), largePrograms()) {
		s, text := splitProgram(p), impl.FormatProgram(p)
		for k := range len(p.Body) + 1 {
			first, others, ok := impl.SplitProgram(p, k)
			if !ok || impl.FormatProgram(first) != s.types+":"+strings.Join(s.body[:k], ";") || impl.FormatProgram(others) != s.types+":"+strings.Join(s.body[k:], ";") {
				t.Fatalf("SplitProgram(%s, %d) = %v, %v, %v", text, k, first, others, ok)
			}
			if whole, ok := impl.SequenceOf(first, others); !ok || !impl.ProgramSame(whole, p) {
				t.Fatalf("the parts of %s at %d make %s", text, k, impl.FormatProgram(whole))
			}
		}
		for _, k := range append([]int{len(p.Body) + 1, len(p.Body) + 2}, farIndices...) {
			noSplit(t, text, p, k)
		}
	}
}

// Of a program that is accepted, the first part gives what the second one needs, and none of them has open issues.
func TestPartsOfAcceptedPrograms(t *testing.T) {
	needs := 0
	for _, p := range append(grown(80, impl.Accepts), checkedPrograms(t)[:1000]...) {
		if !impl.Accepts(p) {
			continue
		}
		sameList(t, impl.NeedsOf(p), nil, "NeedsOf(%s)", impl.FormatProgram(p))
		for k := range len(p.Body) + 1 {
			first, others, _ := impl.SplitProgram(p, k)
			gives, needed := impl.GivesOf(first, nil), impl.NeedsOf(others)
			needs += len(needed)
			if !hasAll(gives, needed) || len(impl.OpenIssues(first, nil))+len(impl.OpenIssues(others, gives)) != 0 {
				t.Fatalf("%s is accepted, but %s needs %v of %v", impl.FormatProgram(p), impl.FormatProgram(others), needed, gives)
			}
		}
	}
	if needs < 1000 {
		t.Errorf("only %d variables are needed", needs)
	}
}

func TestInvalidParts(t *testing.T) {
	list := []impl.Stmt{simple(impl.OpLoad, 0, 1, 0), simple(impl.OpDrop, 1, 0, 0)}
	programs := invalidPrograms()
	for i := range len(list) + 1 {
		programs = append(programs, impl.Program{Types: []int{1, 2}, Body: slices.Insert(slices.Clone(list), i, simple(impl.OpMove, 0, 0, 0))})
	}
	programs = append(programs, impl.Program{Types: []int{1, 2, 0}, Body: list}, impl.Program{Types: []int{1, 2, 5}}, impl.Program{Types: []int{1}, Body: list})
	for i, p := range programs {
		what := fmt.Sprint("the invalid program ", i)
		for _, given := range [][]int{nil, {0}, {1}, {0, 1}, {-1}, {7}} {
			if got := askedOf(p, given).String(); got != "[] [] [] []" {
				t.Errorf("%s with %v: %s", what, given, got)
			}
		}
		for k := -1; k < 40; k++ {
			noSplit(t, what, p, k)
		}
	}
	if got := askedOf(impl.Program{Types: []int{1, 2}, Body: list}, []int{1}).String(); got != "[1] [1] [0] []" {
		t.Errorf("a valid program: %s", got)
	}
}

// If one of those that are given is no variable of the program, nothing is given and nothing is open, wherever it stands.
func TestGivenThatAreNoVariables(t *testing.T) {
	for _, text := range []string{":", "i:a=1", "ib:a=*b;drop b", "ibr:a=1;b=box 1;a=*c", "iiiiii:a=b;c=d"} {
		p := parsed(t, text)
		for _, far := range append([]int{len(p.Types), len(p.Types) + 1, 6, 7, 60}, farIndices...) {
			for i := range len(p.Types) + 1 {
				given := slices.Insert(varsIn(p), i, far)
				sameList(t, impl.GivesOf(p, given), nil, "GivesOf(%s, %v)", text, given)
				sameList(t, impl.OpenIssues(p, given), nil, "OpenIssues(%s, %v)", text, given)
			}
			sameList(t, impl.GivesOf(p, []int{far}), nil, "GivesOf(%s, [%d])", text, far)
			sameList(t, impl.OpenIssues(p, []int{far}), nil, "OpenIssues(%s, [%d])", text, far)
		}
		sameList(t, impl.GivesOf(p, []int{}), impl.GivesOf(p, nil), "GivesOf(%s, [])", text)
		sameList(t, impl.OpenIssues(p, []int{}), impl.OpenIssues(p, nil), "OpenIssues(%s, [])", text)
	}
	// Those that are variables are not, if the program has less of them.
	sameList(t, impl.GivesOf(parsed(t, "ii:a=1"), []int{1}), []int{0, 1}, "GivesOf of two variables")
	sameList(t, impl.GivesOf(parsed(t, "i:a=1"), []int{1}), nil, "GivesOf of one variable")
}

// As many variables, statements and points as there can be.
func TestLargestParts(t *testing.T) {
	list := slices.Repeat([]impl.Stmt{either(nil, nil)}, impl.MaxStmts-2)
	list = append(list, loop(simple(impl.OpDrop, 5, 0, 0)))
	p := impl.Program{Types: []int{1, 1, 1, 1, 2, 2}, Body: list}
	for _, c := range []struct{ given, gives string }{{"", ""}, {"f", ""}, {"abcdef", "abcde"}, {"fedcba", "abcde"}, {strings.Repeat("ef", 500), "e"}} {
		given := named(c.given)
		sameList(t, impl.GivesOf(p, given), named(c.gives), "GivesOf with %d variables", len(given))
		sameList(t, impl.OpenIssues(p, given), []int{57}, "OpenIssues with %d variables", len(given))
	}
	sameList(t, impl.NeedsOf(p), []int{5}, "NeedsOf")
	sameList(t, impl.TakesOf(p), []int{5}, "TakesOf")
	for _, k := range []int{0, 1, 28, 29} {
		first, others, ok := impl.SplitProgram(p, k)
		if !ok || len(first.Body) != k || len(others.Body) != 29-k || impl.CountStmts(first)+impl.CountStmts(others) != impl.MaxStmts {
			t.Errorf("SplitProgram at %d = %v, %v, %v", k, first, others, ok)
		}
	}
	full := impl.Program{Types: []int{1}, Body: ints(impl.MaxStmts)}
	if first, others, ok := impl.SplitProgram(full, impl.MaxStmts); !ok || len(first.Body) != impl.MaxStmts || len(others.Body) != 0 {
		t.Errorf("SplitProgram = %v, %v, %v", first, others, ok)
	}
	noSplit(t, "30 statements", full, impl.MaxStmts+1)
	noSplit(t, "29 statements, and one in another", p, impl.MaxStmts)
}

func TestPartsShareNoMemory(t *testing.T) {
	text := "ibr:if{a=*c;drop b}{};a=*b"
	p := parsed(t, text)
	given := append(make([]int, 0, 10), 2, 0, 2)
	empty := impl.Program{Types: []int{1, 2, 3}}
	for _, of := range []func() []int{
		func() []int { return impl.NeedsOf(p) },
		func() []int { return impl.TakesOf(p) },
		func() []int { return impl.GivesOf(p, given) },
		func() []int { return impl.GivesOf(empty, given) },
		func() []int { return impl.GivesOf(empty, given[:1]) },
		func() []int { return impl.OpenIssues(p, given) },
	} {
		first, other := of(), of()
		want := slices.Clone(first)
		for i := range first[:cap(first)] {
			first[:cap(first)][i] = 99
		}
		if second := of(); len(second) == 0 || !slices.Equal(second, want) || !slices.Equal(other, want) {
			t.Errorf("second results are %v, %v, want %v", other, second, want)
		}
	}
	if all := fmt.Sprint(given[:10]); all != "[2 0 2 0 0 0 0 0 0 0]" || impl.FormatProgram(p) != text {
		t.Errorf("an argument changed: %s, %s", all, impl.FormatProgram(p))
	}
}

// The two parts share no memory with the program and with each other, though the lists of the program do.
func TestSplitsShareNoMemory(t *testing.T) {
	junk := simple(99, 99, 99, 99)
	list := []impl.Stmt{simple(impl.OpInt, 0, 0, 1), junk, junk}
	body := []impl.Stmt{loop(list[:1]...), either(list[:1], list[:1]), simple(impl.OpInt, 0, 0, 2), loop(list[:1]...), junk, junk}
	types := []int{1, 2, 99, 99}
	p := impl.Program{Types: types[:2], Body: body[:4]}
	before := fmt.Sprint(types, body, list)
	for k := range 5 {
		first, others, _ := impl.SplitProgram(p, k)
		texts := []string{impl.FormatProgram(first), impl.FormatProgram(others)}
		again, rest, _ := impl.SplitProgram(p, k)
		scribble(first)
		if got := impl.FormatProgram(others); got != texts[1] {
			t.Errorf("the parts at %d share memory: %s", k, got)
		}
		scribble(others)
		if got := []string{impl.FormatProgram(again), impl.FormatProgram(rest)}; !slices.Equal(got, texts) {
			t.Errorf("results at %d share memory: %q, want %q", k, got, texts)
		}
		if after := fmt.Sprint(types, body, list); after != before {
			t.Fatalf("an argument changed: %s", after)
		}
	}
	first, _, _ := impl.SplitProgram(p, 2)
	first.Body[0].Then[0].N = 7
	if got := impl.FormatProgram(first); got != "ib:loop{a=7};if{a=1}{a=1}" {
		t.Errorf("the lists of a part share memory: %s", got)
	}
}
