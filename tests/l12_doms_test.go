package tests

import (
	"fmt"
	"slices"
	"strings"
	"testing"

	"loop.example/borrowcheck/impl"
)

// alwaysReached returns the points that each way from a point to the last one passes.
func alwaysReached(p impl.Program, a int) []int {
	return pointsWith(p, func(b int) bool { return impl.AlwaysReaches(p, a, b) })
}

// dominating returns the points that dominate a point.
func dominating(p impl.Program, b int) []int {
	return pointsWith(p, func(a int) bool { return impl.Dominates(p, a, b) })
}

func pointsWith(p impl.Program, holds func(at int) bool) []int {
	var points []int
	for at := range impl.PointsOf(p) {
		if holds(at) {
			points = append(points, at)
		}
	}
	return points
}

// lastDominators returns the last dominator of a point, if there is one.
func lastDominators(p impl.Program, b int) []int {
	if a, ok := impl.LastDominator(p, b); ok {
		return []int{a}
	}
	return nil
}

// passedCases are programs with the dominators of each point, the last ones, what is always reached from each point, and the loop of each point.
var passedCases = []struct{ text, dominators, last, reached, loops string }{
	{":", "0", "-", "0", "-"},
	{"i:a=1;a=2", "0 0,1 0,1,2", "- 0 1", "0,1,2 1,2 2", "- - -"},
	// Ways meet behind an OpIf, whatever its lists have.
	{":if{}{}", "0 0,1 0,2", "- 0 0", "0,2 1,2 2", "- - -"},
	{"i:if{a=1}{a=2}", "0 0,1 0,1,2 0,3 0,4", "- 0 1 0 0", "0,4 1,2,4 2,4 3,4 4", "- - - - -"},
	{"i:if{a=1}{};a=2", "0 0,1 0,1,2 0,3 0,3,4", "- 0 1 0 3", "0,3,4 1,2,3,4 2,3,4 3,4 4", "- - - - -"},
	{"i:if{}{a=1};a=2", "0 0,1 0,2 0,3 0,3,4", "- 0 0 0 3", "0,3,4 1,3,4 2,3,4 3,4 4", "- - - - -"},
	// The first point is a choice to which ways lead back.
	{":loop{}", "0 0,1 0,2", "- 0 0", "0,2 0,1,2 2", "0,1 0,1 -"},
	{"i:loop{a=1}", "0 0,1 0,1,2 0,3", "- 0 1 0", "0,3 0,1,2,3 0,2,3 3", "0,1,2 0,1,2 0,1,2 -"},
	// Behind a loop, its choice was passed, and its points need not be.
	{"i:a=0;loop{a=1};a=2", "0 0,1 0,1,2 0,1,2,3 0,1,4 0,1,4,5", "- 0 1 2 1 4", "0,1,4,5 1,4,5 1,2,3,4,5 1,3,4,5 4,5 5", "- 1,2,3 1,2,3 1,2,3 - -"},
	{":loop{};loop{}", "0 0,1 0,2 0,2,3 0,2,4", "- 0 0 2 2", "0,2,4 0,1,2,4 2,4 2,3,4 4", "0,1 0,1 2,3 2,3 -"},
	// A loop in a loop: the jump of the inner one is not in the way of the outer one.
	{":loop{loop{}}", "0 0,1 0,1,2 0,1,3 0,4", "- 0 1 1 0", "0,4 0,1,3,4 0,1,2,3,4 0,3,4 4", "0,1,2,3 1,2 1,2 0,1,2,3 -"},
	{
		"i:loop{a=1;loop{a=2};a=3}",
		"0 0,1 0,1,2 0,1,2,3 0,1,2,3,4 0,1,2,5 0,1,2,5,6 0,7",
		"- 0 1 2 3 2 5 0",
		"0,7 0,1,2,5,6,7 0,2,5,6,7 0,2,3,4,5,6,7 0,2,4,5,6,7 0,5,6,7 0,6,7 7",
		"0,1,2,3,4,5,6 0,1,2,3,4,5,6 2,3,4 2,3,4 2,3,4 0,1,2,3,4,5,6 0,1,2,3,4,5,6 -",
	},
	{
		":loop{loop{};loop{}}",
		"0 0,1 0,1,2 0,1,3 0,1,3,4 0,1,3,5 0,6",
		"- 0 1 1 3 3 0",
		"0,6 0,1,3,5,6 0,1,2,3,5,6 0,3,5,6 0,3,4,5,6 0,5,6 6",
		"0,1,2,3,4,5 1,2 1,2 3,4 3,4 0,1,2,3,4,5 -",
	},
	{
		"ib:b=box 1;loop{a=*b;if{}{loop{a=2}}};a=2",
		"0 0,1 0,1,2 0,1,2,3 0,1,2,3,4 0,1,2,3,5 0,1,2,3,5,6 0,1,2,3,5,6,7 0,1,2,3,8 0,1,9 0,1,9,10",
		"- 0 1 2 3 3 5 6 3 1 9",
		"0,1,9,10 1,9,10 1,2,3,8,9,10 1,3,8,9,10 1,4,8,9,10 1,5,8,9,10 1,5,6,7,8,9,10 1,5,7,8,9,10 1,8,9,10 9,10 10",
		"- 1,2,3,4,5,6,7,8 1,2,3,4,5,6,7,8 1,2,3,4,5,6,7,8 1,2,3,4,5,6,7,8 5,6,7 5,6,7 5,6,7 1,2,3,4,5,6,7,8 - -",
	},
	// The jump of an OpIf is none of a loop, and is in the loop around.
	{"i:loop{if{a=1}{}}", "0 0,1 0,1,2 0,1,2,3 0,1,4 0,5", "- 0 1 2 1 0", "0,5 0,1,4,5 0,2,3,4,5 0,3,4,5 0,4,5 5", "0,1,2,3,4 0,1,2,3,4 0,1,2,3,4 0,1,2,3,4 0,1,2,3,4 -"},
	{"i:if{loop{a=1}}{}", "0 0,1 0,1,2 0,1,2,3 0,1,4 0,5", "- 0 1 2 1 0", "0,5 1,4,5 1,2,3,4,5 1,3,4,5 4,5 5", "- 1,2,3 1,2,3 1,2,3 - -"},
	{":if{if{}{}}{loop{}}", "0 0,1 0,1,2 0,1,3 0,4 0,4,5 0,6", "- 0 1 1 0 4 0", "0,6 1,3,6 2,3,6 3,6 4,6 4,5,6 6", "- - - - 4,5 4,5 -"},
	// What statements do, and whether the program is accepted, does not matter.
	{"ib:drop b;a=*b", "0 0,1 0,1,2", "- 0 1", "0,1,2 1,2 2", "- - -"},
}

func TestPassedPoints(t *testing.T) {
	for _, c := range passedCases {
		p := parsed(t, c.text)
		for _, of := range []struct {
			name, want string
			list       func(p impl.Program, at int) []int
		}{
			{"DominatorsOf", c.dominators, impl.DominatorsOf},
			{"Dominates", c.dominators, dominating},
			{"LastDominator", c.last, lastDominators},
			{"AlwaysReaches", c.reached, alwaysReached},
			{"LoopOf", c.loops, impl.LoopOf},
		} {
			if got := numbersAtPoints(p, of.list); got != of.want {
				t.Errorf("%s of %s: %s, want %s", of.name, c.text, got, of.want)
			}
		}
	}
}

// passing has, for each point, what is always passed before it, what is always passed behind it, and its loop.
type passing struct {
	before, behind, loops [61][]int
}

// modelOfPassing reads all that from the statements: before a point are those in front of it in its list and in the lists around.
func modelOfPassing(p impl.Program) *passing {
	m := &passing{}
	last := len(flatPoints(p.Body, 0))
	m.before[last] = with(m.ahead(p.Body, 0, nil), last)
	m.behind[last] = []int{last}
	m.back(p.Body, last, []int{last})
	return m
}

// with returns the numbers of list and another one, in ascending order, each once.
func with(list []int, others ...int) []int {
	all := slices.Concat(list, others)
	slices.Sort(all)
	return slices.Compact(all)
}

// ahead is for a list that begins at the point at, where the points of passed were passed. It returns those passed behind the list.
func (m *passing) ahead(list []impl.Stmt, at int, passed []int) []int {
	for _, s := range list {
		end := at + pointsIn(s)
		passed = with(passed, at)
		m.before[at] = passed
		switch s.Op {
		case impl.OpIf:
			jump := at + 1 + len(flatPoints(s.Then, 0))
			m.before[jump] = with(m.ahead(s.Then, at+1, passed), jump)
			m.ahead(s.Else, jump+1, passed)
		case impl.OpLoop:
			m.before[end-1] = with(m.ahead(s.Then, at+1, passed), end-1)
			m.markLoop(at, end)
		}
		at = end
	}
	return passed
}

// markLoop leaves what loops in this one have, which were marked before it.
func (m *passing) markLoop(from, end int) {
	var points []int
	for at := from; at < end; at++ {
		points = append(points, at)
	}
	for _, at := range points {
		if m.loops[at] == nil {
			m.loops[at] = points
		}
	}
}

// back is for a list that ends in front of the point end, behind which the points of passed are passed. It returns those passed behind its first point.
func (m *passing) back(list []impl.Stmt, end int, passed []int) []int {
	for _, s := range slices.Backward(list) {
		at := end - pointsIn(s)
		switch s.Op {
		case impl.OpIf:
			jump := at + 1 + len(flatPoints(s.Then, 0))
			m.back(s.Else, end, passed)
			m.behind[jump] = with(passed, jump)
			m.back(s.Then, jump, m.behind[jump])
		case impl.OpLoop:
			m.behind[end-1] = with(passed, at, end-1)
			m.back(s.Then, end-1, m.behind[end-1])
		}
		passed = with(passed, at)
		m.behind[at] = passed
		end = at
	}
	return passed
}

// shapes returns all lists of as many statements as count, with a choice between a=1, OpIf and OpLoop for each.
func shapes(count int) [][]impl.Stmt {
	if count == 0 {
		return [][]impl.Stmt{nil}
	}
	var all [][]impl.Stmt
	for _, rest := range shapes(count - 1) {
		all = append(all, append(ints(1), rest...))
	}
	for inner := range count {
		for _, rest := range shapes(count - 1 - inner) {
			for _, s := range parts(inner) {
				all = append(all, append([]impl.Stmt{s}, rest...))
			}
		}
	}
	return all
}

// parts returns the OpIf and the OpLoop with as many statements in them as count.
func parts(count int) []impl.Stmt {
	var all []impl.Stmt
	for _, again := range shapes(count) {
		all = append(all, loop(again...))
	}
	for yes := range count + 1 {
		for _, first := range shapes(yes) {
			for _, second := range shapes(count - yes) {
				all = append(all, either(first, second))
			}
		}
	}
	return all
}

// shapedPrograms are the programs of all lists of at most as many statements as most.
func shapedPrograms(most int) []impl.Program {
	var programs []impl.Program
	for count := range most + 1 {
		for _, list := range shapes(count) {
			programs = append(programs, impl.Program{Types: []int{1}, Body: list})
		}
	}
	return programs
}

// largePrograms have many statements in each other.
func largePrograms() []impl.Program {
	d := &dice{state: 12}
	var programs []impl.Program
	for len(programs) < 80 {
		p := impl.Program{Types: []int{1}, Body: d.shape(30, 4)}
		if len(flatPoints(p.Body, 0)) > 25 && impl.ProgramValid(p) {
			programs = append(programs, p)
		}
	}
	return programs
}

// shape is a list in which most statements are an OpIf or an OpLoop.
func (d *dice) shape(most, nested int) []impl.Stmt {
	var list []impl.Stmt
	for range d.upTo(most/2 + 1) {
		switch kind := d.upTo(5); {
		case nested == 0 || kind == 0:
			list = append(list, ints(1)...)
		case kind < 3:
			list = append(list, loop(d.shape(most/2, nested-1)...))
		default:
			list = append(list, either(d.shape(most/2, nested-1), d.shape(most/2, nested-1)))
		}
	}
	return list
}

// passedPrograms have all small shapes, and many others.
func passedPrograms() []impl.Program {
	return slices.Concat(shapedPrograms(4), largePrograms(), mixedPrograms(150), borrowing(50))
}

func TestPassedPointsOfManyPrograms(t *testing.T) {
	for _, p := range passedPrograms() {
		m := modelOfPassing(p)
		for at := range impl.PointsOf(p) {
			for _, of := range []struct {
				name      string
				got, want []int
			}{
				{"DominatorsOf", impl.DominatorsOf(p, at), m.before[at]},
				{"Dominates", dominating(p, at), m.before[at]},
				{"AlwaysReaches", alwaysReached(p, at), m.behind[at]},
				{"LoopOf", impl.LoopOf(p, at), m.loops[at]},
			} {
				if !slices.Equal(of.got, of.want) {
					t.Fatalf("%s of %s at %d: %v, want %v", of.name, impl.FormatProgram(p), at, of.got, of.want)
				}
			}
		}
	}
}

// The last dominator is the only one that all others dominate.
func TestLastDominators(t *testing.T) {
	for _, p := range passedPrograms() {
		m := modelOfPassing(p)
		for b := range impl.PointsOf(p) {
			others := slices.DeleteFunc(slices.Clone(m.before[b]), func(a int) bool { return a == b })
			var want []int
			for _, a := range others {
				if hasAll(m.before[a], others) {
					want = append(want, a)
				}
			}
			if (len(want) == 1) != (b > 0) {
				t.Fatalf("the last dominators of %s at %d: %v", impl.FormatProgram(p), b, want)
			}
			if got := lastDominators(p, b); !slices.Equal(got, want) {
				t.Fatalf("LastDominator(%s, %d) = %v, want %v", impl.FormatProgram(p), b, got, want)
			}
		}
	}
}

// passedOnRuns returns what all runs with some numbers of choices pass before each point, and behind it. A way that passes no point twice has at most one choice at each, so that twice as many choices as the program has are enough to show all ways to a point and from it.
func passedOnRuns(t *testing.T, p impl.Program) (before, behind [61]uint64) {
	for at := range before {
		before[at], behind[at] = ^uint64(0), ^uint64(0)
	}
	for _, choices := range listsOf(2 * impl.CountChoices(p)) {
		run, ok := impl.RunPath(p, choices, 1000)
		if !ok {
			t.Fatalf("a run of %s does not end", impl.FormatProgram(p))
		}
		passed := uint64(0)
		for _, at := range run {
			passed |= 1 << at
			before[at] &= passed
		}
		passed = 0
		for _, at := range slices.Backward(run) {
			passed |= 1 << at
			behind[at] &= passed
		}
	}
	return before, behind
}

func membersOf(set uint64) []int {
	var members []int
	for i := range 64 {
		if set>>i&1 == 1 {
			members = append(members, i)
		}
	}
	return members
}

// What all runs pass is what is always passed, and nothing else.
func TestWhatAllRunsPass(t *testing.T) {
	for _, p := range shapedPrograms(4) {
		before, behind := passedOnRuns(t, p)
		for at := range impl.PointsOf(p) {
			if got, want := impl.DominatorsOf(p, at), membersOf(before[at]); !slices.Equal(got, want) {
				t.Fatalf("DominatorsOf(%s, %d) = %v, all runs pass %v", impl.FormatProgram(p), at, got, want)
			}
			if got, want := alwaysReached(p, at), membersOf(behind[at]); !slices.Equal(got, want) {
				t.Fatalf("AlwaysReaches of %s at %d: %v, all runs pass %v", impl.FormatProgram(p), at, got, want)
			}
		}
	}
}

// Runs that go through loops many times, too, pass the dominators of each point before it, the last one behind the others, and what is always reached behind it.
func TestWhatLongRunsPass(t *testing.T) {
	d := &dice{state: 21}
	long := 0
	for _, p := range slices.Concat(largePrograms(), mixedPrograms(100)) {
		var reached [][]int
		for a := range impl.PointsOf(p) {
			reached = append(reached, alwaysReached(p, a))
		}
		for range 5 {
			run := wholeRun(p, d.choices(200))
			if len(run) > 61 {
				long++
			}
			for at, want := range reached {
				if begin := slices.Index(run, at); begin >= 0 {
					passesBefore(t, p, run[:begin+1])
					if rest := run[lastIndex(run, at):]; !hasAll(rest, want) {
						t.Fatalf("a run of %s passes %v behind %d, not all of %v", impl.FormatProgram(p), rest, at, want)
					}
				}
			}
		}
	}
	if long < 50 {
		t.Errorf("only %d runs are long", long)
	}
}

func lastIndex(list []int, n int) int {
	for i, x := range slices.Backward(list) {
		if x == n {
			return i
		}
	}
	return -1
}

// passesBefore is for the begin of a run that comes to a point for the first time.
func passesBefore(t *testing.T, p impl.Program, begin []int) {
	t.Helper()
	b := begin[len(begin)-1]
	want := impl.DominatorsOf(p, b)
	var passed []int
	for _, at := range begin {
		if slices.Contains(want, at) && !slices.Contains(passed, at) {
			passed = append(passed, at)
		}
	}
	if !slices.Equal(passed, want) {
		t.Fatalf("a run of %s passes %v before %d, want %v", impl.FormatProgram(p), passed, b, want)
	}
	if a, ok := impl.LastDominator(p, b); ok && passed[len(passed)-2] != a {
		t.Fatalf("a run of %s passes %v before %d, of which %d is not the last", impl.FormatProgram(p), passed, b, a)
	}
}

// Runs come into a loop, and leave it, by its choice, which dominates all that is in it.
func TestRunsOfLoops(t *testing.T) {
	d := &dice{state: 22}
	entered, left := 0, 0
	for _, p := range slices.Concat(largePrograms(), mixedPrograms(150)) {
		run := wholeRun(p, d.choices(60))
		for i, at := range run[1:] {
			from, to := impl.LoopOf(p, run[i]), impl.LoopOf(p, at)
			if len(to) > 0 && !slices.Contains(to, run[i]) {
				entered++
				if at != to[0] {
					t.Fatalf("a run of %s comes into the loop %v at %d", impl.FormatProgram(p), to, at)
				}
			}
			if len(from) > 0 && !slices.Contains(from, at) {
				left++
				if run[i] != from[0] {
					t.Fatalf("a run of %s leaves the loop %v from %d", impl.FormatProgram(p), from, run[i])
				}
			}
			if len(to) > 0 && (!impl.Dominates(p, to[0], at) || !impl.AlwaysReaches(p, at, to[0])) {
				t.Fatalf("the choice of the loop %v of %s is not always passed", to, impl.FormatProgram(p))
			}
		}
	}
	if entered < 500 || left < 500 {
		t.Errorf("runs came into %d loops, and left %d", entered, left)
	}
}

// What dominates a point leads to it, and what is always reached from it is on ways from it.
func TestPassedPointsAreOnPaths(t *testing.T) {
	for _, p := range slices.Concat(largePrograms()[:30], mixedPrograms(100)) {
		to := leads(impl.PointsOf(p))
		for at := range impl.PointsOf(p) {
			for _, a := range impl.DominatorsOf(p, at) {
				if a != at && !to[a][at] {
					t.Errorf("%d does not lead to %d in %s", a, at, impl.FormatProgram(p))
				}
			}
			for _, b := range alwaysReached(p, at) {
				if b != at && !to[at][b] {
					t.Errorf("%d does not lead to %d in %s", at, b, impl.FormatProgram(p))
				}
			}
		}
	}
}

// A variable has a value on all ways behind what dominates a point and sets it, if nothing takes it.
func TestPassedPointsSetValues(t *testing.T) {
	set := 0
	for _, p := range slices.Concat(mixedPrograms(300), borrowing(100)) {
		points := impl.PointsOf(p)
		for b := range points {
			for v := range p.Types {
				taken := slices.ContainsFunc(points, func(x impl.Point) bool { return useAt(p, x, v) == impl.UseTake })
				sets := func(a int) bool { return a != b && setsAt(points[a], v) }
				if taken || !slices.ContainsFunc(impl.DominatorsOf(p, b), sets) {
					continue
				}
				set++
				if !slices.Contains(impl.AlwaysSet(p, b), v) {
					t.Errorf("the variable %d of %s need not have a value at %d", v, impl.FormatProgram(p), b)
				}
			}
		}
	}
	if set < 500 {
		t.Errorf("only %d variables are set by dominators", set)
	}
}

func nothingPassed(t *testing.T, what string, p impl.Program, at int) {
	t.Helper()
	last, ok := impl.LastDominator(p, at)
	if len(impl.DominatorsOf(p, at)) != 0 || last != 0 || ok || len(impl.LoopOf(p, at)) != 0 {
		t.Errorf("%s: the point %d has dominators %v, the last one %d, %v, and the loop %v", what, at, impl.DominatorsOf(p, at), last, ok, impl.LoopOf(p, at))
	}
}

func noPassing(t *testing.T, what string, p impl.Program, a, b int) {
	t.Helper()
	if impl.Dominates(p, a, b) || impl.AlwaysReaches(p, a, b) {
		t.Errorf("%s: Dominates(%d, %d) = %v, AlwaysReaches = %v", what, a, b, impl.Dominates(p, a, b), impl.AlwaysReaches(p, a, b))
	}
}

func TestPassedPointsOfInvalidPrograms(t *testing.T) {
	broken := impl.Program{Types: []int{1}, Body: []impl.Stmt{loop(ints(2)...), simple(impl.OpInt, 0, 0, 10)}}
	for i, p := range append(invalidPrograms(), broken) {
		what := fmt.Sprint("the invalid program ", i)
		for _, a := range append([]int{0, 1, 2, 30, 60}, farIndices...) {
			nothingPassed(t, what, p, a)
			for _, b := range append([]int{0, 1, 2, 30, 60}, farIndices...) {
				noPassing(t, what, p, a, b)
			}
		}
	}
}

func TestPassedPointsThatAreNotThere(t *testing.T) {
	for _, text := range []string{":", ":loop{}", "i:a=1;loop{if{a=2}{loop{a=3}}};a=4"} {
		p := parsed(t, text)
		count := len(impl.PointsOf(p))
		for _, far := range append([]int{count, count + 1, count + 64}, farIndices...) {
			nothingPassed(t, text, p, far)
			noPassing(t, text, p, far, far)
			for at := range count {
				noPassing(t, text, p, at, far)
				noPassing(t, text, p, far, at)
			}
		}
	}
}

// upTo60 returns every second number from first to 60.
func upTo60(first int) []int {
	var numbers []int
	for n := first; n <= 60; n += 2 {
		numbers = append(numbers, n)
	}
	return numbers
}

// As many points, dominators and loops in each other as there can be.
func TestMostPassedPoints(t *testing.T) {
	for _, s := range []impl.Stmt{loop(), either(nil, nil)} {
		p := impl.Program{Body: slices.Repeat([]impl.Stmt{s}, impl.MaxStmts)}
		for first := 0; first <= 60; first += 2 {
			if l, want := alwaysReached(p, first), upTo60(first); !slices.Equal(l, want) {
				t.Errorf("AlwaysReaches from %d: %v, want %v", first, l, want)
			}
		}
		if l := impl.DominatorsOf(p, 60); !slices.Equal(l, upTo60(0)) {
			t.Errorf("DominatorsOf the last point = %v", l)
		}
		if l, want := impl.DominatorsOf(p, 59), with(upTo60(0)[:30], 59); !slices.Equal(l, want) {
			t.Errorf("DominatorsOf the last jump = %v, want %v", l, want)
		}
		if a, ok := impl.LastDominator(p, 60); a != 58 || !ok {
			t.Errorf("LastDominator of the last point = %d, %v", a, ok)
		}
	}
	loops := impl.Program{Body: slices.Repeat([]impl.Stmt{loop()}, impl.MaxStmts)}
	for at := range 60 {
		if l := impl.LoopOf(loops, at); !slices.Equal(l, []int{at &^ 1, at | 1}) {
			t.Errorf("LoopOf(%d) = %v", at, l)
		}
	}
	long := parsed(t, "i:loop{"+strings.Repeat("a=1;", 28)+"a=1}")
	if l := impl.LoopOf(long, 15); len(l) != 31 || l[0] != 0 || l[30] != 30 {
		t.Errorf("LoopOf a long loop = %v", l)
	}
	if l := impl.DominatorsOf(long, 30); len(l) != 31 || l[30] != 30 {
		t.Errorf("DominatorsOf its jump = %v", l)
	}
	deepest := parsed(t, "i:loop{loop{loop{loop{a=1}}}}")
	want := "0,1,2,3,4,5,6,7,8 1,2,3,4,5,6,7 2,3,4,5,6 3,4,5 3,4,5 3,4,5 2,3,4,5,6 1,2,3,4,5,6,7 0,1,2,3,4,5,6,7,8 -"
	if got := numbersAtPoints(deepest, impl.LoopOf); got != want {
		t.Errorf("loops in each other: %s, want %s", got, want)
	}
	if got := numbersAtPoints(deepest, lastDominators); got != "- 0 1 2 3 4 3 2 1 0" {
		t.Errorf("the last dominators of loops in each other: %s", got)
	}
}

func TestPassedPointsShareNoMemory(t *testing.T) {
	text := "i:a=0;loop{a=1;loop{if{a=2}{a=3}};a=4}"
	p := parsed(t, text)
	for at := 1; at < 10; at++ {
		for _, of := range []func() []int{
			func() []int { return impl.DominatorsOf(p, at) },
			func() []int { return impl.LoopOf(p, at) },
		} {
			first, other := of(), of()
			want := slices.Clone(first)
			for i := range first[:cap(first)] {
				first[:cap(first)][i] = 99
			}
			if second := of(); len(second) == 0 || !slices.Equal(second, want) || !slices.Equal(other, want) {
				t.Errorf("second results are %v, %v, want %v", other, second, want)
			}
		}
	}
	if got := impl.FormatProgram(p); got != text {
		t.Errorf("the program changed: %s", got)
	}
}
