package tests

import (
	"fmt"
	"slices"
	"strings"
	"testing"

	"loop.example/borrowcheck/impl"
)

// wayCases are programs with ways from a point to another one, - for none.
var wayCases = []struct {
	text     string
	from, to int
	want     string
}{
	{"ib:b=box 1;a=*b;drop b", 0, 3, "[0 1 2 3]"},
	{"ib:b=box 1;a=*b;drop b", 1, 2, "[1 2]"},
	{"ib:b=box 1;a=*b;drop b", 2, 1, "-"},
	{"ib:b=box 1;a=*b;drop b", 3, 0, "-"},
	// From a point to itself: at least one step, which only a loop has.
	{":", 0, 0, "-"},
	{"i:a=1", 0, 0, "-"},
	{"i:a=1", 1, 1, "-"},
	{":if{}{}", 0, 0, "-"},
	{":loop{}", 0, 0, "[0 1 0]"},
	{":loop{}", 1, 1, "[1 0 1]"},
	{":loop{}", 2, 2, "-"},
	{":loop{}", 2, 0, "-"},
	{":loop{}", 1, 2, "[1 0 2]"},
	{"ib:b=box 1;loop{a=*b;drop b}", 2, 2, "[2 3 4 1 2]"},
	{"ib:b=box 1;loop{a=*b;drop b}", 3, 2, "[3 4 1 2]"},
	{"ib:b=box 1;loop{a=*b;drop b}", 4, 4, "[4 1 2 3 4]"},
	{"ib:b=box 1;loop{a=*b;drop b}", 0, 0, "-"},
	{"ib:b=box 1;loop{a=*b;drop b}", 0, 5, "[0 1 5]"},
	// The shorter list of an OpIf, and the first one of equal length. A list of Then ends with a jump.
	{"i:if{a=1;a=2}{a=3};a=4", 0, 5, "[0 4 5]"},
	{"i:if{a=1}{a=2;a=3;a=4};a=5", 0, 6, "[0 1 2 6]"},
	{"i:if{a=1}{a=2;a=3};a=4", 0, 5, "[0 1 2 5]"},
	{"i:if{}{a=1};a=2", 0, 3, "[0 1 3]"},
	{":if{}{};if{}{}", 0, 4, "[0 2 4]"},
	{"i:if{a=1}{a=2;a=3};if{a=4;a=5}{a=6}", 0, 10, "[0 1 2 5 9 10]"},
	{"i:if{if{}{a=1}}{a=2;a=3;a=4};a=5", 0, 8, "[0 1 2 4 8]"},
	{"i:if{if{a=1}{}}{a=2;if{}{}};a=3", 0, 8, "[0 1 4 8]"},
	// Out of loops, and around them, by the way that is shorter.
	{"i:loop{loop{a=1}}", 3, 3, "[3 1 2 3]"},
	{"i:loop{loop{a=1}}", 0, 0, "[0 1 4 0]"},
	{"i:loop{loop{a=1}}", 2, 5, "[2 3 1 4 0 5]"},
	{"i:loop{a=1;loop{a=2;a=3};a=4};a=5", 4, 1, "[4 5 2 6 7 0 1]"},
	{"i:loop{a=1;loop{a=2;a=3};a=4};a=5", 7, 6, "[7 0 1 2 6]"},
	{"i:loop{if{a=1}{a=2;a=3}}", 3, 2, "[3 6 0 1 2]"},
	{"i:loop{if{a=1}{a=2;a=3}}", 0, 0, "[0 1 2 3 6 0]"},
	{"i:loop{if{a=1}{a=2;a=3}}", 5, 5, "[5 6 0 1 4 5]"},
}

// wayText writes a way, - for none, which has to come with false.
func wayText(way []int, ok bool) string {
	if !ok && len(way) == 0 {
		return "-"
	}
	if ok {
		return fmt.Sprint(way)
	}
	return fmt.Sprint(way, " and false")
}

func TestShortWay(t *testing.T) {
	for _, c := range wayCases {
		if got := wayText(impl.ShortWay(parsed(t, c.text), c.from, c.to)); got != c.want {
			t.Errorf("ShortWay(%s, %d, %d) = %s, want %s", c.text, c.from, c.to, got, c.want)
		}
	}
}

// stepsBetween has the least number of steps from each point to each other one, of one or more, and farApart if there is no way.
type stepsBetween [61][61]int

const farApart = 1000

// modelOfSteps makes ways shorter by one point after the other between them.
func modelOfSteps(points []impl.Point) *stepsBetween {
	m := &stepsBetween{}
	for a := range points {
		for b := range points {
			m[a][b] = farApart
		}
		for _, next := range points[a].Next {
			m[a][next] = 1
		}
	}
	for mid := range points {
		for a := range points {
			for b := range points {
				m[a][b] = min(m[a][b], m[a][mid]+m[mid][b])
			}
		}
	}
	return m
}

// way takes the first Next from which the way is the shortest, again and again. A search in the order of breadth finds the points with the same number of steps in the order of these ways.
func (m *stepsBetween) way(points []impl.Point, from, to int) ([]int, bool) {
	if m[from][to] >= farApart {
		return nil, false
	}
	way := []int{from}
	at := from
	for left := m[from][to] - 1; left >= 0; left-- {
		i := slices.IndexFunc(points[at].Next, func(next int) bool { return left == 0 && next == to || left > 0 && m[next][to] == left })
		at = points[at].Next[i]
		way = append(way, at)
	}
	return way, true
}

// ties counts the points from which several Next are on shortest ways to a point.
func (m *stepsBetween) ties(points []impl.Point, to int) int {
	count := 0
	for _, x := range points {
		if len(x.Next) == 2 && x.Next[0] != to && x.Next[1] != to && m[x.Next[0]][to] < farApart && m[x.Next[0]][to] == m[x.Next[1]][to] {
			count++
		}
	}
	return count
}

func TestShortWaysOfManyPrograms(t *testing.T) {
	none, back, ties := 0, 0, 0
	for _, p := range slices.Concat(shapedPrograms(4), largePrograms()[:40], mixedPrograms(150), borrowing(50)) {
		points := impl.PointsOf(p)
		m := modelOfSteps(points)
		for to := range points {
			ties += m.ties(points, to)
			for from := range points {
				got, want := wayText(impl.ShortWay(p, from, to)), wayText(m.way(points, from, to))
				if got != want {
					t.Fatalf("ShortWay(%s, %d, %d) = %s, want %s", impl.FormatProgram(p), from, to, got, want)
				}
				switch {
				case got == "-":
					none++
				case from >= to:
					back++
				}
			}
		}
	}
	if none < 10000 || back < 10000 || ties < 1000 {
		t.Errorf("%d points have no way, %d ways lead back, and %d points have ties", none, back, ties)
	}
}

// There is a ShortWay where there is a path, and all of its points but the ends are on it once.
func TestShortWaysArePaths(t *testing.T) {
	for _, p := range slices.Concat(largePrograms()[:20], mixedPrograms(60)) {
		for from := range impl.PointsOf(p) {
			var reached []int
			for to := range impl.PointsOf(p) {
				way, ok := impl.ShortWay(p, from, to)
				if !ok {
					continue
				}
				reached = append(reached, to)
				if behind := with(way[1:]); way[0] != from || way[len(way)-1] != to || len(behind) != len(way)-1 {
					t.Fatalf("ShortWay(%s, %d, %d) = %v", impl.FormatProgram(p), from, to, way)
				}
			}
			if want := impl.PathsFrom(p, from); !slices.Equal(reached, want) {
				t.Fatalf("ShortWay of %s leads from %d to %v, want %v", impl.FormatProgram(p), from, reached, want)
			}
		}
	}
}

// choiceCases are programs with ways from the point 0 and their choices, - for lists that are no such ways.
var choiceCases = []struct {
	text string
	way  []int
	want string
}{
	// Ways without choices, and of one point, which is the end and so tells nothing.
	{":", []int{0}, "[]"},
	{"ib:b=box 1;a=*b", []int{0}, "[]"},
	{"ib:b=box 1;a=*b", []int{0, 1, 2}, "[]"},
	{":loop{}", []int{0}, "[]"},
	{":if{}{}", []int{0}, "[]"},
	{"i:a=1;loop{}", []int{0, 1}, "[]"},
	// Both ways of an OpIf. Its jump is none.
	{":if{}{}", []int{0, 1}, "[0]"},
	{":if{}{}", []int{0, 2}, "[1]"},
	{":if{}{}", []int{0, 1, 2}, "[0]"},
	{"i:if{a=1}{a=2};a=3", []int{0, 1, 2, 4, 5}, "[0]"},
	{"i:if{a=1}{a=2};a=3", []int{0, 3, 4, 5}, "[1]"},
	{"i:if{if{}{}}{};if{}{a=1}", []int{0, 1, 3, 4, 6, 7}, "[0 1 1]"},
	// Again and again through loops.
	{":loop{}", []int{0, 1}, "[0]"},
	{":loop{}", []int{0, 1, 0}, "[0]"},
	{":loop{}", []int{0, 1, 0, 1, 0, 2}, "[0 0 1]"},
	{"i:loop{loop{a=1}}", []int{0, 1, 2, 3, 1, 4, 0, 1, 4, 0, 5}, "[0 0 1 0 1 1]"},
	// Ways that do not begin with the point 0, and those of no points.
	{":", nil, "-"},
	{":", []int{}, "-"},
	{":", []int{1}, "-"},
	{":loop{}", []int{1}, "-"},
	{":loop{}", []int{1, 0}, "-"},
	{":loop{}", []int{1, 0, 2}, "-"},
	{":loop{}", []int{-1, 0}, "-"},
	{"i:a=1;a=2", []int{1, 2}, "-"},
	// Ways that leave the steps between points: at the beginning, behind a choice, and at the end.
	{":", []int{0, 0}, "-"},
	{":", []int{0, 1}, "-"},
	{"i:a=1;a=2", []int{0, 0, 1}, "-"},
	{"i:a=1;a=2", []int{0, 2}, "-"},
	{"i:a=1;a=2", []int{0, 1, 0}, "-"},
	{"i:a=1;a=2", []int{0, 1, 2, 3}, "-"},
	{"i:a=1;a=2", []int{0, 1, -1}, "-"},
	{":loop{}", []int{0, 0}, "-"},
	{":loop{}", []int{0, 1, 2}, "-"},
	{":loop{}", []int{0, 1, 1}, "-"},
	{":loop{}", []int{0, 2, 0}, "-"},
	{":if{}{}", []int{0, 1, 2, 2}, "-"},
	{"i:if{a=1}{a=2}", []int{0, 2}, "-"},
	{"i:if{a=1}{a=2}", []int{0, 1, 2, 3, 4}, "-"},
	{"i:if{a=1}{a=2}", []int{0, 1, 3, 4}, "-"},
}

func TestWayChoices(t *testing.T) {
	for _, c := range choiceCases {
		if got := wayText(impl.WayChoices(parsed(t, c.text), c.way)); got != c.want {
			t.Errorf("WayChoices(%s, %v) = %s, want %s", c.text, c.way, got, c.want)
		}
	}
}

// modelOfChoices reads the choices of a way from the points.
func modelOfChoices(points []impl.Point, way []int) ([]int, bool) {
	var choices []int
	if len(way) == 0 || way[0] != 0 {
		return nil, false
	}
	for i := 1; i < len(way); i++ {
		switch next := points[way[i-1]].Next; {
		case len(next) == 2 && next[0] == way[i]:
			choices = append(choices, 0)
		case len(next) == 2 && next[1] == way[i]:
			choices = append(choices, 1)
		case len(next) != 1 || next[0] != way[i]:
			return nil, false
		}
	}
	return choices, true
}

// A run goes the way of which it has the choices: each begin of a run, and each ShortWay from the point 0.
func TestRunsGoWays(t *testing.T) {
	d := &dice{state: 43}
	for _, p := range slices.Concat(largePrograms()[:30], mixedPrograms(150)) {
		run := wholeRun(p, d.choices(30))
		ways := [][]int{run}
		for n := 1; n < len(run); n += 1 + d.upTo(3) {
			ways = append(ways, run[:n])
		}
		for to := range impl.PointsOf(p) {
			if way, ok := impl.ShortWay(p, 0, to); ok {
				ways = append(ways, way)
			}
		}
		for _, way := range ways {
			choices, ok := impl.WayChoices(p, way)
			if want, _ := modelOfChoices(impl.PointsOf(p), way); !ok || !slices.Equal(choices, want) {
				t.Fatalf("WayChoices(%s, %v) = %v, %v, want %v", impl.FormatProgram(p), way, choices, ok, want)
			}
			if l, _ := impl.RunPath(p, choices, 1000); len(l) < len(way) || !slices.Equal(l[:len(way)], way) {
				t.Fatalf("the run of %s with the choices %v of %v is %v", impl.FormatProgram(p), choices, way, l)
			}
		}
	}
}

// A way with another point somewhere is one only where the steps are there.
func TestChangedWays(t *testing.T) {
	d := &dice{state: 47}
	fine, broken := 0, 0
	for _, p := range slices.Concat(shapedPrograms(3), mixedPrograms(60)) {
		points := impl.PointsOf(p)
		run := wholeRun(p, d.choices(8))
		run = run[:min(len(run), 12)]
		for i := range run {
			for to := -1; to <= len(points); to++ {
				way := slices.Clone(run)
				way[i] = to
				var want string
				if to < 0 || to >= len(points) {
					want = "-"
				} else {
					want = wayText(modelOfChoices(points, way))
				}
				if got := wayText(impl.WayChoices(p, way)); got != want {
					t.Fatalf("WayChoices(%s, %v) = %s, want %s", impl.FormatProgram(p), way, got, want)
				}
				if want == "-" {
					broken++
				} else {
					fine++
				}
			}
		}
	}
	if fine < 500 || broken < 5000 {
		t.Errorf("%d ways are there, and %d are not", fine, broken)
	}
}

// No limit on the points of a run is one on the points of a way.
func TestLongWays(t *testing.T) {
	p := parsed(t, ":loop{}")
	way := append(slices.Repeat([]int{0, 1}, 5000), 0, 2)
	choices, ok := impl.WayChoices(p, way)
	if want := append(make([]int, 5000), 1); !ok || !slices.Equal(choices, want) {
		t.Errorf("%d choices, %v", len(choices), ok)
	}
	way[9000] = 1
	if l, ok := impl.WayChoices(p, way); ok || len(l) != 0 {
		t.Errorf("%d choices of a way without a step, %v", len(l), ok)
	}
}

// useCases are programs with a point and a loan, and the nearest use of the loan behind the point.
var useCases = []struct {
	text     string
	at, loan int
	want     string
}{
	{"ibr:b=box 1;c=&b;drop b;a=*c", 2, 1, "3 true"},
	{"ibr:b=box 1;c=&b;drop b;a=*c", 1, 1, "3 true"},
	{"ibr:b=box 1;c=&b;drop b;a=*c", 0, 1, "3 true"},
	// What is at the point itself is not behind it, but in a loop.
	{"ibr:b=box 1;c=&b;drop b;a=*c", 3, 1, "0 false"},
	{"ibr:b=box 1;c=&b;drop b;a=*c", 4, 1, "0 false"},
	{"ibr:b=box 1;c=&b;loop{a=*c}", 3, 1, "3 true"},
	{"ibr:b=box 1;c=&b;loop{a=*c;a=1;a=*c}", 3, 1, "5 true"},
	{"ibr:b=box 1;c=&b;loop{a=*c;a=1;a=*c}", 5, 1, "3 true"},
	// The point of the loan uses what comes from others, and from itself in a loop.
	{"bmm:a=box 1;b=&mut a;c=&mut b;b=&mut c", 1, 1, "2 true"},
	{"bmm:a=box 1;b=&mut a;c=&mut b;b=&mut c", 2, 1, "3 true"},
	{"bmm:a=box 1;b=&mut a;c=&mut b;b=&mut c", 2, 2, "3 true"},
	{"bmm:a=box 1;b=&mut a;loop{c=&mut b;b=c}", 3, 3, "4 true"},
	{"bmm:a=box 1;b=&mut a;loop{c=&mut b;b=c}", 4, 3, "3 true"},
	// No loan, no use, and a use that comes before the loan.
	{"ibr:b=box 1;c=&b;drop b;a=*c", 2, 0, "0 false"},
	{"ibr:b=box 1;c=&b;drop b;a=*c", 2, 2, "0 false"},
	{"ibr:b=box 1;c=&b;drop b;a=*c", 2, 4, "0 false"},
	{"ibr:b=box 1;c=&b;drop b", 1, 1, "0 false"},
	{"ibr:b=box 1;c=&b;drop b;c=&b;a=*c", 2, 1, "0 false"},
	{"ibr:b=box 1;c=&b;drop b;c=&b;a=*c", 2, 3, "4 true"},
	{"ibr:b=box 1;c=&b;a=*c;c=&b", 0, 3, "0 false"},
	{"ibr:b=box 1;loop{a=*c;c=&b}", 0, 3, "2 true"},
	// Each kind of use: a move of a reference, another loan, a load and a store.
	{"ibrr:b=box 1;c=&b;d=c;a=*d", 1, 1, "2 true"},
	{"ibrr:b=box 1;c=&b;d=&c;a=*d", 1, 1, "2 true"},
	{"ibrr:b=box 1;c=&b;d=&c;a=*d", 2, 1, "3 true"},
	{"ibmm:b=box 1;c=&mut b;d=c;*d=a", 1, 1, "2 true"},
	{"ibmm:b=box 1;c=&mut b;d=c;*d=a", 2, 1, "3 true"},
	{"ibm:a=1;b=box 1;c=&mut b;*c=a;b=box 2", 2, 2, "3 true"},
	// The nearest use, which is not the first one in the text, and the least of those that are equally near.
	{"ibr:b=box 1;c=&b;drop b;if{a=1;a=*c}{a=*c}", 2, 1, "7 true"},
	{"ibr:b=box 1;c=&b;drop b;if{a=1;a=*c}{a=1;a=*c}", 2, 1, "5 true"},
	{"ibr:b=box 1;c=&b;drop b;if{a=*c}{a=*c}", 2, 1, "4 true"},
	{"ibr:b=box 1;c=&b;loop{a=*c;a=1;a=2;a=*c;a=3}", 4, 1, "6 true"},
	{"ibr:b=box 1;c=&b;loop{a=*c;a=1;a=2;a=3;a=4;a=*c}", 3, 1, "8 true"},
	{"ibr:b=box 1;c=&b;loop{a=*c;loop{a=1;a=*c}}", 4, 1, "6 true"},
	{"ibr:b=box 1;c=&b;loop{a=*c;loop{a=1;a=2;a=*c}}", 4, 1, "3 true"},
	{"ibr:b=box 1;c=&b;loop{a=*c;loop{a=1;a=2;a=3;a=*c}}", 4, 1, "3 true"},
	// A use that is near, but by another way than the one that keeps the value, counts.
	{"ibbr:b=box 1;c=box 2;d=&b;if{d=&c}{a=1;a=1};a=*d", 2, 2, "8 true"},
}

func TestUseAfter(t *testing.T) {
	for _, c := range useCases {
		n, ok := impl.UseAfter(parsed(t, c.text), c.at, c.loan)
		if got := fmt.Sprint(n, " ", ok); got != c.want {
			t.Errorf("UseAfter(%s, %d, %d) = %s, want %s", c.text, c.at, c.loan, got, c.want)
		}
	}
}

// witnessCases are programs with their issues, and for each of them the way, its choices, and whether it is real.
var witnessCases = []struct {
	text string
	want []string
}{
	{":", nil},
	{"ibr:b=box 1;c=&b;a=*c;drop b", nil},
	{"ibr:b=box 1;c=&b;drop b;a=*c", []string{"{2 2 1} [0 1 2 3] [] real"}},
	// At the point 0, the way has only this point.
	{"ib:a=*b", []string{"{0 1 1} [0] [] real"}},
	{"ib:*b=a", []string{"{0 1 0} [0] [] real", "{0 1 1} [0] [] real"}},
	{"ibr:c=&b;drop b;a=*c", []string{"{0 1 1} [0] [] real", "{1 1 1} [0 1] [] real", "{1 2 0} [0 1 2] [] real"}},
	{"ib:loop{a=*b}", []string{"{1 1 1} [0 1] [0] real"}},
	{"ib:loop{a=1};a=*b", []string{"{3 1 1} [0 3] [1] real"}},
	// What has no value on some way need not be without one on the way that is found.
	{"ib:if{b=box 1}{};a=*b", []string{"{3 1 1} [0 3] [1] real"}},
	{"ib:if{}{b=box 1};a=*b", []string{"{3 1 1} [0 1 3] [0] real"}},
	{"ib:if{b=box 1}{b=box 2;drop b};a=*b", []string{"{5 1 1} [0 1 2 5] [0] not real"}},
	{"ib:if{b=box 1}{a=1;a=2;a=3};a=*b", []string{"{6 1 1} [0 1 2 6] [0] not real"}},
	{"ib:b=box 1;loop{drop b}", []string{"{2 1 1} [0 1 2] [0] not real"}},
	// The run ends as it does without choices behind the way: it can go wrong there, or before the issue.
	{"ib:b=box 1;loop{drop b};a=*b", []string{"{2 1 1} [0 1 2] [0] real", "{4 1 1} [0 1 4] [1] not real"}},
	{"ibr:b=box 1;a=*c;loop{drop b}", []string{"{1 1 2} [0 1] [] real", "{3 1 1} [0 1 2 3] [0] real"}},
	{"ib:b=box 1;loop{drop b};if{a=*b}{}", []string{"{2 1 1} [0 1 2] [0] not real", "{5 1 1} [0 1 4 5] [1 0] not real"}},
	// Kinds of loans, and several of them in the way of one point.
	{"ibrm:b=box 1;a=2;d=&mut b;c=&b;*d=a;a=*c", []string{"{3 3 2} [0 1 2 3 4] [] real"}},
	{"ibr:b=box 1;a=2;c=&b;if{}{*b=a};a=*c", []string{"{5 2 2} [0 1 2 3 5 6] [1] real"}},
	{"ibr:b=box 1;c=&b;if{c=&b}{};b=box 2;a=*c", []string{"{5 2 1} [0 1 2 5 6] [1] real", "{5 2 3} [0 1 2 3 4 5 6] [0] real"}},
	{"ibbr:b=box 1;c=box 2;if{d=&b}{d=&c};drop b;a=*d", []string{"{6 2 3} [0 1 2 3 4 6 7] [0] real"}},
	{"ibbr:b=box 1;c=box 2;if{d=&b}{d=&c};drop c;a=*d", []string{"{6 2 5} [0 1 2 5 6 7] [1] real"}},
	// The way from the loan can lose its value, and a move of a reference does not use its cell.
	{"ibbr:b=box 1;c=box 2;d=&b;if{d=&c}{a=1};drop b;a=*d", []string{"{7 2 2} [0 1 2 3 6 7 8] [1] real"}},
	{"ibbr:b=box 1;c=box 2;d=&b;if{d=&c}{a=1;a=1};drop b;a=*d", []string{"{8 2 2} [0 1 2 3 4 5 8 9] [0] not real"}},
	{"ibbr:b=box 1;c=box 2;d=&b;drop b;if{d=&c}{a=1;a=1};a=*d", []string{"{3 2 2} [0 1 2 3 4 5 6 9] [0] not real"}},
	{"ibrr:b=box 1;c=&b;drop b;d=c", []string{"{2 2 1} [0 1 2 3] [] not real"}},
	{"ibrr:b=box 1;c=&b;drop b;d=c;a=*d", []string{"{2 2 1} [0 1 2 3] [] real"}},
	{"ibrr:b=box 1;c=&b;drop b;if{a=*c}{d=c};a=*d", []string{"{2 2 1} [0 1 2 3 4] [0] real", "{7 1 3} [0 1 2 3 6 7] [1] real"}},
	// The nearest use, and the least of those that are equally near.
	{"ibr:b=box 1;c=&b;drop b;if{a=1}{a=*c};a=*c", []string{"{2 2 1} [0 1 2 3 6] [1] real"}},
	{"ibr:b=box 1;c=&b;loop{a=*c;b=box 2;loop{a=1;a=2;a=*c}}", []string{"{4 2 1} [0 1 2 3 4 5 10 2 3] [0 1 0] real"}},
	// The use comes before the point in the text.
	{"ibr:b=box 1;c=&b;loop{b=box 2;a=*c}", []string{"{3 2 1} [0 1 2 3 4] [0] real"}},
	{"ibr:b=box 1;c=&b;loop{a=*c;b=box 2}", []string{"{4 2 1} [0 1 2 3 4 5 2 3] [0 0] real"}},
	{"ibr:b=box 1;c=&b;loop{a=*c;drop b;b=box 2}", []string{"{4 2 1} [0 1 2 3 4 5 6 2 3] [0 0] real"}},
	// The point comes before its loan in the text, and is the same.
	{"ibr:a=1;b=box 1;c=&b;loop{*b=a;a=*c;c=&b}", []string{"{4 2 2} [0 1 2 3 4 5] [0] real", "{4 2 6} [0 1 2 3 4 5 6 7 3 4 5] [0 0] real"}},
	{"ibr:b=box 1;loop{drop b;b=box 2;a=*c;c=&b}", []string{"{2 2 5} [0 1 2 3 4 5 6 1 2 3 4] [0 0] real", "{4 1 2} [0 1 2 3 4] [0] real"}},
	{"ibbr:b=box 1;c=box 2;d=&c;loop{b=box 3;a=*d;d=&b}", []string{"{4 2 6} [0 1 2 3 4 5 6 7 3 4 5] [0 0] real"}},
	{"ibbr:b=box 1;c=box 2;d=&c;loop{b=box 3;a=*d;if{d=&b}{a=1}}", []string{"{4 2 7} [0 1 2 3 4 5 6 7 8 10 3 4 5] [0 0 0] real"}},
	{"ibmm:a=1;b=box 1;d=&mut b;loop{c=&mut b;*d=a;d=c}", []string{"{4 3 2} [0 1 2 3 4 5] [0] real", "{4 3 4} [0 1 2 3 4 5 6 7 3 4 5] [0 0] real"}},
	// In loops in each other, the way goes out of the inner one as soon as it can.
	{"ibr:b=box 1;loop{c=&b;a=*c;drop b;b=box 3;loop{a=*c}}", []string{"{4 2 2} [0 1 2 3 4 5 6 7] [0 0] real"}},
	{"ibr:b=box 1;loop{loop{drop b;b=box 2;c=&b};a=*c}", []string{"{7 1 2} [0 1 2 7] [0 1] real"}},
	{"ibr:b=box 1;c=&b;loop{loop{a=*c};b=box 2}", []string{"{6 2 1} [0 1 2 3 6 7 2 3 4] [0 1 0 0] real"}},
}

// witnessText writes what is known of an issue.
func witnessText(p impl.Program, x impl.Issue) string {
	way, ok := impl.WitnessOf(p, x)
	choices, fine := impl.WayChoices(p, way)
	text := fmt.Sprint(x, " ", wayText(way, ok), " ", wayText(choices, fine), " ")
	if impl.RealIssue(p, x) {
		return text + "real"
	}
	return text + "not real"
}

func TestWitnesses(t *testing.T) {
	for _, c := range witnessCases {
		p := parsed(t, c.text)
		var got []string
		for _, x := range impl.CheckProgram(p) {
			got = append(got, witnessText(p, x))
		}
		if !slices.Equal(got, c.want) {
			t.Errorf("%s:\n%s\nwant\n%s", c.text, strings.Join(got, "\n"), strings.Join(c.want, "\n"))
		}
	}
}

// modelOfUse looks at each point: whether it uses what comes from the loan, and how far it is.
func modelOfUse(p impl.Program, points []impl.Point, m *lentLists, steps *stepsBetween, at, loan int) (int, bool) {
	nearest, far := 0, farApart
	for b, x := range points {
		for v := range p.Types {
			if useAt(p, x, v) != impl.UseNone && slices.Contains(m.in[b][v], loan) && steps[at][b] < far {
				nearest, far = b, steps[at][b]
			}
		}
	}
	return nearest, far < farApart
}

// modelOfWitness returns the way for an issue that was found. There always is one.
func modelOfWitness(p impl.Program, points []impl.Point, m *lentLists, steps *stepsBetween, x impl.Issue) []int {
	over := []int{x.Point}
	if x.Kind != impl.IssueUnset {
		use, _ := modelOfUse(p, points, m, steps, x.Point, x.With)
		over = []int{x.With, x.Point, use}
	}
	way := []int{0}
	if over[0] == 0 {
		over = over[1:]
	}
	for _, to := range over {
		from := way[len(way)-1]
		part, _ := steps.way(points, from, to)
		way = slices.Concat(way[:len(way)-1], part)
	}
	return way
}

// mostlySafe holds for programs that can have issues, but of which no short run goes wrong.
func mostlySafe(p impl.Program) bool { return impl.SafeUpTo(p, 5) }

// witnessedPrograms have issues of all kinds, many of them in loops.
func witnessedPrograms(t *testing.T) []impl.Program {
	programs := slices.Concat(mixedPrograms(100), borrowing(350), exploredPrograms(t), grown(100, mostlySafe))
	for _, c := range issueCases {
		programs = append(programs, parsed(t, c.text))
	}
	for _, c := range witnessCases {
		programs = append(programs, parsed(t, c.text))
	}
	return append(programs, smallPrograms(t)...)
}

func TestUsesOfManyPrograms(t *testing.T) {
	found, none := 0, 0
	for _, p := range slices.Concat(mixedPrograms(50), borrowing(250)) {
		points := impl.PointsOf(p)
		m, steps := modelOfLoans(p, points), modelOfSteps(points)
		for at := range points {
			for loan := range points {
				want, has := modelOfUse(p, points, m, steps, at, loan)
				if got, ok := impl.UseAfter(p, at, loan); got != want || ok != has {
					t.Fatalf("UseAfter(%s, %d, %d) = %d, %v, want %d, %v", impl.FormatProgram(p), at, loan, got, ok, want, has)
				}
				if has {
					found++
				} else {
					none++
				}
			}
		}
	}
	if found < 2000 || none < 2000 {
		t.Errorf("%d loans are used, and %d are not", found, none)
	}
}

func TestWitnessesOfManyPrograms(t *testing.T) {
	before, same, zero := 0, 0, 0
	var real, not [4]int
	for _, p := range witnessedPrograms(t) {
		points := impl.PointsOf(p)
		m, steps := modelOfLoans(p, points), modelOfSteps(points)
		for _, x := range impl.CheckProgram(p) {
			want := modelOfWitness(p, points, m, steps, x)
			if way, ok := impl.WitnessOf(p, x); !ok || !slices.Equal(way, want) {
				t.Fatalf("WitnessOf(%s, %v) = %v, %v, want %v", impl.FormatProgram(p), x, way, ok, want)
			}
			choices, _ := modelOfChoices(points, want)
			r := modelOfRun(p, choices, 150)
			wrong := r.code == impl.RunUnset || r.code == impl.RunFreed || r.code == impl.RunLost
			if got := impl.RealIssue(p, x); got != wrong {
				t.Fatalf("RealIssue(%s, %v) = %v, the run with %v ends with %s at %d", impl.FormatProgram(p), x, got, choices, endNames[r.code], r.at)
			}
			if wrong {
				real[x.Kind]++
			} else {
				not[x.Kind]++
			}
			switch loan := x.Kind != impl.IssueUnset; {
			case loan && x.Point < x.With:
				before++
			case loan && x.Point == x.With:
				same++
			case len(want) == 1:
				zero++
			}
		}
	}
	if slices.Min(real[1:]) < 100 || slices.Min(not[1:]) < 10 || before < 20 || same < 5 || zero < 20 {
		t.Errorf("%v issues of each kind are real, %v are not, %d are in front of their loans, %d at them, %d at the point 0", real, not, before, same, zero)
	}
}

// The run of a real issue goes its way and goes wrong, so that a program that is safe has no real issues.
func TestRealIssuesAreRunsThatGoWrong(t *testing.T) {
	real, not, safe := 0, 0, 0
	for _, p := range witnessedPrograms(t) {
		for _, x := range impl.CheckProgram(p) {
			way, _ := impl.WitnessOf(p, x)
			choices, _ := impl.WayChoices(p, way)
			if l, _ := impl.RunPath(p, choices, 1000); len(l) < len(way) || !slices.Equal(l[:len(way)], way) {
				t.Fatalf("the run of %s with the choices %v of %v is %v", impl.FormatProgram(p), choices, way, l)
			}
			issue := impl.RealIssue(p, x)
			code, at := impl.RunProgram(p, choices, 150)
			if wrong := code != impl.RunDone && code != impl.RunCut; wrong != issue {
				t.Fatalf("RealIssue(%s, %v) = %v, and the run with %v ends with %s at %d", impl.FormatProgram(p), x, issue, choices, endNames[code], at)
			}
			if len(choices) > impl.MaxChoices || len(way) > 20 {
				continue
			}
			points := impl.WrongPoints(p, len(choices))
			switch {
			case issue && !slices.Contains(points, at):
				t.Fatalf("the issue %v of %s is real at %d, but runs go wrong at %v", x, impl.FormatProgram(p), at, points)
			case issue:
				real++
			default:
				not++
			}
			if impl.SafeUpTo(p, impl.MaxChoices) {
				safe++
			}
		}
	}
	if real < 1000 || not < 50 || safe < 20 {
		t.Errorf("%d issues are real, %d are not, %d of them of safe programs", real, not, safe)
	}
}

// Without choices, there is one run, so that all issues of a program are real, or none is.
func TestIssuesWithoutChoices(t *testing.T) {
	safe, wrong := 0, 0
	straight := grown(50, func(p impl.Program) bool { return impl.CountChoices(p) == 0 && impl.SafeUpTo(p, 0) })
	for _, p := range append(witnessedPrograms(t), straight...) {
		if impl.CountChoices(p) > 0 {
			continue
		}
		goesWrong := !impl.SafeUpTo(p, 0)
		for _, x := range impl.CheckProgram(p) {
			way, ok := impl.WitnessOf(p, x)
			choices, fine := impl.WayChoices(p, way)
			if !ok || !fine || len(choices) != 0 || impl.RealIssue(p, x) != goesWrong {
				t.Fatalf("the issue %v of %s has the way %v, and is real: %v", x, impl.FormatProgram(p), way, impl.RealIssue(p, x))
			}
			if goesWrong {
				wrong++
			} else {
				safe++
			}
		}
	}
	if safe < 10 || wrong < 1000 {
		t.Errorf("%d issues are of programs that go wrong, and %d are not", wrong, safe)
	}
}

func noWitness(t *testing.T, what string, p impl.Program, x impl.Issue) {
	t.Helper()
	if way, ok := impl.WitnessOf(p, x); ok || len(way) != 0 || impl.RealIssue(p, x) {
		t.Errorf("%s: the issue %v has the way %v, %v, and is real: %v", what, x, way, ok, impl.RealIssue(p, x))
	}
}

// An accepted program has no issues, though another checker finds some; the same holds for each issue of a program that only another checker finds.
func TestIssuesOfOtherCheckers(t *testing.T) {
	others := 0
	for _, p := range append(witnessedPrograms(t)[:700], twoBoxes(t, 200)...) {
		issues := impl.CheckProgram(p)
		for _, x := range append(impl.CheckPlain(p), impl.CheckRegions(p)...) {
			if !slices.Contains(issues, x) {
				others++
				noWitness(t, impl.FormatProgram(p), p, x)
			}
		}
	}
	if others < 300 {
		t.Errorf("only %d issues are found by other checkers", others)
	}
}

func TestIssuesThatAreNotThere(t *testing.T) {
	for _, text := range []string{":", "ibr:b=box 1;c=&b;a=*c;drop b", "ibr:b=box 1;c=&b;drop b;a=*c;a=*b", "ibr:c=&b;drop b;a=*c", "ibr:b=box 1;loop{drop b;b=box 2;a=*c;c=&b}"} {
		p := parsed(t, text)
		issues := impl.CheckProgram(p)
		for point := -2; point <= 9; point++ {
			for kind := -2; kind <= 5; kind++ {
				for with := -2; with <= 9; with++ {
					x := impl.Issue{Point: point, Kind: kind, With: with}
					if way, ok := impl.WitnessOf(p, x); ok != slices.Contains(issues, x) || ok != (len(way) > 0) {
						t.Errorf("%s: WitnessOf(%v) = %v, %v", text, x, way, ok)
					} else if !ok {
						noWitness(t, text, p, x)
					}
				}
			}
		}
		for _, far := range farIndices {
			for _, x := range []impl.Issue{{Point: far, Kind: 2, With: 1}, {Point: 2, Kind: far, With: 1}, {Point: 2, Kind: 2, With: far}, {Point: far, Kind: 1, With: far}, {Point: far, Kind: far, With: far}} {
				noWitness(t, text, p, x)
			}
		}
	}
}

func noWays(t *testing.T, what string, p impl.Program, a, b int) {
	t.Helper()
	way, ok := impl.ShortWay(p, a, b)
	use, used := impl.UseAfter(p, a, b)
	if ok || len(way) != 0 || used || use != 0 {
		t.Errorf("%s: ShortWay(%d, %d) = %v, %v, UseAfter = %d, %v", what, a, b, way, ok, use, used)
	}
}

func TestWaysOfInvalidPrograms(t *testing.T) {
	broken := impl.Program{Types: []int{1, 2}, Body: []impl.Stmt{loop(simple(impl.OpLoad, 0, 1, 0)), simple(impl.OpDrop, 0, 0, 0)}}
	for i, p := range append(invalidPrograms(), broken) {
		what := fmt.Sprint("the invalid program ", i)
		for _, a := range append([]int{0, 1, 2, 60}, farIndices...) {
			for _, b := range append([]int{0, 1, 2, 60}, farIndices...) {
				noWays(t, what, p, a, b)
				for kind := range 4 {
					noWitness(t, what, p, impl.Issue{Point: a, Kind: kind, With: b})
				}
			}
		}
		for _, way := range [][]int{nil, {0}, {0, 1}, {0, 1, 2}, {0, 1, 0}, {1}, {-1}} {
			if l, ok := impl.WayChoices(p, way); ok || len(l) != 0 {
				t.Errorf("%s: WayChoices(%v) = %v, %v", what, way, l, ok)
			}
		}
	}
}

func TestWaysThatAreNotThere(t *testing.T) {
	for _, text := range []string{":", ":loop{}", "ibr:b=box 1;c=&b;loop{a=*c}", "ibm:a=1;b=box 1;loop{c=&mut b;*c=a;if{}{}}"} {
		p := parsed(t, text)
		count := len(impl.PointsOf(p))
		for _, far := range append([]int{count, count + 1, count + 64}, farIndices...) {
			noWays(t, text, p, far, far)
			for at := range count {
				noWays(t, text, p, at, far)
				noWays(t, text, p, far, at)
			}
			for _, way := range [][]int{{far}, {far, 0}, {0, far}, {0, 1, far}, {0, far, 1}} {
				if l, ok := impl.WayChoices(p, way); ok || len(l) != 0 {
					t.Errorf("WayChoices(%s, %v) = %v, %v", text, way, l, ok)
				}
			}
		}
	}
}

// As many points as there can be, on the way and beside it.
func TestMostPointsOfWays(t *testing.T) {
	p := impl.Program{Body: slices.Repeat([]impl.Stmt{loop()}, impl.MaxStmts)}
	if way, ok := impl.ShortWay(p, 0, 60); !ok || !slices.Equal(way, upTo60(0)) {
		t.Errorf("ShortWay = %v, %v", way, ok)
	}
	if way, ok := impl.ShortWay(p, 0, 59); !ok || !slices.Equal(way, append(upTo60(0)[:30], 59)) {
		t.Errorf("ShortWay = %v, %v", way, ok)
	}
	if choices, ok := impl.WayChoices(p, upTo60(0)); !ok || !slices.Equal(choices, slices.Repeat([]int{1}, 30)) {
		t.Errorf("WayChoices = %v, %v", choices, ok)
	}
	list := slices.Repeat([]impl.Stmt{either(nil, nil)}, impl.MaxStmts-4)
	list = append(list, simple(impl.OpBox, 4, 0, 1), simple(impl.OpBorrow, 5, 4, 0), simple(impl.OpLoad, 0, 4, 0), simple(impl.OpLoad, 0, 5, 0))
	q := impl.Program{Types: []int{1, 1, 1, 1, 2, 4}, Body: list}
	x := impl.Issue{Point: 54, Kind: impl.IssueUnique, With: 53}
	if way, ok := impl.WitnessOf(q, x); !ok || len(way) != 30 || !slices.Equal(way[25:], []int{50, 52, 53, 54, 55}) || !impl.RealIssue(q, x) {
		t.Errorf("WitnessOf = %v, %v", way, ok)
	}
	if use, ok := impl.UseAfter(q, 53, 53); !ok || use != 55 {
		t.Errorf("UseAfter = %d, %v", use, ok)
	}
}

// A way that goes through a long loop three times: to the loan, to the point in front of it, and to the use in front of this. It has more points than runs that are tried.
func TestLongWitnesses(t *testing.T) {
	p := parsed(t, "ibbr:b=box 1;c=box 1;d=&c;loop{"+strings.Repeat("a=1;", 22)+"a=*d;b=box 2;if{d=&b}{}}")
	x := impl.Issue{Point: 27, Kind: impl.IssueShared, With: 29}
	if got := impl.CheckProgram(p); !slices.Equal(got, []impl.Issue{x}) {
		t.Fatalf("CheckProgram = %v", got)
	}
	way, ok := impl.WitnessOf(p, x)
	want := slices.Concat(upThrough(0, 31), upThrough(3, 28), []int{31}, upThrough(3, 26))
	if !ok || !slices.Equal(way, want) || len(way) != 83 {
		t.Errorf("WitnessOf = %v, %v, want %v", way, ok, want)
	}
	if choices, ok := impl.WayChoices(p, way); !ok || !slices.Equal(choices, []int{0, 0, 0, 1, 0}) {
		t.Errorf("WayChoices = %v, %v", choices, ok)
	}
	if !impl.RealIssue(p, x) || !impl.SafeUpTo(p, 6) {
		t.Errorf("RealIssue = %v, SafeUpTo = %v", impl.RealIssue(p, x), impl.SafeUpTo(p, 6))
	}
}

// upThrough returns all numbers from first to last.
func upThrough(first, last int) []int {
	var numbers []int
	for n := first; n <= last; n++ {
		numbers = append(numbers, n)
	}
	return numbers
}

func TestWaysShareNoMemory(t *testing.T) {
	text := "ibr:b=box 1;c=&b;loop{a=*c;b=box 2;if{}{}}"
	p := parsed(t, text)
	x := impl.Issue{Point: 4, Kind: impl.IssueShared, With: 1}
	way := append(make([]int, 0, 20), 0, 1, 2, 3, 4, 5, 7, 2)
	unused := way[len(way):cap(way)]
	for i := range unused {
		unused[i] = 7
	}
	before := fmt.Sprint(way[:cap(way)])
	for _, of := range []func() ([]int, bool){
		func() ([]int, bool) { return impl.ShortWay(p, 0, 7) },
		func() ([]int, bool) { return impl.WitnessOf(p, x) },
		func() ([]int, bool) { return impl.WayChoices(p, way) },
	} {
		first, ok := of()
		want := slices.Clone(first)
		for i := range first[:cap(first)] {
			first[:cap(first)][i] = 99
		}
		if second, again := of(); !ok || !again || len(second) == 0 || !slices.Equal(second, want) {
			t.Errorf("a second result is %v, want %v", second, want)
		}
	}
	if after := fmt.Sprint(way[:cap(way)]); after != before || impl.FormatProgram(p) != text {
		t.Errorf("an argument changed: %s, %s", after, impl.FormatProgram(p))
	}
}
