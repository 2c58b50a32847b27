package tests

import (
	"fmt"
	"slices"
	"strings"
	"testing"

	"loop.example/borrowcheck/impl"
)

func parsed(t *testing.T, text string) impl.Program {
	t.Helper()
	p, ok := impl.ParseProgram(text)
	if !ok {
		t.Fatalf("%q is the text of no program", text)
	}
	return p
}

// invalidPrograms are programs that are not valid, each for another reason.
func invalidPrograms() []impl.Program {
	return []impl.Program{
		{Types: []int{5}},
		{Types: []int{1, 1, 1, 1, 1, 1, 1}},
		{Types: []int{1}, Body: []impl.Stmt{simple(impl.OpInt, 0, 0, 10)}},
		{Types: []int{1}, Body: []impl.Stmt{simple(impl.OpInt, 1, 0, 1)}},
		{Types: []int{1}, Body: []impl.Stmt{simple(11, 0, 0, 0)}},
		{Types: []int{1}, Body: ints(31)},
		{Types: []int{1}, Body: []impl.Stmt{nested(5)}},
		{Types: []int{1}, Body: []impl.Stmt{either(nil, []impl.Stmt{{}})}},
		{Body: endless(loop())},
		{Body: []impl.Stmt{doubled(loop())}},
	}
}

// mixedPrograms returns valid programs that look random, and are the same in each run.
func mixedPrograms(count int) []impl.Program {
	d := &dice{state: 7}
	var programs []impl.Program
	for len(programs) < count {
		types := make([]int, d.upTo(7))
		for v := range types {
			types[v] = 1 + d.upTo(4)
		}
		if p := (impl.Program{Types: types, Body: d.stmts(types, 25, 4)}); impl.ProgramValid(p) {
			programs = append(programs, p)
		}
	}
	return programs
}

func TestPointsOf(t *testing.T) {
	for text, want := range map[string]string{
		":":                      "[{11 0 0 0 []}]",
		"i:a=3":                  "[{1 0 0 3 [1]} {11 0 0 0 []}]",
		"ib:b=box 7;a=*b;drop b": "[{2 1 0 7 [1]} {6 0 1 0 [2]} {8 1 0 0 [3]} {11 0 0 0 []}]",
		":if{}{}":                "[{9 0 0 0 [1 2]} {10 0 0 1 [2]} {11 0 0 0 []}]",
		":loop{}":                "[{10 0 0 0 [1 2]} {10 0 0 1 [0]} {11 0 0 0 []}]",
		"i:if{a=1}{}":            "[{9 0 0 0 [1 3]} {1 0 0 1 [2]} {10 0 0 1 [3]} {11 0 0 0 []}]",
		"i:if{}{a=1}":            "[{9 0 0 0 [1 2]} {10 0 0 1 [3]} {1 0 0 1 [3]} {11 0 0 0 []}]",
		"i:loop{a=1}":            "[{10 0 0 0 [1 3]} {1 0 0 1 [2]} {10 0 0 1 [0]} {11 0 0 0 []}]",
		":loop{loop{}}":          "[{10 0 0 0 [1 4]} {10 0 0 0 [2 3]} {10 0 0 1 [1]} {10 0 0 1 [0]} {11 0 0 0 []}]",
		":if{if{}{}}{loop{}}":    "[{9 0 0 0 [1 4]} {9 0 0 0 [2 3]} {10 0 0 1 [3]} {10 0 0 1 [6]} {10 0 0 0 [5 6]} {10 0 0 1 [4]} {11 0 0 0 []}]",
		":loop{if{}{}};loop{}":   "[{10 0 0 0 [1 4]} {9 0 0 0 [2 3]} {10 0 0 1 [3]} {10 0 0 1 [0]} {10 0 0 0 [5 6]} {10 0 0 1 [4]} {11 0 0 0 []}]",
		"im:a=0;*b=a":            "[{1 0 0 0 [1]} {7 1 0 0 [2]} {11 0 0 0 []}]",
	} {
		if got := fmt.Sprint(impl.PointsOf(parsed(t, text))); got != want {
			t.Errorf("PointsOf(%s) = %s, want %s", text, got, want)
		}
	}
}

func TestPointText(t *testing.T) {
	for text, x := range map[string]impl.Point{
		"a=9":      {Op: impl.OpInt, N: 9},
		"f=box 0":  {Op: impl.OpBox, X: 5},
		"a=b":      {Op: impl.OpMove, Y: 1},
		"c=&d":     {Op: impl.OpShare, X: 2, Y: 3},
		"c=&mut f": {Op: impl.OpBorrow, X: 2, Y: 5},
		"e=*a":     {Op: impl.OpLoad, X: 4},
		"*e=b":     {Op: impl.OpStore, X: 4, Y: 1},
		"drop a":   {Op: impl.OpDrop},
		"if":       {Op: impl.OpIf},
		"loop":     {Op: impl.OpLoop},
		"go":       {Op: impl.OpLoop, N: 1},
		"end":      {Op: impl.OpEnd},
		"b=b":      {Op: impl.OpMove, X: 1, Y: 1, N: 9},
		"b=4":      {Op: impl.OpInt, X: 1, Y: 5, N: 4},
		"drop b":   {Op: impl.OpDrop, X: 1, Y: 5, N: 4},
		"a=0":      {Op: impl.OpInt, Next: []int{7, 7, 7}},
		"e=&mut a": {Op: impl.OpBorrow, X: 4, N: 9},
		"f=*f":     {Op: impl.OpLoad, X: 5, Y: 5},
		"*f=f":     {Op: impl.OpStore, X: 5, Y: 5},
		"f=&f":     {Op: impl.OpShare, X: 5, Y: 5},
		"a=box 9":  {Op: impl.OpBox, Y: 5, N: 9},
		"b=&mut b": {Op: impl.OpBorrow, X: 1, Y: 1},
		"d=*a":     {Op: impl.OpLoad, X: 3, N: 1},
		"*a=d":     {Op: impl.OpStore, Y: 3, N: 1},
		"c=5":      {Op: impl.OpInt, X: 2, N: 5},
		"drop f":   {Op: impl.OpDrop, X: 5},
		"f=e":      {Op: impl.OpMove, X: 5, Y: 4},
		"f=box 3":  {Op: impl.OpBox, X: 5, Y: 5, N: 3},
		"a=&b":     {Op: impl.OpShare, Y: 1, N: 2},
		"c=&mut c": {Op: impl.OpBorrow, X: 2, Y: 2},
		"a=1":      {Op: impl.OpInt, N: 1},
		"a=8":      {Op: impl.OpInt, N: 8},
		"b=&a":     {Op: impl.OpShare, X: 1},
		"b=box 1":  {Op: impl.OpBox, X: 1, N: 1},
		"f=&mut a": {Op: impl.OpBorrow, X: 5},
		"e=&f":     {Op: impl.OpShare, X: 4, Y: 5},
		"d=d":      {Op: impl.OpMove, X: 3, Y: 3},
		"*c=c":     {Op: impl.OpStore, X: 2, Y: 2},
		"drop c":   {Op: impl.OpDrop, X: 2, Y: 2, N: 2},
		"b=*e":     {Op: impl.OpLoad, X: 1, Y: 4},
		"a=&mut f": {Op: impl.OpBorrow, Y: 5, N: 9},
		"f=9":      {Op: impl.OpInt, X: 5, Y: 5, N: 9},
	} {
		if got := impl.PointText(x); got != text {
			t.Errorf("PointText(%v) = %q, want %q", x, got, text)
		}
	}
}

func TestPointTextOfOthers(t *testing.T) {
	far := []int{-1 << 63, -1, 6, 7, 10, 256, 1 << 32, 1<<63 - 1}
	for _, v := range far {
		for op := impl.OpInt; op <= impl.OpDrop; op++ {
			for _, x := range []impl.Point{{Op: op, X: v}, {Op: op, Y: v}, {Op: op, X: v, Y: v, N: v}} {
				if s := impl.PointText(x); s != "" {
					t.Errorf("PointText(%v) = %q", x, s)
				}
			}
			if s := impl.PointText(impl.Point{Op: op, N: v}); (s == "") != (v < 0 || v > 9) {
				t.Errorf("PointText with the number %d = %q", v, s)
			}
		}
		for op, want := range map[int]string{impl.OpIf: "if", impl.OpLoop: "loop", impl.OpEnd: "end"} {
			for _, n := range far {
				if s := impl.PointText(impl.Point{Op: op, X: v, Y: v, N: n, Next: []int{v}}); s != want {
					t.Errorf("PointText = %q, want %q", s, want)
				}
			}
			if s := impl.PointText(impl.Point{Op: op, X: v, Y: v, N: 1}); s != strings.Replace(want, "loop", "go", 1) {
				t.Errorf("PointText with 1 as N = %q", s)
			}
		}
	}
	for _, op := range []int{-1 << 63, -1, 0, 12, 13, 1<<63 - 1} {
		if s := impl.PointText(impl.Point{Op: op, N: 1}); s != "" {
			t.Errorf("PointText for the operation %d = %q", op, s)
		}
	}
}

// flatPoints returns the points of a list that begins at the point base, by the number of points of its parts.
func flatPoints(list []impl.Stmt, base int) []impl.Point {
	var points []impl.Point
	for _, s := range list {
		at := base + len(points)
		yes := flatPoints(s.Then, at+1)
		jump := at + 1 + len(yes)
		no := flatPoints(s.Else, jump+1)
		switch s.Op {
		case impl.OpIf:
			points = append(points, impl.Point{Op: impl.OpIf, Next: []int{at + 1, jump + 1}})
			points = append(points, yes...)
			points = append(points, impl.Point{Op: impl.OpLoop, N: 1, Next: []int{jump + 1 + len(no)}})
			points = append(points, no...)
		case impl.OpLoop:
			points = append(points, impl.Point{Op: impl.OpLoop, Next: []int{at + 1, jump + 1}})
			points = append(points, yes...)
			points = append(points, impl.Point{Op: impl.OpLoop, N: 1, Next: []int{at}})
		default:
			points = append(points, impl.Point{Op: s.Op, X: s.X, Y: s.Y, N: s.N, Next: []int{at + 1}})
		}
	}
	return points
}

func TestPointsOfMixedPrograms(t *testing.T) {
	for _, p := range mixedPrograms(500) {
		want := append(flatPoints(p.Body, 0), impl.Point{Op: impl.OpEnd})
		got := impl.PointsOf(p)
		if fmt.Sprint(got) != fmt.Sprint(want) {
			t.Fatalf("PointsOf(%s) = %v, want %v", impl.FormatProgram(p), got, want)
		}
		choices := 0
		for _, x := range want {
			if len(x.Next) == 2 {
				choices++
			}
		}
		if n := impl.CountChoices(p); n != choices {
			t.Errorf("CountChoices(%s) = %d, want %d", impl.FormatProgram(p), n, choices)
		}
	}
}

func TestMostPoints(t *testing.T) {
	for _, s := range []impl.Stmt{loop(), either(nil, nil)} {
		p := impl.Program{Body: slices.Repeat([]impl.Stmt{s}, impl.MaxStmts)}
		points := impl.PointsOf(p)
		if len(points) != 61 || points[60].Op != impl.OpEnd || impl.CountChoices(p) != 30 {
			t.Errorf("%d points, %d choices", len(points), impl.CountChoices(p))
		}
		if l := impl.PathsFrom(p, 0); len(l) < 60 || l[len(l)-1] != 60 {
			t.Errorf("PathsFrom = %v", l)
		}
		if l := impl.PathsTo(p, 60); len(l) != 60 || l[59] != 59 {
			t.Errorf("PathsTo = %v", l)
		}
		if from, to := impl.PathsFrom(p, 61), impl.PathsTo(p, 61); len(from) != 0 || len(to) != 0 {
			t.Errorf("paths of the point 61: %v, %v", from, to)
		}
	}
}

func TestPaths(t *testing.T) {
	for _, c := range []struct {
		text     string
		at       int
		from, to []int
	}{
		{":", 0, nil, nil},
		{"i:a=1;a=2", 0, []int{1, 2}, nil},
		{"i:a=1;a=2", 1, []int{2}, []int{0}},
		{"i:a=1;a=2", 2, nil, []int{0, 1}},
		{":loop{}", 0, []int{0, 1, 2}, []int{0, 1}},
		{":loop{}", 1, []int{0, 1, 2}, []int{0, 1}},
		{":loop{}", 2, nil, []int{0, 1}},
		{"i:if{a=1}{a=2}", 0, []int{1, 2, 3, 4}, nil},
		{"i:if{a=1}{a=2}", 1, []int{2, 4}, []int{0}},
		{"i:if{a=1}{a=2}", 2, []int{4}, []int{0, 1}},
		{"i:if{a=1}{a=2}", 3, []int{4}, []int{0}},
		{"i:if{a=1}{a=2}", 4, nil, []int{0, 1, 2, 3}},
		{"i:a=1;loop{if{a=2}{}};a=3", 3, []int{1, 2, 3, 4, 5, 6, 7}, []int{0, 1, 2, 3, 4, 5}},
		{"i:a=1;loop{if{a=2}{}};a=3", 6, []int{7}, []int{0, 1, 2, 3, 4, 5}},
	} {
		p := parsed(t, c.text)
		if l := impl.PathsFrom(p, c.at); !slices.Equal(l, c.from) {
			t.Errorf("PathsFrom(%s, %d) = %v, want %v", c.text, c.at, l, c.from)
		}
		if l := impl.PathsTo(p, c.at); !slices.Equal(l, c.to) {
			t.Errorf("PathsTo(%s, %d) = %v, want %v", c.text, c.at, l, c.to)
		}
	}
}

// leads reports where the points lead, by trying all points between two others.
func leads(points []impl.Point) [61][61]bool {
	var to [61][61]bool
	for a, x := range points {
		for _, b := range x.Next {
			to[a][b] = true
		}
	}
	for b := range points {
		for a := range points {
			for c := range points {
				to[a][c] = to[a][c] || to[a][b] && to[b][c]
			}
		}
	}
	return to
}

func TestPathsOfMixedPrograms(t *testing.T) {
	for _, p := range mixedPrograms(200) {
		points := impl.PointsOf(p)
		to := leads(points)
		for a := range points {
			var from, back []int
			for b := range points {
				if to[a][b] {
					from = append(from, b)
				}
				if to[b][a] {
					back = append(back, b)
				}
			}
			if l := impl.PathsFrom(p, a); !slices.Equal(l, from) {
				t.Fatalf("PathsFrom(%s, %d) = %v, want %v", impl.FormatProgram(p), a, l, from)
			}
			if l := impl.PathsTo(p, a); !slices.Equal(l, back) {
				t.Fatalf("PathsTo(%s, %d) = %v, want %v", impl.FormatProgram(p), a, l, back)
			}
		}
	}
}

func TestRunPath(t *testing.T) {
	odd := []int{1, -1, 3, -7, -1<<63 + 1, 1<<63 - 1}
	even := []int{0, 2, -2, 8, -1 << 63, 1<<63 - 2}
	for i := range odd {
		p := parsed(t, "i:if{a=1}{a=2}")
		if l, ok := impl.RunPath(p, odd[i:i+1], 9); !ok || !slices.Equal(l, []int{0, 3, 4}) {
			t.Errorf("RunPath with the choice %d = %v, %v", odd[i], l, ok)
		}
		if l, ok := impl.RunPath(p, even[i:i+1], 9); !ok || !slices.Equal(l, []int{0, 1, 2, 4}) {
			t.Errorf("RunPath with the choice %d = %v, %v", even[i], l, ok)
		}
	}
	for _, c := range []struct {
		text    string
		choices []int
		want    []int
	}{
		{":", nil, []int{0}},
		{":", []int{0, 0}, []int{0}},
		{"i:a=1", nil, []int{0, 1}},
		{":if{}{}", nil, []int{0, 2}},
		{":if{}{}", []int{0}, []int{0, 1, 2}},
		{":loop{}", nil, []int{0, 2}},
		{":loop{}", []int{0, 0, 0}, []int{0, 1, 0, 1, 0, 1, 0, 2}},
		{":loop{}", []int{1, 0, 0}, []int{0, 2}},
		{":loop{}", []int{0, 1, 0}, []int{0, 1, 0, 2}},
		{"i:loop{loop{a=1}}", []int{0, 0, 1, 0}, []int{0, 1, 2, 3, 1, 4, 0, 1, 4, 0, 5}},
		{"i:if{a=1;if{}{a=2}}{a=3}", []int{0, 1}, []int{0, 1, 2, 4, 5, 7}},
		{"i:a=0;if{a=1}{};if{}{a=2}", []int{1, 0}, []int{0, 1, 4, 5, 7}},
		{"i:a=0;if{a=1}{};if{}{a=2}", []int{0}, []int{0, 1, 2, 3, 4, 6, 7}},
	} {
		l, ok := impl.RunPath(parsed(t, c.text), c.choices, 20)
		if !ok || !slices.Equal(l, c.want) {
			t.Errorf("RunPath(%s, %v) = %v, %v, want %v", c.text, c.choices, l, ok, c.want)
		}
	}
}

// walker executes statements, and keeps the points that it passes.
type walker struct {
	choices []int
	passed  []int
}

func (w *walker) chooses(at int) bool {
	w.passed = append(w.passed, at)
	if len(w.choices) == 0 {
		return false
	}
	first := w.choices[0]
	w.choices = w.choices[1:]
	return first%2 == 0
}

// list executes a list that begins at the point at, and returns the point behind it.
func (w *walker) list(list []impl.Stmt, at int) int {
	for _, s := range list {
		size := len(flatPoints([]impl.Stmt{s}, 0))
		switch s.Op {
		case impl.OpIf:
			if w.chooses(at) {
				w.passed = append(w.passed, w.list(s.Then, at+1))
			} else {
				w.list(s.Else, at+2+len(flatPoints(s.Then, 0)))
			}
		case impl.OpLoop:
			for w.chooses(at) {
				w.passed = append(w.passed, w.list(s.Then, at+1))
			}
		default:
			w.passed = append(w.passed, at)
		}
		at += size
	}
	return at
}

// wholeRun returns all points of a run.
func wholeRun(p impl.Program, choices []int) []int {
	w := walker{choices: choices}
	end := w.list(p.Body, 0)
	return append(w.passed, end)
}

func (d *dice) choices(most int) []int {
	choices := make([]int, d.upTo(most+1))
	for i := range choices {
		choices[i] = d.upTo(9) - 4
	}
	return choices
}

func TestRunsOfMixedPrograms(t *testing.T) {
	d := &dice{state: 3}
	for _, p := range mixedPrograms(500) {
		choices := d.choices(20)
		want := wholeRun(p, choices)
		for most := range len(want) + 2 {
			l, ok := impl.RunPath(p, choices, most)
			whole := most >= len(want)-1
			if ok != whole || whole && !slices.Equal(l, want) || !whole && !slices.Equal(l, want[:most]) {
				t.Fatalf("RunPath(%s, %v, %d) = %v, %v, want %v", impl.FormatProgram(p), choices, most, l, ok, want)
			}
		}
	}
}

// A run with n loops has 2n + 2 points, and takes 2n + 1 steps.
func TestLimitOfSteps(t *testing.T) {
	p := parsed(t, ":loop{}")
	for _, c := range []struct {
		loops, most, count int
		ok                 bool
	}{
		{0, 0, 0, false},
		{0, 1, 2, true},
		{1, 2, 2, false},
		{1, 3, 4, true},
		{499, 999, 1000, true},
		{499, 998, 998, false},
		{499, 1000, 1000, true},
		{500, 1000, 1000, false},
		{100000, 1000, 1000, false},
		{100000, 0, 0, false},
		{0, 1001, 0, false},
		{0, -1, 0, false},
		{0, -1 << 63, 0, false},
		{0, 1<<63 - 1, 0, false},
	} {
		l, ok := impl.RunPath(p, make([]int, c.loops), c.most)
		if ok != c.ok || len(l) != c.count {
			t.Errorf("RunPath with %d loops and the limit %d has %d points, %v", c.loops, c.most, len(l), ok)
		}
	}
	if l, ok := impl.RunPath(parsed(t, ":"), nil, 0); !ok || !slices.Equal(l, []int{0}) {
		t.Errorf("RunPath of no statements = %v, %v", l, ok)
	}
	if l, ok := impl.RunPath(parsed(t, ":"), nil, -1); ok || len(l) != 0 {
		t.Errorf("RunPath with the limit -1 = %v, %v", l, ok)
	}
	three := parsed(t, "i:loop{a=1}")
	if l, ok := impl.RunPath(three, make([]int, 333), 1000); !ok || len(l) != 1001 || l[1000] != 3 {
		t.Errorf("RunPath of 1001 points has %d, %v", len(l), ok)
	}
	if l, ok := impl.RunPath(three, make([]int, 334), 1000); ok || len(l) != 1000 || l[999] != 0 {
		t.Errorf("RunPath of 1004 points has %d, %v", len(l), ok)
	}
}

func TestPointsOfInvalidPrograms(t *testing.T) {
	for _, p := range invalidPrograms() {
		l, ok := impl.RunPath(p, []int{0, 1}, 10)
		if len(impl.PointsOf(p)) != 0 || impl.CountChoices(p) != 0 || ok || len(l) != 0 {
			t.Errorf("points of a program that is not valid: %d types, %d statements", len(p.Types), len(p.Body))
		}
		if len(impl.PathsFrom(p, 0)) != 0 || len(impl.PathsTo(p, 1)) != 0 {
			t.Errorf("paths of a program that is not valid: %d types, %d statements", len(p.Types), len(p.Body))
		}
	}
	p := parsed(t, "i:loop{a=1;a=2}")
	for _, at := range []int{-1 << 63, -1, 5, 60, 61, 62, 64, 1 << 32, 1<<63 - 1} {
		if from, to := impl.PathsFrom(p, at), impl.PathsTo(p, at); len(from) != 0 || len(to) != 0 {
			t.Errorf("paths of the point %d: %v, %v", at, from, to)
		}
	}
}

func TestPointsShareNoMemory(t *testing.T) {
	p := parsed(t, "i:if{a=1}{a=2};loop{a=3}")
	want := fmt.Sprint(impl.PointsOf(p))
	points := impl.PointsOf(p)
	for _, x := range points {
		unused := x.Next[len(x.Next):cap(x.Next)]
		for i := range unused {
			unused[i] = 99
		}
	}
	if got := fmt.Sprint(points); got != want {
		t.Errorf("the points of a result share memory: %s", got)
	}
	for i := range points {
		for j := range points[i].Next {
			points[i].Next[j] = 99
		}
	}
	if got := fmt.Sprint(impl.PointsOf(p)); got != want {
		t.Errorf("two results share memory: %s", got)
	}
	choices := []int{0, 0, 0, 1, 7, 7}
	if l, ok := impl.RunPath(p, choices[:3], 50); !ok || !slices.Equal(l, wholeRun(p, []int{0, 0, 0})) {
		t.Errorf("RunPath = %v, %v", l, ok)
	}
	if !slices.Equal(choices, []int{0, 0, 0, 1, 7, 7}) || impl.FormatProgram(p) != "i:if{a=1}{a=2};loop{a=3}" {
		t.Errorf("an argument changed: %v, %s", choices, impl.FormatProgram(p))
	}
}
