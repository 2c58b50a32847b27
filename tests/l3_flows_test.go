package tests

import (
	"fmt"
	"slices"
	"strings"
	"testing"

	"loop.example/borrowcheck/impl"
)

// farIndices are neither points nor variables of any program.
var farIndices = []int{-1 << 63, -64, -1, 61, 62, 63, 64, 65, 1 << 32, 1<<63 - 1}

func TestUseOfAndSetBy(t *testing.T) {
	for _, c := range []struct {
		text string
		uses [6]int
		set  int
	}{
		{"a=3", [6]int{}, 0},
		{"b=0", [6]int{}, 1},
		{"c=box 3", [6]int{}, 2},
		{"a=b", [6]int{1: impl.UseRead}, 0},
		{"b=a", [6]int{0: impl.UseRead}, 1},
		{"c=d", [6]int{3: impl.UseTake}, 2},
		{"d=c", [6]int{2: impl.UseTake}, 3},
		{"e=&c", [6]int{2: impl.UseReach}, 4},
		{"e=&f", [6]int{5: impl.UseReach}, 4},
		{"f=&mut d", [6]int{3: impl.UseReach}, 5},
		{"a=*c", [6]int{2: impl.UseReach}, 0},
		{"b=*e", [6]int{4: impl.UseReach}, 1},
		{"b=*f", [6]int{5: impl.UseReach}, 1},
		{"*c=b", [6]int{1: impl.UseRead, 2: impl.UseReach}, -1},
		{"*f=a", [6]int{0: impl.UseRead, 5: impl.UseReach}, -1},
		{"drop d", [6]int{3: impl.UseTake}, -1},
		{"if{}{}", [6]int{}, -1},
		{"loop{}", [6]int{}, -1},
		{"", [6]int{}, -1},
	} {
		p := parsed(t, "iibbrm:"+c.text)
		for v, want := range c.uses {
			if got := impl.UseOf(p, 0, v); got != want {
				t.Errorf("UseOf(%s, 0, %d) = %d, want %d", c.text, v, got, want)
			}
		}
		if got := impl.SetBy(p, 0); got != c.set {
			t.Errorf("SetBy(%s, 0) = %d, want %d", c.text, got, c.set)
		}
	}
}

func TestMovesOfReferences(t *testing.T) {
	p := parsed(t, "irrmmr:b=c;d=e;f=b;b=&c;d=&mut e")
	for _, c := range [][3]int{{0, 2, impl.UseRead}, {1, 4, impl.UseTake}, {2, 1, impl.UseRead}, {3, 2, impl.UseReach}, {4, 4, impl.UseReach}} {
		if got := impl.UseOf(p, c[0], c[1]); got != c[2] {
			t.Errorf("UseOf at %d of %d = %d, want %d", c[0], c[1], got, c[2])
		}
	}
	if l := impl.MaybeSet(p, 5); !slices.Equal(l, []int{1, 3, 5}) {
		t.Errorf("MaybeSet = %v", l)
	}
}

// atPoints writes what a function returns for each point of a program.
func atPoints(p impl.Program, of func(p impl.Program, at int) []int) string {
	var texts []string
	for at := range impl.PointsOf(p) {
		text := ""
		for _, v := range of(p, at) {
			text += string(rune('a' + v))
		}
		texts = append(texts, text)
	}
	return strings.Join(texts, " ")
}

func TestValuesAtEachPoint(t *testing.T) {
	for _, c := range []struct{ text, always, maybe, live, unset string }{
		{":", "", "", "", "[]"},
		{"i:a=1", " a", " a", " ", "[]"},
		{"ii:b=a;a=b;b=a", " b ab ab", " b ab ab", "b a  ", "[0]"},
		// What is taken has no value any more; what is read still has one.
		{"bb:a=box 1;b=a;drop b;drop a", " a b  ", " a b  ", "a ab a  ", "[3]"},
		{"rrb:c=box 1;a=&c;b=a;b=a", " c ac abc abc", " c ac abc abc", "c a a  ", "[]"},
		{"imm:b=c;c=b", " b c", " b c", "b  ", "[0]"},
		{"imb:c=box 0;b=&mut c;a=4;*b=a", " c bc abc abc", " c bc abc abc", "c b ab  ", "[]"},
		// A branch that sets nothing.
		{"i:if{a=1}{}", "  a ", "  a a", "   ", "[]"},
		{"i:if{}{a=1}", "   ", "   a", "   ", "[]"},
		{"i:if{a=1}{a=2}", "  a  a", "  a  a", "    ", "[]"},
		{"ii:if{a=1}{};b=a", "  a  b", "  a a ab", "a a a  ", "[3]"},
		{"ii:a=0;if{a=1}{};b=a", " a a a a ab", " a a a a ab", "a a a a  ", "[]"},
		{"ib:b=box 1;if{drop b}{};a=*b", " b b   a", " b b  b ab", "b b b b  ", "[4]"},
		{"ib:b=box 1;if{drop b}{drop b};a=*b", " b b  b  a", " b b  b  a", "b b b b b  ", "[5]"},
		// A loop that takes what it sets again.
		{"ib:b=box 1;loop{drop b;b=box 2};drop b", " b b  b b ", " b b  b b ", "b b  b b  ", "[]"},
		{"b:a=box 1;loop{a=box 2;drop a};drop a", "   a   ", " a a a  a ", "a a a a a  ", "[5]"},
		{"b:loop{drop a;a=box 1}", "   a ", "a a  a a", "a  a a ", "[1]"},
		{"b:loop{a=box 1;drop a}", "  a  ", "  a  ", " a   ", "[]"},
		// Nothing has a value before the point 0 on the first way to it.
		{"i:loop{a=1}", "  a ", "a a a a", "   ", "[]"},
		{"ii:loop{b=a;a=1}", "  b ab ", "ab ab ab ab ab", "a  a a ", "[1]"},
		{"ii:loop{loop{a=1};b=a}", "   a  b ", "ab ab ab ab ab ab ab", "a a a a a a ", "[4]"},
		// A variable is live where it is set before the use that comes back to it.
		{"ii:a=1;loop{b=a;a=2}", " a a ab ab a", " ab ab ab ab ab", "a a  a a ", "[]"},
		{"ii:a=1;loop{a=2;b=a}", " a a a ab a", " ab ab ab ab ab", "  a   ", "[]"},
	} {
		p := parsed(t, c.text)
		if got := atPoints(p, impl.AlwaysSet); got != c.always {
			t.Errorf("AlwaysSet of %s: %q, want %q", c.text, got, c.always)
		}
		if got := atPoints(p, impl.MaybeSet); got != c.maybe {
			t.Errorf("MaybeSet of %s: %q, want %q", c.text, got, c.maybe)
		}
		if got := atPoints(p, impl.LiveAfter); got != c.live {
			t.Errorf("LiveAfter of %s: %q, want %q", c.text, got, c.live)
		}
		if got := fmt.Sprint(impl.UnsetUses(p)); got != c.unset {
			t.Errorf("UnsetUses of %s: %s, want %s", c.text, got, c.unset)
		}
	}
}

// useAt tells what a point does with a variable, by the text of the point.
func useAt(p impl.Program, x impl.Point, v int) int {
	name := string(rune('a' + v))
	text := impl.PointText(x)
	switch {
	case text == "drop "+name:
		return impl.UseTake
	case strings.HasPrefix(text, "*"+name), strings.HasSuffix(text, "=*"+name), strings.HasSuffix(text, "=&"+name), strings.HasSuffix(text, "=&mut "+name):
		return impl.UseReach
	case strings.HasPrefix(text, "*") && strings.HasSuffix(text, "="+name):
		return impl.UseRead
	case strings.HasSuffix(text, "="+name) && (p.Types[v] == impl.TypeInt || p.Types[v] == impl.TypeRef):
		return impl.UseRead
	case strings.HasSuffix(text, "="+name):
		return impl.UseTake
	}
	return impl.UseNone
}

// setsAt reports whether a point sets a variable, by the text of the point.
func setsAt(x impl.Point, v int) bool {
	return strings.HasPrefix(impl.PointText(x), string(rune('a'+v))+"=")
}

// valued is a point with the variables that have a value before it.
type valued struct {
	at  int
	has [6]bool
}

// step returns what has a value behind the point.
func (s valued) step(p impl.Program, x impl.Point) [6]bool {
	for v := range p.Types {
		if useAt(p, x, v) == impl.UseTake {
			s.has[v] = false
		}
		if setsAt(x, v) {
			s.has[v] = true
		}
	}
	return s.has
}

// allValued follows all ways, and returns what they come to.
func allValued(p impl.Program) map[valued]bool {
	points := impl.PointsOf(p)
	met := map[valued]bool{{}: true}
	work := []valued{{}}
	for len(work) > 0 {
		s := work[0]
		work = work[1:]
		for _, next := range points[s.at].Next {
			if to := (valued{next, s.step(p, points[s.at])}); !met[to] {
				met[to] = true
				work = append(work, to)
			}
		}
	}
	return met
}

func TestValuesOfMixedPrograms(t *testing.T) {
	for _, p := range mixedPrograms(400) {
		points := impl.PointsOf(p)
		some, not := map[[2]int]bool{}, map[[2]int]bool{}
		for s := range allValued(p) {
			for v := range p.Types {
				if s.has[v] {
					some[[2]int{s.at, v}] = true
				} else {
					not[[2]int{s.at, v}] = true
				}
			}
		}
		var unset []int
		for at, x := range points {
			var always, maybe []int
			missing := false
			for v := range p.Types {
				key := [2]int{at, v}
				if !not[key] {
					always = append(always, v)
				}
				if some[key] {
					maybe = append(maybe, v)
				}
				missing = missing || not[key] && useAt(p, x, v) != impl.UseNone
			}
			if missing {
				unset = append(unset, at)
			}
			if l := impl.AlwaysSet(p, at); !slices.Equal(l, always) {
				t.Fatalf("AlwaysSet(%s, %d) = %v, want %v", impl.FormatProgram(p), at, l, always)
			}
			if l := impl.MaybeSet(p, at); !slices.Equal(l, maybe) {
				t.Fatalf("MaybeSet(%s, %d) = %v, want %v", impl.FormatProgram(p), at, l, maybe)
			}
		}
		if l := impl.UnsetUses(p); !slices.Equal(l, unset) {
			t.Fatalf("UnsetUses(%s) = %v, want %v", impl.FormatProgram(p), l, unset)
		}
	}
}

// usedBehind follows the ways from a point until they set the variable.
func usedBehind(p impl.Program, points []impl.Point, at, v int) bool {
	met := map[int]bool{}
	work := slices.Clone(points[at].Next)
	for len(work) > 0 {
		next := work[0]
		work = work[1:]
		if useAt(p, points[next], v) != impl.UseNone {
			return true
		}
		if !met[next] && !setsAt(points[next], v) {
			work = append(work, points[next].Next...)
		}
		met[next] = true
	}
	return false
}

func TestUsesOfMixedPrograms(t *testing.T) {
	for _, p := range mixedPrograms(400) {
		points := impl.PointsOf(p)
		for at, x := range points {
			var live []int
			set := -1
			for v := range p.Types {
				if usedBehind(p, points, at, v) {
					live = append(live, v)
				}
				if setsAt(x, v) {
					set = v
				}
				if got, want := impl.UseOf(p, at, v), useAt(p, x, v); got != want {
					t.Fatalf("UseOf(%s, %d, %d) = %d, want %d", impl.FormatProgram(p), at, v, got, want)
				}
			}
			if l := impl.LiveAfter(p, at); !slices.Equal(l, live) {
				t.Fatalf("LiveAfter(%s, %d) = %v, want %v", impl.FormatProgram(p), at, l, live)
			}
			if got := impl.SetBy(p, at); got != set {
				t.Fatalf("SetBy(%s, %d) = %d, want %d", impl.FormatProgram(p), at, got, set)
			}
		}
	}
}

// Before each use in a run, a variable has a value if the point is not among UnsetUses,
// and what a run uses later, and does not set before, is live.
func TestValuesOnRuns(t *testing.T) {
	d := &dice{state: 5}
	for _, p := range mixedPrograms(400) {
		points := impl.PointsOf(p)
		path, _ := impl.RunPath(p, d.choices(12), 200)
		var has [6]bool
		for i, at := range path {
			for v := range p.Types {
				if slices.Contains(impl.AlwaysSet(p, at), v) && !has[v] || has[v] && !slices.Contains(impl.MaybeSet(p, at), v) {
					t.Fatalf("%s: the variable %d before the point %d of %v", impl.FormatProgram(p), v, at, path)
				}
				used := impl.UseOf(p, at, v) != impl.UseNone
				if used && !has[v] && !slices.Contains(impl.UnsetUses(p), at) {
					t.Fatalf("%s: no value of %d at the point %d of %v", impl.FormatProgram(p), v, at, path)
				}
				if i > 0 && used && !slices.Contains(impl.LiveAfter(p, path[i-1]), v) {
					t.Fatalf("%s: the variable %d is not live before the point %d", impl.FormatProgram(p), v, at)
				}
			}
			has = valued{at, has}.step(p, points[at])
		}
	}
}

func TestMostPointsWithValues(t *testing.T) {
	list := slices.Repeat([]impl.Stmt{either(nil, nil)}, impl.MaxStmts-2)
	list = append(list, simple(impl.OpInt, 5, 0, 1), simple(impl.OpMove, 0, 5, 0))
	p := impl.Program{Types: []int{1, 1, 1, 1, 1, 1}, Body: list}
	if l := impl.AlwaysSet(p, 58); !slices.Equal(l, []int{0, 5}) {
		t.Errorf("AlwaysSet = %v", l)
	}
	if l := impl.LiveAfter(p, 56); !slices.Equal(l, []int{5}) || len(impl.LiveAfter(p, 55)) != 0 {
		t.Errorf("LiveAfter = %v, %v", l, impl.LiveAfter(p, 55))
	}
	if use, set := impl.UseOf(p, 57, 5), impl.SetBy(p, 57); use != impl.UseRead || set != 0 {
		t.Errorf("UseOf = %d, SetBy = %d", use, set)
	}
}

func TestValuesThatAreNotThere(t *testing.T) {
	for i, p := range invalidPrograms() {
		if use, set := impl.UseOf(p, 0, 0), impl.SetBy(p, 0); use != impl.UseNone || set != -1 {
			t.Errorf("the invalid program %d: UseOf = %d, SetBy = %d", i, use, set)
		}
		if len(impl.AlwaysSet(p, 1))+len(impl.MaybeSet(p, 1))+len(impl.LiveAfter(p, 0))+len(impl.UnsetUses(p)) != 0 {
			t.Errorf("the invalid program %d has values", i)
		}
	}
	p := parsed(t, "ib:b=box 1;loop{a=*b};drop b")
	for _, far := range append([]int{6}, farIndices...) {
		if use, set := impl.UseOf(p, far, 1), impl.SetBy(p, far); use != impl.UseNone || set != -1 {
			t.Errorf("at the point %d: UseOf = %d, SetBy = %d", far, use, set)
		}
		if len(impl.AlwaysSet(p, far))+len(impl.MaybeSet(p, far))+len(impl.LiveAfter(p, far)) != 0 {
			t.Errorf("values at the point %d", far)
		}
		for at := range 6 {
			if use := impl.UseOf(p, at, far); use != impl.UseNone {
				t.Errorf("UseOf(%d, %d) = %d", at, far, use)
			}
		}
	}
	if use := impl.UseOf(p, 2, 2); use != impl.UseNone {
		t.Errorf("UseOf of a variable that is not there = %d", use)
	}
}

func TestValuesShareNoMemory(t *testing.T) {
	text := "ibr:b=box 1;loop{c=&b;a=*c};a=*c"
	p := parsed(t, text)
	for _, of := range []func() []int{
		func() []int { return impl.AlwaysSet(p, 6) },
		func() []int { return impl.MaybeSet(p, 6) },
		func() []int { return impl.LiveAfter(p, 4) },
		func() []int { return impl.UnsetUses(p) },
	} {
		first := of()
		want := slices.Clone(first)
		for i := range first[:cap(first)] {
			first[:cap(first)][i] = 99
		}
		if second := of(); len(second) == 0 || !slices.Equal(second, want) {
			t.Errorf("a second result is %v, want %v", second, want)
		}
	}
	if got := impl.FormatProgram(p); got != text {
		t.Errorf("the program changed: %s", got)
	}
}
