package tests

import (
	"fmt"
	"slices"
	"strings"
	"testing"

	"loop.example/borrowcheck/impl"
)

// numbersAtPoints writes what a function returns for each point of a program, - for nothing.
func numbersAtPoints(p impl.Program, of func(p impl.Program, at int) []int) string {
	var texts []string
	for at := range impl.PointsOf(p) {
		text := strings.Trim(strings.ReplaceAll(fmt.Sprint(of(p, at)), " ", ","), "[]")
		if text == "" {
			text = "-"
		}
		texts = append(texts, text)
	}
	return strings.Join(texts, " ")
}

func TestLoansOf(t *testing.T) {
	for text, want := range map[string]string{
		":":                              "[]",
		"ib:b=box 1;a=*b;*b=a;drop b":    "[]",
		"ibr:b=box 1;c=&b;a=*c;drop b":   "[{1 false 1}]",
		"mbm:a=&mut b;c=&mut a;a=&mut c": "[{0 true 1} {1 true 0} {2 true 2}]",
		"rrm:a=&b;if{b=&c}{a=b};a=&b":    "[{0 false 1} {2 false 2} {5 false 1}]",
		"bm:loop{loop{b=&mut a}}":        "[{2 true 0}]",
		"brm:a=box 1;b=&a;c=&mut a;b=&a": "[{1 false 0} {2 true 0} {3 false 0}]",
	} {
		if got := fmt.Sprint(impl.LoansOf(parsed(t, text))); got != want {
			t.Errorf("LoansOf(%s) = %s, want %s", text, got, want)
		}
	}
}

func TestLoansAtEachPoint(t *testing.T) {
	for _, c := range []struct {
		text                        string
		v                           int
		in, placed, live, conflicts string
	}{
		{"ibr:b=box 1;c=&b;drop b;a=*c", 2, "- - 1 1 1", "- - 1 - -", "- - 1 - -", "- - 1 - -"},
		{"ibr:b=box 1;c=&b;a=*c;drop b", 2, "- - 1 1 1", "- - 1 1 -", "- - - - -", "- - - - -"},
		// A reference that gets another loan, another value, or one that comes from nothing.
		{"ibbr:b=box 1;c=box 2;d=&b;d=&c;drop b;a=*d", 3, "- - - 2 3 3 3", "- - - 2 2,3 3 3", "- - - - 3 - -", "- - - - - - -"},
		{"ibrr:b=box 1;c=&b;d=c;c=d;a=*c", 2, "- - 1 1 1 1", "- - 1 1 1 1", "- - - - - -", "- - - - - -"},
		{"ibrr:b=box 1;c=&b;c=d;drop b;a=*c", 2, "- - 1 - - -", "- - 1 1 - -", "- - - - - -", "- - - - - -"},
		// A loan of a loan: the values that come from it come from both.
		{"ibmm:a=1;b=box 1;c=&mut b;d=&mut c;*b=a;*d=a", 3, "- - - - 2,3 2,3 2,3", "- - - 2 2,3 2,3 2,3", "- - - - 2,3 - -", "- - - - 2 - -"},
		{"ibmm:a=1;b=box 1;c=&mut b;d=&mut c;*c=a;*d=a", 3, "- - - - 2,3 2,3 2,3", "- - - 2 2,3 2,3 2,3", "- - - 2 2,3 - -", "- - - - 3 - -"},
		{"ibmr:b=box 1;c=&mut b;d=&c;c=&mut b;a=*d", 3, "- - - 1,2 1,2 1,2", "- - 1 1,2 1,3 1,3", "- - - 1,2 - -", "- - - 1 - -"},
		{"ibrr:b=box 1;c=&b;d=&c;c=d;d=&c;a=*d", 3, "- - - 1,2 1,2 1,2,4 1,2,4", "- - 1 1,2 1 1,4 1,4", "- - - - - - -", "- - - - - - -"},
		// What is taken comes from nothing, and a loan from it is not placed any more.
		{"ibmm:b=box 1;c=&mut b;d=c;a=*c;a=*d", 2, "- - 1 - - -", "- - 1 1 1 1", "- - - 1 - -", "- - - - - -"},
		{"ibmm:b=box 1;c=&mut b;d=c;a=*c;a=*d", 3, "- - - 1 1 1", "- - 1 1 1 1", "- - - 1 - -", "- - - - - -"},
		{"ibbr:b=box 1;d=&b;c=b;a=*d", 3, "- - 1 1 1", "- - 1 - -", "- - 1 - -", "- - 1 - -"},
		{"ibbm:b=box 1;d=&mut b;b=c;a=*d", 3, "- - 1 1 1", "- - 1 - -", "- - 1 - -", "- - 1 - -"},
		// A loop that makes the same loan again.
		{"ibm:a=1;b=box 1;loop{c=&mut b;*c=a;a=*b}", 2, "- - 3 3 3 3 3 3", "- - 3 3 3 3 3 3", "- - - - - - - -", "- - - - - - - -"},
		{"ibr:b=box 1;loop{c=&b};a=*c", 2, "- 2 2 2 2 2", "- 2 2 2 2 2", "- 2 - 2 - -", "- - - - - -"},
		{"ibr:b=box 1;loop{c=&b;loop{b=box 2}};a=*c", 2, "- 2 2 2 2 2 2 2 2", "- 2 2 2 2 - 2 2 2", "- 2 - 2 2 2 2 - -", "- - - - 2 - - - -"},
		{"bmm:a=box 1;b=&mut a;loop{c=&mut b;b=c};drop a", 1, "- - 1,3 1,3 1,3 1,3 1,3 1,3", "- - 1 1 1,3 1 1 -", "- - 1,3 - - 1,3 - -", "- - - - - - - -"},
		// Some way is enough.
		{"ibbr:if{d=&b}{d=&c};drop b;a=*d", 3, "- - 1 - 1,3 1,3 1,3", "- - 1 - 1,3 3 3", "- - 1 - 1,3 - -", "- - - - 1 - -"},
		{"ibr:c=&b;if{drop b}{};drop b;a=*c", 2, "- 0 0 0 0 0 0", "- 0 0 - 0 - -", "- 0 0 0 0 - -", "- - 0 - 0 - -"},
		// A shared loan is in the way of no look, and a unique one of each access.
		{"ibrr:b=box 1;c=&b;d=&b;a=*b;a=*c", 2, "- - 1 1 1 1", "- - 1 1,2 1,2 1,2", "- - 1 1 - -", "- - - - - -"},
		{"ibrm:b=box 1;d=&mut b;c=&b;a=*d", 3, "- - 1 1 1", "- - 1 1,2 1,2", "- - 1 - -", "- - 1 - -"},
		{"ibm:b=box 1;c=&mut b;a=*b;*c=a", 2, "- - 1 1 1", "- - 1 1 1", "- - 1 - -", "- - 1 - -"},
		{"ibrm:b=box 1;c=&b;d=&mut b;a=*c", 2, "- - 1 1 1", "- - 1 1,2 1,2", "- - 1 - -", "- - 1 - -"},
		{"ibr:a=1;b=box 1;c=&b;*b=a;a=*c", 2, "- - - 2 2 2", "- - - 2 2 2", "- - - 2 - -", "- - - 2 - -"},
		// A box gets another value; the loan is in the way if it can have one.
		{"ibr:b=box 1;c=&b;b=box 2;a=*c", 2, "- - 1 1 1", "- - 1 - -", "- - 1 - -", "- - 1 - -"},
		{"ibr:c=&b;b=box 2;a=*c", 2, "- 0 0 0", "- 0 - -", "- 0 - -", "- - - -"},
		{"ibr:if{b=box 1}{};c=&b;b=box 2;a=*c", 2, "- - - - 3 3 3", "- - - - 3 - -", "- - - - 3 - -", "- - - - 3 - -"},
	} {
		p := parsed(t, c.text)
		for _, x := range []struct {
			name, want string
			of         func(p impl.Program, at int) []int
		}{
			{"LoansIn", c.in, func(p impl.Program, at int) []int { return impl.LoansIn(p, at, c.v) }},
			{"PlacedLoans", c.placed, impl.PlacedLoans},
			{"LiveLoans", c.live, impl.LiveLoans},
			{"ConflictsAt", c.conflicts, impl.ConflictsAt},
		} {
			if got := numbersAtPoints(p, x.of); got != x.want {
				t.Errorf("%s of %s: %s, want %s", x.name, c.text, got, x.want)
			}
		}
	}
}

func TestAccessesOf(t *testing.T) {
	for _, c := range []struct{ text, want string }{
		{"ibb:b=c;b=c", "[{2 true}] [{2 true} {1 true}] []"},
		{"ibb:b=box 1;b=box 2;drop b;b=box 3", "[] [{1 true}] [{1 true}] [] []"},
		{"ibb:loop{b=box 1}", "[] [{1 true}] [] []"},
		{"ibb:if{b=box 1}{};b=c;c=b;b=box 1", "[] [] [] [{2 true} {1 true}] [{1 true}] [] []"},
		{"iirrb:a=1;b=a;a=b;c=&e;d=c;c=&d;a=*c", "[] [] [] [{4 false}] [] [{3 false}] [{2 false}] []"},
		{"ibmm:c=&mut b;c=&mut d;d=c;a=*d;*d=a;*b=a;a=*b", "[{1 true}] [{3 true}] [{2 true}] [{3 false}] [{3 true}] [{1 true}] [{1 false}] []"},
		{":if{}{};loop{}", "[] [] [] [] []"},
	} {
		p := parsed(t, c.text)
		var got []string
		for at := range impl.PointsOf(p) {
			got = append(got, fmt.Sprint(impl.AccessesOf(p, at)))
		}
		if text := strings.Join(got, " "); text != c.want {
			t.Errorf("AccessesOf(%s): %s, want %s", c.text, text, c.want)
		}
	}
}

// lentState is a point, with the variables whose values come from one loan before it, and whether this is placed.
type lentState struct {
	at     int
	in     [6]bool
	placed bool
}

func isLoan(x impl.Point) bool { return x.Op == impl.OpShare || x.Op == impl.OpBorrow }

// behind returns what holds behind the point.
func (s lentState) behind(p impl.Program, x impl.Point, loan, from int) lentState {
	old := s.in
	for v := range p.Types {
		if useAt(p, x, v) == impl.UseTake || setsAt(x, v) {
			s.in[v] = false
			s.placed = s.placed && v != from
		}
	}
	if isLoan(x) {
		s.in[x.X] = s.at == loan || old[x.Y]
		s.placed = s.placed || s.at == loan
	}
	if x.Op == impl.OpMove {
		s.in[x.X] = old[x.Y]
	}
	return s
}

// allLent follows one loan on all ways.
func allLent(p impl.Program, points []impl.Point, loan int) map[lentState]bool {
	met := map[lentState]bool{{}: true}
	work := []lentState{{}}
	for len(work) > 0 {
		s := work[0]
		work = work[1:]
		for _, next := range points[s.at].Next {
			to := s.behind(p, points[s.at], loan, points[loan].Y)
			to.at = next
			if !met[to] {
				met[to] = true
				work = append(work, to)
			}
		}
	}
	return met
}

// accessesAt tells what a point accesses, by its text.
func accessesAt(p impl.Program, at int, x impl.Point) []impl.Access {
	text := impl.PointText(x)
	var accesses []impl.Access
	for v := range p.Types {
		switch {
		case strings.HasPrefix(text, "*") && v == x.X, useAt(p, x, v) == impl.UseTake, strings.Contains(text, "mut") && v == x.Y:
			accesses = append(accesses, impl.Access{Var: v, Write: true})
		case useAt(p, x, v) == impl.UseReach:
			accesses = append(accesses, impl.Access{Var: v})
		}
	}
	for v, kind := range p.Types {
		if kind == impl.TypeBox && setsAt(x, v) && slices.Contains(impl.MaybeSet(p, at), v) {
			accesses = append(accesses, impl.Access{Var: v, Write: true})
		}
	}
	return accesses
}

// inTheWay reports whether a loan excludes one of the accesses.
func inTheWay(accesses []impl.Access, loan impl.Point) bool {
	return slices.ContainsFunc(accesses, func(a impl.Access) bool {
		return a.Var == loan.Y && (a.Write || loan.Op == impl.OpBorrow)
	})
}

// lentLists are lists of loans for each point.
type lentLists struct {
	in                      [61][6][]int
	placed, live, conflicts [61][]int
}

// modelOfLoans follows each loan alone, and says what holds on some way.
func modelOfLoans(p impl.Program, points []impl.Point) *lentLists {
	m := &lentLists{}
	for loan, y := range points {
		if !isLoan(y) {
			continue
		}
		var in [61][6]bool
		var placed [61]bool
		for s := range allLent(p, points, loan) {
			placed[s.at] = placed[s.at] || s.placed
			for v := range s.in {
				in[s.at][v] = in[s.at][v] || s.in[v]
			}
		}
		for at, x := range points {
			live := false
			for v := range p.Types {
				if in[at][v] {
					m.in[at][v] = append(m.in[at][v], loan)
					live = live || usedBehind(p, points, at, v) && !setsAt(x, v) && useAt(p, x, v) != impl.UseTake
				}
			}
			if placed[at] {
				m.placed[at] = append(m.placed[at], loan)
			}
			if live {
				m.live[at] = append(m.live[at], loan)
			}
			if live && placed[at] && inTheWay(accessesAt(p, at, x), y) {
				m.conflicts[at] = append(m.conflicts[at], loan)
			}
		}
	}
	return m
}

// fitting returns the statements without parts that are valid for some types, each with the number 2, if it has one.
func fitting(types []int) []impl.Stmt {
	var all []impl.Stmt
	for op := impl.OpInt; op <= impl.OpDrop; op++ {
		for x := range types {
			for y := range types {
				for _, n := range []int{0, 2} {
					if s := simple(op, x, y, n); (n == 2) == (op <= impl.OpBox) && needs(types, s) {
						all = append(all, s)
					}
				}
			}
		}
	}
	return all
}

// dense returns a list of statements, each of which is one of those without parts, or has a list in it.
func (d *dice) dense(all []impl.Stmt, most, nested int) []impl.Stmt {
	var list []impl.Stmt
	for range d.upTo(most + 1) {
		switch part := d.upTo(10); {
		case part == 0 && nested > 0:
			list = append(list, either(d.dense(all, most/2, nested-1), d.dense(all, most/2, nested-1)))
		case part == 1 && nested > 0:
			list = append(list, loop(d.dense(all, most/2, nested-1)...))
		default:
			list = append(list, all[d.upTo(len(all))])
		}
	}
	return list
}

// mixedTypes are types of which each is there, the first four in the same order.
func (d *dice) mixedTypes() []int {
	types := []int{impl.TypeInt, impl.TypeBox, impl.TypeMut, impl.TypeRef}
	for range d.upTo(3) {
		types = append(types, impl.TypeBox+d.upTo(3))
	}
	return types
}

// borrowing returns valid programs with variables of all types, and with many loans.
func borrowing(count int) []impl.Program {
	d := &dice{state: 11}
	var programs []impl.Program
	for len(programs) < count {
		types := d.mixedTypes()
		if p := (impl.Program{Types: types, Body: d.dense(fitting(types), 18, 4)}); impl.ProgramValid(p) {
			programs = append(programs, p)
		}
	}
	return programs
}

func TestLoansOfMixedPrograms(t *testing.T) {
	conflicts := 0
	for _, p := range append(mixedPrograms(100), borrowing(400)...) {
		points := impl.PointsOf(p)
		want := modelOfLoans(p, points)
		var loans []impl.Loan
		for at, x := range points {
			if isLoan(x) {
				loans = append(loans, impl.Loan{Point: at, Unique: x.Op == impl.OpBorrow, Var: x.Y})
			}
			for v := range p.Types {
				if l := impl.LoansIn(p, at, v); !slices.Equal(l, want.in[at][v]) {
					t.Fatalf("LoansIn(%s, %d, %d) = %v, want %v", impl.FormatProgram(p), at, v, l, want.in[at][v])
				}
			}
			if l := impl.PlacedLoans(p, at); !slices.Equal(l, want.placed[at]) {
				t.Fatalf("PlacedLoans(%s, %d) = %v, want %v", impl.FormatProgram(p), at, l, want.placed[at])
			}
			if l := impl.LiveLoans(p, at); !slices.Equal(l, want.live[at]) {
				t.Fatalf("LiveLoans(%s, %d) = %v, want %v", impl.FormatProgram(p), at, l, want.live[at])
			}
			if l, all := impl.AccessesOf(p, at), accessesAt(p, at, x); !slices.Equal(l, all) {
				t.Fatalf("AccessesOf(%s, %d) = %v, want %v", impl.FormatProgram(p), at, l, all)
			}
			if l := impl.ConflictsAt(p, at); !slices.Equal(l, want.conflicts[at]) {
				t.Fatalf("ConflictsAt(%s, %d) = %v, want %v", impl.FormatProgram(p), at, l, want.conflicts[at])
			}
			conflicts += len(want.conflicts[at])
		}
		if l := impl.LoansOf(p); !slices.Equal(l, loans) {
			t.Fatalf("LoansOf(%s) = %v, want %v", impl.FormatProgram(p), l, loans)
		}
	}
	if conflicts < 300 {
		t.Errorf("only %d conflicts", conflicts)
	}
}

// On a run, what a value comes from is among LoansIn, and what is placed is among PlacedLoans.
func TestLoansOnRuns(t *testing.T) {
	d := &dice{state: 13}
	for _, p := range borrowing(300) {
		points := impl.PointsOf(p)
		path, _ := impl.RunPath(p, d.choices(12), 200)
		for _, l := range impl.LoansOf(p) {
			s := lentState{}
			for _, at := range path {
				s.at = at
				for v := range p.Types {
					if s.in[v] && !slices.Contains(impl.LoansIn(p, at, v), l.Point) {
						t.Fatalf("%s: the value of %d comes from %d before the point %d of %v", impl.FormatProgram(p), v, l.Point, at, path)
					}
				}
				if s.placed && !slices.Contains(impl.PlacedLoans(p, at), l.Point) {
					t.Fatalf("%s: the loan %d is placed before the point %d of %v", impl.FormatProgram(p), l.Point, at, path)
				}
				s = s.behind(p, points[at], l.Point, l.Var)
			}
		}
	}
}

func TestMostLoans(t *testing.T) {
	list := slices.Repeat([]impl.Stmt{either(nil, nil)}, impl.MaxStmts-3)
	list = append(list, simple(impl.OpBorrow, 5, 4, 0), simple(impl.OpLoad, 0, 4, 0), simple(impl.OpLoad, 0, 5, 0))
	p := impl.Program{Types: []int{1, 1, 1, 1, 2, 4}, Body: list}
	if l := impl.LoansOf(p); len(l) != 1 || l[0] != (impl.Loan{Point: 54, Unique: true, Var: 4}) {
		t.Errorf("LoansOf = %v", l)
	}
	if l := impl.ConflictsAt(p, 55); !slices.Equal(l, []int{54}) {
		t.Errorf("ConflictsAt = %v", l)
	}
	types := []int{impl.TypeMut, impl.TypeMut}
	all := impl.Program{Types: types, Body: slices.Repeat([]impl.Stmt{simple(5, 0, 1, 0), simple(5, 1, 0, 0)}, 15)}
	if l, in := impl.LoansOf(all), impl.LoansIn(all, 30, 0); len(l) != 30 || len(in) != 29 || in[28] != 28 {
		t.Errorf("%d loans, LoansIn = %v", len(l), in)
	}
}

func TestLoansThatAreNotThere(t *testing.T) {
	for i, p := range invalidPrograms() {
		if len(impl.LoansOf(p))+len(impl.LoansIn(p, 0, 0))+len(impl.PlacedLoans(p, 0))+len(impl.LiveLoans(p, 0))+len(impl.AccessesOf(p, 0))+len(impl.ConflictsAt(p, 0)) != 0 {
			t.Errorf("the invalid program %d has loans", i)
		}
	}
	broken := impl.Program{Types: []int{2, 4}, Body: []impl.Stmt{simple(impl.OpBorrow, 1, 0, 0), simple(impl.OpDrop, 1, 0, 0)}}
	if len(impl.LoansOf(broken))+len(impl.LoansIn(broken, 1, 1))+len(impl.PlacedLoans(broken, 1))+len(impl.AccessesOf(broken, 0)) != 0 {
		t.Error("a program with a statement that is not valid has loans")
	}
	p := parsed(t, "ibr:b=box 1;loop{c=&b;b=box 2;a=*c}")
	for _, far := range append([]int{7}, farIndices...) {
		if len(impl.LoansIn(p, far, 2))+len(impl.PlacedLoans(p, far))+len(impl.LiveLoans(p, far))+len(impl.AccessesOf(p, far))+len(impl.ConflictsAt(p, far)) != 0 {
			t.Errorf("loans at the point %d", far)
		}
		if l := impl.LoansIn(p, 3, far); len(l) != 0 {
			t.Errorf("LoansIn of the variable %d = %v", far, l)
		}
	}
	for _, v := range []int{-1, 3, 4, 5} {
		if l := impl.LoansIn(p, 3, v); len(l) != 0 {
			t.Errorf("LoansIn of the variable %d = %v", v, l)
		}
	}
}

func TestLoansShareNoMemory(t *testing.T) {
	text := "ibr:b=box 1;loop{c=&b;b=box 2;a=*c}"
	p := parsed(t, text)
	for _, of := range []func() []int{
		func() []int { return impl.LoansIn(p, 3, 2) },
		func() []int { return impl.PlacedLoans(p, 3) },
		func() []int { return impl.LiveLoans(p, 3) },
		func() []int { return impl.ConflictsAt(p, 3) },
	} {
		first := of()
		for i := range first[:cap(first)] {
			first[:cap(first)][i] = 99
		}
		if second := of(); !slices.Equal(second, []int{2}) {
			t.Errorf("a second result is %v", second)
		}
	}
	loans, accesses := impl.LoansOf(p), impl.AccessesOf(p, 3)
	loans[0], accesses[0] = impl.Loan{}, impl.Access{}
	if l, a := impl.LoansOf(p), impl.AccessesOf(p, 3); l[0] != (impl.Loan{Point: 2, Var: 1}) || a[0] != (impl.Access{Var: 1, Write: true}) {
		t.Errorf("second results are %v, %v", l, a)
	}
	if got := impl.FormatProgram(p); got != text {
		t.Errorf("the program changed: %s", got)
	}
}
