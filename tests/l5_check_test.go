package tests

import (
	"fmt"
	"reflect"
	"slices"
	"strings"
	"testing"

	"loop.example/borrowcheck/impl"
)

// issueText writes an issue of a program, whichever checker has found it.
func issueText(points []impl.Point, x impl.Issue) string {
	at := fmt.Sprint(x.Point, " ", impl.PointText(points[x.Point]), ": ")
	if x.Kind == impl.IssueUnset {
		return at + "no value of " + string(rune('a'+x.With))
	}
	if (x.Kind == impl.IssueUnique) != (points[x.With].Op == impl.OpBorrow) {
		return "an issue of the wrong kind"
	}
	return at + fmt.Sprint("loan of ", x.With, " ", impl.PointText(points[x.With]))
}

func issueTexts(p impl.Program, issues []impl.Issue) []string {
	var texts []string
	for _, x := range issues {
		texts = append(texts, issueText(impl.PointsOf(p), x))
	}
	return texts
}

// issueCases are programs with the issues that CheckProgram finds, and those that only CheckPlain finds.
var issueCases = []struct {
	text          string
	issues, plain []string
}{
	{":", nil, nil},
	{":if{}{};loop{}", nil, nil},
	{"ibr:b=box 1;c=&b;drop b;a=*c", []string{"2 drop b: loan of 1 c=&b"}, nil},
	{"ibr:b=box 1;c=&b;a=*c;drop b", nil, []string{"3 drop b: loan of 1 c=&b"}},
	{"ibm:b=box 1;c=&mut b;a=*c;a=*b;drop b", nil, []string{"3 a=*b: loan of 1 c=&mut b", "4 drop b: loan of 1 c=&mut b"}},
	// A reference that was taken, or that gets another value at the point, has nothing from a loan behind it.
	{"ibmm:b=box 1;c=&mut b;d=c;a=*d;c=&mut b", nil, []string{"4 c=&mut b: loan of 1 c=&mut b"}},
	{"ibm:a=1;b=box 1;c=&mut b;c=&mut b;*c=a", nil, nil},
	{"ibmm:b=box 1;c=&mut b;d=&mut c;d=c;a=*d", nil, nil},
	// Several issues at one point: what has no value comes first, and loans are in the order of their points.
	{"ib:*b=a", []string{"0 *b=a: no value of a", "0 *b=a: no value of b"}, nil},
	{"imb:*b=a", []string{"0 *b=a: no value of a", "0 *b=a: no value of b"}, nil},
	{"bi:*a=b", []string{"0 *a=b: no value of a", "0 *a=b: no value of b"}, nil},
	{"ibm:b=box 1;c=&mut b;*b=a;*c=a", []string{"2 *b=a: no value of a", "2 *b=a: loan of 1 c=&mut b", "3 *c=a: no value of a"}, nil},
	{"ibrm:b=box 1;d=&mut b;c=&b;drop b;a=*c;a=*d", []string{"2 c=&b: loan of 1 d=&mut b", "3 drop b: loan of 1 d=&mut b", "3 drop b: loan of 2 c=&b"}, nil},
	{"ibrm:b=box 1;c=&b;d=&mut b;drop b;a=*d;a=*c", []string{"2 d=&mut b: loan of 1 c=&b", "3 drop b: loan of 1 c=&b", "3 drop b: loan of 2 d=&mut b"}, nil},
	{"brrrr:b=&a;c=&a;d=&a;e=&a;drop a;b=c;b=d;b=e", []string{"0 b=&a: no value of a", "1 c=&a: no value of a", "2 d=&a: no value of a", "3 e=&a: no value of a",
		"4 drop a: no value of a", "4 drop a: loan of 1 c=&a", "4 drop a: loan of 2 d=&a", "4 drop a: loan of 3 e=&a"}, []string{"4 drop a: loan of 0 b=&a"}},
	// Each kind of use of what has no value.
	{"iibbrm:a=b", []string{"0 a=b: no value of b"}, nil},
	{"iibbrm:c=d", []string{"0 c=d: no value of d"}, nil},
	{"iibbrm:e=&f", []string{"0 e=&f: no value of f"}, nil},
	{"iibbrm:f=&mut c", []string{"0 f=&mut c: no value of c"}, nil},
	{"iibbrm:a=*e", []string{"0 a=*e: no value of e"}, nil},
	{"iibbrm:drop d", []string{"0 drop d: no value of d"}, nil},
	{"ibb:b=box 1;c=b;a=*b", []string{"2 a=*b: no value of b"}, nil},
	{"ib:if{b=box 1}{};a=*b;a=*b", []string{"3 a=*b: no value of b", "4 a=*b: no value of b"}, nil},
	{"ib:if{b=box 1}{b=box 2};a=*b", nil, nil},
	// Issues in a loop, and by the way back in it.
	{"ib:b=box 1;loop{drop b};b=box 2", []string{"2 drop b: no value of b"}, nil},
	{"ib:loop{a=*b;b=box 1}", []string{"1 a=*b: no value of b"}, nil},
	{"ibr:b=box 1;c=&b;loop{b=box 2;a=*c}", []string{"3 b=box 2: loan of 1 c=&b"}, nil},
	{"ibr:b=box 1;c=&b;loop{a=*c;c=&b;*b=a}", []string{"5 *b=a: loan of 4 c=&b"}, nil},
	{"ibr:b=box 1;c=&b;loop{a=*c;c=&b};*b=a", []string{"6 *b=a: no value of a"}, []string{"6 *b=a: loan of 1 c=&b", "6 *b=a: loan of 4 c=&b"}},
	{"ibm:a=1;b=box 1;loop{c=&mut b;*c=a;a=*b}", nil, []string{"5 a=*b: loan of 3 c=&mut b"}},
	{"ibr:b=box 1;loop{loop{drop b;b=box 2;c=&b};a=*c}", []string{"7 a=*c: no value of c"}, []string{"3 drop b: loan of 5 c=&b"}},
	// What was set on some way only has a value on some way, and so a loan on it.
	{"ibr:b=box 1;if{c=&b}{};drop b", nil, []string{"4 drop b: loan of 2 c=&b"}},
	{"ibr:if{b=box 1}{};if{c=&b}{};b=box 2;a=*c", []string{"4 c=&b: no value of b", "6 b=box 2: loan of 4 c=&b", "7 a=*c: no value of c"}, nil},
	{"ibbr:b=box 1;c=box 2;if{d=&b}{d=&c};drop b;a=*d", []string{"6 drop b: loan of 3 d=&b"}, nil},
	// A box that gets another value, and a loan of a loan.
	{"ibr:b=box 1;c=&b;b=box 2;a=*c", []string{"2 b=box 2: loan of 1 c=&b"}, nil},
	{"ibr:b=box 1;c=&b;a=*c;b=box 2", nil, []string{"3 b=box 2: loan of 1 c=&b"}},
	{"ibbr:b=box 1;c=box 2;d=&b;c=b;a=*d", []string{"3 c=b: loan of 2 d=&b"}, nil},
	{"ibbr:b=box 1;c=box 2;d=&c;c=b;a=*d", []string{"3 c=b: loan of 2 d=&c"}, nil},
	{"ibmm:a=3;b=box 1;c=&mut b;d=&mut c;*c=a;*d=a", []string{"4 *c=a: loan of 3 d=&mut c"}, nil},
	{"ibmm:a=3;b=box 1;c=&mut b;d=&mut c;*b=a;*d=a", []string{"4 *b=a: loan of 2 c=&mut b"}, nil},
	{"ibmm:a=3;b=box 1;c=&mut b;d=&mut c;*d=a;*c=a;drop b", nil, []string{"5 *c=a: loan of 3 d=&mut c", "6 drop b: loan of 2 c=&mut b"}},
}

func TestIssues(t *testing.T) {
	for _, c := range issueCases {
		p := parsed(t, c.text)
		issues := impl.CheckProgram(p)
		if got := issueTexts(p, issues); !slices.Equal(got, c.issues) {
			t.Errorf("CheckProgram(%s) = %q, want %q", c.text, got, c.issues)
		}
		var only []impl.Issue
		for _, x := range impl.CheckPlain(p) {
			if !slices.Contains(issues, x) {
				only = append(only, x)
			}
		}
		if got := issueTexts(p, only); !slices.Equal(got, c.plain) || len(impl.CheckPlain(p)) != len(issues)+len(only) {
			t.Errorf("CheckPlain(%s) = %v, want also %q", c.text, impl.CheckPlain(p), c.plain)
		}
		if impl.Accepts(p) != (len(c.issues) == 0) {
			t.Errorf("Accepts(%s) = %v", c.text, impl.Accepts(p))
		}
		first, refused := impl.FirstIssue(p)
		if refused != (len(c.issues) > 0) || refused && first != issues[0] || !refused && first != (impl.Issue{}) {
			t.Errorf("FirstIssue(%s) = %v, %v", c.text, first, refused)
		}
		for i, x := range issues {
			if got := impl.FormatIssue(p, x); got != c.issues[i] {
				t.Errorf("FormatIssue(%s, %v) = %q", c.text, x, got)
			}
		}
		for _, x := range only {
			if got := impl.FormatIssue(p, x); got != "" {
				t.Errorf("FormatIssue(%s, %v) = %q, which is no issue of CheckProgram", c.text, x, got)
			}
		}
	}
}

func TestKindsOfIssues(t *testing.T) {
	p := parsed(t, "ibrm:b=box 1;d=&mut b;c=&b;drop b;a=*c;*d=a;a=*b")
	want := []impl.Issue{
		{Point: 2, Kind: 3, With: 1},
		{Point: 3, Kind: 3, With: 1},
		{Point: 3, Kind: 2, With: 2},
		{Point: 6, Kind: 1, With: 1},
	}
	if got := impl.CheckProgram(p); !slices.Equal(got, want) {
		t.Errorf("CheckProgram = %v, want %v", got, want)
	}
	if impl.IssueUnset != 1 || impl.IssueShared != 2 || impl.IssueUnique != 3 {
		t.Error("a constant is wrong")
	}
}

// plainLoans returns, for each point, the loans in its way for the plain checker, by the model of loans and all ways.
func plainLoans(p impl.Program, points []impl.Point, m *lentLists) [61][]int {
	var behind [61][6]bool
	for s := range allValued(p) {
		for v, has := range s.step(p, points[s.at]) {
			behind[s.at][v] = behind[s.at][v] || has
		}
	}
	var loans [61][]int
	for at, x := range points {
		for _, loan := range m.placed[at] {
			live := false
			for v := range p.Types {
				kept := !setsAt(x, v) && useAt(p, x, v) != impl.UseTake
				live = live || kept && behind[at][v] && slices.Contains(m.in[at][v], loan)
			}
			if live && inTheWay(accessesAt(p, at, x), points[loan]) {
				loans[at] = append(loans[at], loan)
			}
		}
	}
	return loans
}

// modelOfIssues returns the issues of a program whose loans in the way of each point are known.
func modelOfIssues(p impl.Program, points []impl.Point, loans [61][]int) []impl.Issue {
	var not [61][6]bool
	for s := range allValued(p) {
		for v, has := range s.has {
			not[s.at][v] = not[s.at][v] || !has
		}
	}
	var issues []impl.Issue
	for at, x := range points {
		for v := range p.Types {
			if not[at][v] && useAt(p, x, v) != impl.UseNone {
				issues = append(issues, impl.Issue{Point: at, Kind: 1, With: v})
			}
		}
		for _, loan := range loans[at] {
			kind := 2
			if strings.Contains(impl.PointText(points[loan]), "&mut ") {
				kind = 3
			}
			issues = append(issues, impl.Issue{Point: at, Kind: kind, With: loan})
		}
	}
	return issues
}

// smallPrograms returns all programs with four statements out of eight behind the same two.
func smallPrograms(t *testing.T) []impl.Program {
	texts := []string{"c=&b", "d=&mut b", "c=&d", "a=*c", "a=*b", "*d=a", "*b=a", "b=box 2"}
	var programs []impl.Program
	for n := range 8 * 8 * 8 * 8 {
		text := "ibrm:a=1;b=box 0"
		for rest, k := n, 0; k < 4; rest, k = rest/8, k+1 {
			text += ";" + texts[rest%8]
		}
		programs = append(programs, parsed(t, text))
	}
	return programs
}

// checkedPrograms are valid programs, many of which are accepted, and many are not.
func checkedPrograms(t *testing.T) []impl.Program {
	programs := append(mixedPrograms(150), borrowing(350)...)
	for _, p := range programs {
		repaired, _ := impl.RepairProgram(p)
		programs = append(programs, repaired)
	}
	for _, c := range issueCases {
		programs = append(programs, parsed(t, c.text))
	}
	return append(programs, smallPrograms(t)...)
}

func TestIssuesOfManyPrograms(t *testing.T) {
	refused, accepted, both := 0, 0, 0
	for _, p := range checkedPrograms(t) {
		points := impl.PointsOf(p)
		m := modelOfLoans(p, points)
		issues, plain := impl.CheckProgram(p), impl.CheckPlain(p)
		if want := modelOfIssues(p, points, m.conflicts); !slices.Equal(issues, want) {
			t.Fatalf("CheckProgram(%s) = %v, want %v", impl.FormatProgram(p), issues, want)
		}
		if want := modelOfIssues(p, points, plainLoans(p, points, m)); !slices.Equal(plain, want) {
			t.Fatalf("CheckPlain(%s) = %v, want %v", impl.FormatProgram(p), plain, want)
		}
		for _, x := range issues {
			if !slices.Contains(plain, x) {
				t.Fatalf("the plain checker has not found %v of %s", x, impl.FormatProgram(p))
			}
			if got, want := impl.FormatIssue(p, x), issueText(points, x); got != want {
				t.Fatalf("FormatIssue(%s, %v) = %q, want %q", impl.FormatProgram(p), x, got, want)
			}
		}
		if impl.Accepts(p) != (len(issues) == 0) || len(plain) == 0 && !impl.Accepts(p) {
			t.Fatalf("Accepts(%s) = %v", impl.FormatProgram(p), impl.Accepts(p))
		}
		if x, ok := impl.FirstIssue(p); ok != (len(issues) > 0) || ok && x != issues[0] || !ok && x != (impl.Issue{}) {
			t.Fatalf("FirstIssue(%s) = %v, %v", impl.FormatProgram(p), x, ok)
		}
		switch {
		case len(plain) == 0:
			both++
		case len(issues) == 0:
			accepted++
		default:
			refused++
		}
	}
	if refused < 500 || accepted < 500 || both < 500 {
		t.Errorf("%d programs are refused, %d are accepted, and %d by the plain checker, too", refused, accepted, both)
	}
}

// An accepted program uses no variable without a value on a run.
func TestRunsOfAcceptedPrograms(t *testing.T) {
	d := &dice{state: 17}
	for _, p := range borrowing(300) {
		p, _ = impl.RepairProgram(p)
		points := impl.PointsOf(p)
		for range 5 {
			s := valued{}
			path, _ := impl.RunPath(p, d.choices(12), 200)
			for _, at := range path {
				for v := range p.Types {
					if useAt(p, points[at], v) != impl.UseNone && !s.has[v] {
						t.Fatalf("%s uses %d without a value at the point %d of %v", impl.FormatProgram(p), v, at, path)
					}
				}
				s.has = s.step(p, points[at])
			}
		}
	}
}

func TestFormatIssueOfOthers(t *testing.T) {
	p := parsed(t, "ibr:b=box 1;c=&b;drop b;a=*c;a=*b")
	issues := impl.CheckProgram(p)
	if len(issues) != 2 {
		t.Fatalf("CheckProgram = %v", issues)
	}
	for point := -2; point <= 8; point++ {
		for kind := -2; kind <= 5; kind++ {
			for with := -2; with <= 8; with++ {
				x := impl.Issue{Point: point, Kind: kind, With: with}
				if got := impl.FormatIssue(p, x); (got != "") != slices.Contains(issues, x) {
					t.Errorf("FormatIssue(%v) = %q", x, got)
				}
			}
		}
	}
	for _, far := range farIndices {
		for _, x := range []impl.Issue{{Point: far, Kind: 2, With: 1}, {Point: 2, Kind: far, With: 1}, {Point: 2, Kind: 2, With: far}, {Point: far, Kind: far, With: far}} {
			if got := impl.FormatIssue(p, x); got != "" {
				t.Errorf("FormatIssue(%v) = %q", x, got)
			}
		}
	}
	if got := impl.FormatIssue(parsed(t, ":"), impl.Issue{}); got != "" {
		t.Errorf("FormatIssue of a program without statements = %q", got)
	}
}

func TestDropStmt(t *testing.T) {
	for _, c := range []struct {
		text string
		k    int
		want string
	}{
		{"ibr:b=box 1;c=&b;a=*c", 0, "ibr:c=&b;a=*c"},
		{"ibr:b=box 1;c=&b;a=*c", 1, "ibr:b=box 1;a=*c"},
		{"ibr:b=box 1;c=&b;a=*c", 2, "ibr:b=box 1;c=&b"},
		{"i:a=1", 0, "i:"},
		{":loop{}", 0, ":"},
		{"i:if{a=1}{a=2};loop{if{}{a=3}};a=4", 0, "i:loop{if{}{a=3}};a=4"},
		{"i:if{a=1}{a=2};loop{if{}{a=3}};a=4", 1, "i:if{a=1}{a=2};a=4"},
		{"i:if{a=1}{a=2};loop{if{}{a=3}};a=4", 2, "i:if{a=1}{a=2};loop{if{}{a=3}}"},
	} {
		p := parsed(t, c.text)
		if q, ok := impl.DropStmt(p, c.k); !ok || impl.FormatProgram(q) != c.want {
			t.Errorf("DropStmt(%s, %d) = %v, %v, want %s", c.text, c.k, q, ok, c.want)
		}
		for _, far := range append([]int{len(p.Body), len(p.Body) + 1, impl.MaxStmts}, farIndices...) {
			if q, ok := impl.DropStmt(p, far); ok || q.Types != nil || q.Body != nil {
				t.Errorf("DropStmt(%s, %d) = %v, %v", c.text, far, q, ok)
			}
		}
	}
	if q, ok := impl.DropStmt(parsed(t, ":"), 0); ok || q.Types != nil || q.Body != nil {
		t.Errorf("DropStmt of a program without statements = %v, %v", q, ok)
	}
}

func TestDropStmtOfManyPrograms(t *testing.T) {
	for _, p := range mixedPrograms(200) {
		for k := range p.Body {
			want := impl.Program{Types: p.Types}
			for i, s := range p.Body {
				if i != k {
					want.Body = append(want.Body, s)
				}
			}
			if q, ok := impl.DropStmt(p, k); !ok || !impl.ProgramSame(q, want) || !impl.ProgramValid(q) {
				t.Fatalf("DropStmt(%s, %d) = %s, %v", impl.FormatProgram(p), k, impl.FormatProgram(q), ok)
			}
		}
	}
}

func TestRepairProgram(t *testing.T) {
	for _, c := range []struct {
		text, want string
		removed    []int
	}{
		{":", ":", nil},
		{"ibr:b=box 1;c=&b;a=*c;drop b", "ibr:b=box 1;c=&b;a=*c;drop b", nil},
		{"ibr:b=box 1;c=&b;drop b;a=*c;a=*b", "ibr:b=box 1;c=&b;a=*c;a=*b", []int{2}},
		// The only statement, the last one, and all of them.
		{"b:drop a", "b:", []int{0}},
		{"ib:b=box 1;drop b;a=*b", "ib:b=box 1;drop b", []int{2}},
		{"iib:a=b;b=a;drop c;*c=a", "iib:", []int{0, 1, 2, 3}},
		// The point is deep in a statement, in front of others, or behind some.
		{"ib:if{a=*b}{};a=1", "ib:a=1", []int{0}},
		{"ib:a=1;if{}{loop{a=2;drop b}};a=2", "ib:a=1;a=2", []int{1}},
		{"ib:b=box 1;loop{drop b};b=box 2", "ib:b=box 1;b=box 2", []int{1}},
		{"ib:if{a=1}{a=2};loop{if{a=3}{}};a=*b;loop{a=4}", "ib:if{a=1}{a=2};loop{if{a=3}{}};loop{a=4}", []int{2}},
		{"ib:loop{};if{}{};a=*b;loop{if{}{}};if{a=*b}{};a=5", "ib:loop{};if{}{};loop{if{}{}};a=5", []int{2, 4}},
		{"ibr:b=box 1;loop{c=&b;if{b=box 2}{a=*c};a=*c};a=*b", "ibr:b=box 1;a=*b", []int{1}},
		// What is removed makes others wrong: behind it, and in front of it.
		{"ibbr:c=b;d=&c;a=*d;b=box 1", "ibbr:b=box 1", []int{0, 1, 2}},
		{"ibbr:b=box 1;d=&b;drop b;d=&c;a=*d", "ibbr:b=box 1;d=&b;a=*d", []int{3, 2}},
		{"ibbr:a=0;b=box 1;d=&b;a=1;drop b;a=2;d=&c;a=*d;*c=a", "ibbr:a=0;b=box 1;d=&b;a=1;a=2;a=*d", []int{6, 4, 8}},
	} {
		p := parsed(t, c.text)
		q, removed := impl.RepairProgram(p)
		if got := impl.FormatProgram(q); got != c.want || !slices.Equal(removed, c.removed) {
			t.Errorf("RepairProgram(%s) = %s, %v, want %s, %v", c.text, got, removed, c.want, c.removed)
		}
	}
}

// pointsIn returns the number of points of a statement.
func pointsIn(s impl.Stmt) int { return len(flatPoints([]impl.Stmt{s}, 0)) }

// repairedByHand removes one statement after the other, and keeps those that are left with their indices at first.
func repairedByHand(p impl.Program) (impl.Program, []int) {
	left, removed := map[int]impl.Stmt{}, []int{}
	for k, s := range p.Body {
		left[k] = s
	}
	for {
		q := impl.Program{Types: p.Types}
		var at []int
		for k := range p.Body {
			if s, ok := left[k]; ok {
				q.Body = append(q.Body, s)
				at = append(at, slices.Repeat([]int{k}, pointsIn(s))...)
			}
		}
		issues := impl.CheckProgram(q)
		if len(issues) == 0 {
			return q, removed
		}
		removed = append(removed, at[issues[0].Point])
		delete(left, at[issues[0].Point])
	}
}

func TestRepairsOfManyPrograms(t *testing.T) {
	back := 0
	for _, p := range append(mixedPrograms(300), borrowing(300)...) {
		q, removed := impl.RepairProgram(p)
		if !impl.Accepts(q) || len(impl.CheckProgram(q)) != 0 {
			t.Fatalf("RepairProgram(%s) = %s, which is not accepted", impl.FormatProgram(p), impl.FormatProgram(q))
		}
		if want, order := repairedByHand(p); !impl.ProgramSame(q, want) || !slices.Equal(removed, order) {
			t.Fatalf("RepairProgram(%s) = %s, %v, want %s, %v", impl.FormatProgram(p), impl.FormatProgram(q), removed, impl.FormatProgram(want), order)
		}
		if (len(removed) == 0) != impl.Accepts(p) {
			t.Errorf("RepairProgram(%s) removes %v", impl.FormatProgram(p), removed)
		}
		if again, more := impl.RepairProgram(q); !impl.ProgramSame(again, q) || len(more) != 0 {
			t.Errorf("RepairProgram(%s) removes %v again", impl.FormatProgram(q), more)
		}
		if !slices.IsSorted(removed) {
			back++
		}
	}
	if back == 0 {
		t.Error("no repair removes a statement in front of another one that it has removed")
	}
}

func TestMostIssues(t *testing.T) {
	types := []int{impl.TypeMut, impl.TypeMut, impl.TypeMut, impl.TypeMut, impl.TypeMut, impl.TypeInt}
	p := impl.Program{Types: types, Body: slices.Repeat([]impl.Stmt{simple(impl.OpStore, 0, 5, 0)}, impl.MaxStmts)}
	if l := impl.CheckProgram(p); len(l) != 60 || l[59] != (impl.Issue{Point: 29, Kind: 1, With: 5}) {
		t.Errorf("%d issues", len(l))
	}
	if q, removed := impl.RepairProgram(p); len(q.Types) != 6 || len(q.Body) != 0 || len(removed) != 30 || removed[29] != 29 {
		t.Errorf("RepairProgram = %v, %v", q, removed)
	}
	wide := impl.Program{Types: []int{2, 1}, Body: append(slices.Repeat([]impl.Stmt{either(nil, nil)}, 29), simple(impl.OpLoad, 1, 0, 0))}
	if x, ok := impl.FirstIssue(wide); !ok || x != (impl.Issue{Point: 58, Kind: 1, With: 0}) || impl.FormatIssue(wide, x) != "58 b=*a: no value of a" {
		t.Errorf("FirstIssue = %v, %v", x, ok)
	}
	if q, removed := impl.RepairProgram(wide); len(q.Body) != 29 || !slices.Equal(removed, []int{29}) {
		t.Errorf("RepairProgram removes %v", removed)
	}
}

func TestChecksOfInvalidPrograms(t *testing.T) {
	broken := impl.Program{Types: []int{1, 2}, Body: []impl.Stmt{simple(impl.OpLoad, 0, 1, 0), simple(impl.OpDrop, 0, 0, 0)}}
	for i, p := range append(invalidPrograms(), broken) {
		if len(impl.CheckProgram(p))+len(impl.CheckPlain(p)) != 0 || impl.Accepts(p) {
			t.Errorf("the invalid program %d has issues, or is accepted", i)
		}
		if x, ok := impl.FirstIssue(p); ok || x != (impl.Issue{}) {
			t.Errorf("the invalid program %d: FirstIssue = %v, %v", i, x, ok)
		}
		for _, x := range []impl.Issue{{}, {Kind: 1, With: 1}, {Point: 1, Kind: 2}} {
			if s := impl.FormatIssue(p, x); s != "" {
				t.Errorf("the invalid program %d: FormatIssue = %q", i, s)
			}
		}
		if q, ok := impl.DropStmt(p, 0); ok || q.Types != nil || q.Body != nil {
			t.Errorf("the invalid program %d: DropStmt = %v, %v", i, q, ok)
		}
		if q, removed := impl.RepairProgram(p); q.Types != nil || q.Body != nil || len(removed) != 0 {
			t.Errorf("the invalid program %d: RepairProgram = %v, %v", i, q, removed)
		}
	}
}

// scribble overwrites the memory of a program, the unused one of its lists included.
func scribble(p impl.Program) {
	types := p.Types[:cap(p.Types)]
	for i := range types {
		types[i] = 99
	}
	scribbleList(p.Body)
}

func scribbleList(list []impl.Stmt) {
	for _, s := range list {
		scribbleList(s.Then)
		scribbleList(s.Else)
	}
	list = list[:cap(list)]
	for i := range list {
		list[i] = simple(99, 99, 99, 99)
	}
}

func TestChecksShareNoMemory(t *testing.T) {
	for _, text := range []string{
		"ibr:a=0;if{a=1;a=2}{a=3};loop{a=4;if{a=5}{}};b=box 1;c=&b;drop b;a=*c",
		"ibr:a=0;if{a=1;a=2}{a=3};loop{a=4;if{a=5}{}}",
	} {
		p := parsed(t, text)
		repaired, removed := impl.RepairProgram(p)
		again, _ := impl.RepairProgram(p)
		dropped, _ := impl.DropStmt(p, 0)
		other, _ := impl.DropStmt(p, len(p.Body)-1)
		want := []string{impl.FormatProgram(repaired), impl.FormatProgram(other)}
		scribble(dropped)
		scribble(again)
		for i := range removed[:cap(removed)] {
			removed[:cap(removed)][i] = 99
		}
		if got := []string{impl.FormatProgram(repaired), impl.FormatProgram(other)}; !slices.Equal(got, want) {
			t.Errorf("two results share memory: %q", got)
		}
		scribbleList(repaired.Body[1].Then)
		if !reflect.DeepEqual(repaired.Body[1].Else, []impl.Stmt{simple(1, 0, 0, 3)}) {
			t.Errorf("the lists of a result share memory: %v", repaired.Body[1])
		}
		scribble(repaired)
		if got := impl.FormatProgram(p); got != text {
			t.Errorf("a result shares memory with an argument: %q", got)
		}
	}
	p := parsed(t, "ibr:b=box 1;c=&b;drop b;a=*c")
	issues := impl.CheckProgram(p)
	plain := impl.CheckPlain(p)
	issues[0], plain[0] = impl.Issue{}, impl.Issue{}
	if want := []impl.Issue{{Point: 2, Kind: 2, With: 1}}; !slices.Equal(impl.CheckProgram(p), want) || !slices.Equal(impl.CheckPlain(p), want) {
		t.Errorf("second results are %v, %v", impl.CheckProgram(p), impl.CheckPlain(p))
	}
}

// The lists of an argument may share memory, and what is behind their length is neither read nor changed.
func TestChecksKeepArguments(t *testing.T) {
	junk := simple(99, 99, 99, 99)
	list := []impl.Stmt{simple(impl.OpInt, 0, 0, 1), junk}
	body := []impl.Stmt{simple(impl.OpDrop, 1, 0, 0), either(list[:1], list[:1]), loop(list[:1]...), simple(impl.OpDrop, 1, 0, 0), junk}
	types := []int{1, 2, 99}
	p := impl.Program{Types: types[:2], Body: body[:4]}
	before := fmt.Sprint(types, body, list)
	if got := fmt.Sprint(impl.CheckProgram(p), impl.CheckPlain(p)); got != "[{0 1 1} {8 1 1}] [{0 1 1} {8 1 1}]" {
		t.Errorf("CheckProgram, CheckPlain = %s", got)
	}
	repaired, removed := impl.RepairProgram(p)
	if got := impl.FormatProgram(repaired); got != "ib:if{a=1}{a=1};loop{a=1}" || !slices.Equal(removed, []int{0, 3}) {
		t.Errorf("RepairProgram = %s, %v", got, removed)
	}
	repaired.Body[0].Then[0].N = 7
	if got := impl.FormatProgram(repaired); got != "ib:if{a=7}{a=1};loop{a=1}" {
		t.Errorf("the lists of a result share memory: %s", got)
	}
	impl.DropStmt(p, 1)
	if after := fmt.Sprint(types, body, list); after != before {
		t.Errorf("an argument changed: %s", after)
	}
}
