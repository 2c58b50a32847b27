package tests

import (
	"fmt"
	"slices"
	"strings"
	"testing"

	"loop.example/borrowcheck/impl"
)

func TestBoundsOf(t *testing.T) {
	for text, want := range map[string]string{
		":": "[]",
		// Nothing but a loan, or a move of a reference, makes a bound.
		"iibb:a=1;c=box 2;b=a;d=c;a=*d;*d=a;drop d": "[]",
		"ibrm:a=*c;*d=a;a=*d;if{}{};loop{}":         "[]",
		"bb:a=b;b=a;loop{a=b}":                      "[]",
		"br:b=&a":                                   "[{1 0 -1}]",
		"bm:b=&mut a":                               "[{1 0 -1}]",
		"rr:a=b;b=a":                                "[{0 -1 1} {1 -1 0}]",
		"mm:a=b;a=b":                                "[{0 -1 1} {0 -1 1}]",
		// A loan from a reference makes two, the one of the loan first.
		"rr:a=&b":                 "[{0 0 -1} {0 -1 1}]",
		"mr:b=&a":                 "[{1 0 -1} {1 -1 0}]",
		"mm:a=&mut b;b=&mut a":    "[{0 0 -1} {0 -1 1} {1 1 -1} {1 -1 0}]",
		"ibr:b=box 1;c=&b;c=&b":   "[{2 1 -1} {2 2 -1}]",
		"ibmmr:c=&mut b;d=c;e=&d": "[{2 0 -1} {3 -1 2} {4 2 -1} {4 -1 3}]",
		// Points count in the order of the text, in statements in others, too.
		"brr:if{b=&a}{loop{c=b}};b=c":       "[{1 1 -1} {2 -1 1} {1 -1 2}]",
		"brr:loop{if{c=b}{b=&a}};loop{}":    "[{2 -1 1} {1 4 -1}]",
		"bmm:loop{loop{c=b}};b=&mut a":      "[{2 -1 1} {1 5 -1}]",
		"bmm:if{}{};if{b=&mut a}{b=&mut c}": "[{1 3 -1} {1 5 -1} {1 -1 2}]",
	} {
		if got := fmt.Sprint(impl.BoundsOf(parsed(t, text))); got != want {
			t.Errorf("BoundsOf(%s) = %s, want %s", text, got, want)
		}
	}
}

func regionsOf(p impl.Program) [][]int {
	var regions [][]int
	for v := range p.Types {
		regions = append(regions, impl.RegionOf(p, v))
	}
	return regions
}

// regionCases are programs with the regions of their variables, and the issues that CheckRegions finds, those with a + in front that CheckProgram does not.
var regionCases = []struct {
	text, regions string
	issues        []string
}{
	{":", "[]", nil},
	{":if{}{};loop{}", "[]", nil},
	// Variables without a region: those that are no references, and references that get no loan.
	{"ib:b=box 1;a=*b;*b=a;drop b", "[[] []]", nil},
	{"rm:", "[[] []]", nil},
	{"irrr:b=c;c=b;d=b", "[[] [] [] []]", []string{"0 b=c: no value of c"}},
	{"ibbr:b=box 1;c=b;d=&c;a=*d;b=c", "[[] [] [] [2]]", nil},
	{"ibr:b=box 1;c=&b;drop b;a=*c", "[[] [] [1]]", []string{"2 drop b: loan of 1 c=&b"}},
	// A reference that gets two loans one after the other.
	{"ibbr:b=box 1;c=box 2;d=&b;d=&c;drop b;a=*d", "[[] [] [] [2 3]]", []string{"+4 drop b: loan of 2 d=&b"}},
	{"ibbr:b=box 1;c=box 2;d=&b;a=*d;d=&c;drop b;a=*d", "[[] [] [] [2 4]]", []string{"+5 drop b: loan of 2 d=&b"}},
	{"ibbr:b=box 1;c=box 2;d=&b;d=&c;drop c;a=*d", "[[] [] [] [2 3]]", []string{"4 drop c: loan of 3 d=&c"}},
	{"ibbr:b=box 1;c=box 2;d=&b;d=&b;d=&c;drop b;a=*d", "[[] [] [] [2 3 4]]", []string{"+5 drop b: loan of 2 d=&b", "+5 drop b: loan of 3 d=&b"}},
	{"ibbm:b=box 1;c=box 2;d=&mut b;d=&mut c;a=*b;a=*d", "[[] [] [] [2 3]]", []string{"+4 a=*b: loan of 2 d=&mut b"}},
	{"ibbr:b=box 1;c=box 2;d=&b;d=&c;a=*b;a=*d", "[[] [] [] [2 3]]", nil},
	{"ibbmm:b=box 1;c=box 2;d=&mut b;a=*d;d=&mut c;e=&mut b;a=*e;a=*d", "[[] [] [] [2 4] [5]]", []string{"+5 e=&mut b: loan of 2 d=&mut b"}},
	// A region does not change what is placed, what is live, and what a point sets.
	{"ibbr:b=box 1;c=box 2;d=&b;d=&c;drop b;b=box 3;drop b;a=*d", "[[] [] [] [2 3]]", []string{"+4 drop b: loan of 2 d=&b"}},
	{"ibbr:b=box 1;c=box 2;d=&b;d=&c;a=*d;drop b", "[[] [] [] [2 3]]", nil},
	{"ibr:a=1;b=box 1;c=&b;a=*c;*b=a;c=&b;a=*c", "[[] [] [2 5]]", nil},
	{"ibm:b=box 1;c=&mut b;c=&mut b;a=*c", "[[] [] [1 2]]", nil},
	{"ibbr:b=box 1;c=box 2;if{d=&b}{d=&c;drop b;b=box 3};a=*d", "[[] [] [] [3 5]]", nil},
	{"ibbr:b=box 1;c=box 2;loop{if{d=&b}{d=&c;drop b;b=box 3};a=*d}", "[[] [] [] [4 6]]", []string{"+7 drop b: loan of 4 d=&b"}},
	{"ibr:b=box 1;c=&b;loop{a=*c;drop b;b=box 2;c=&b}", "[[] [] [1 6]]", nil},
	// A region is the same at all points: what is taken keeps it, and it has what is set later.
	{"ibmm:b=box 1;c=&mut b;d=c;drop b;a=*c", "[[] [] [1] [1]]", []string{"+3 drop b: loan of 1 c=&mut b", "4 a=*c: no value of c"}},
	{"ibbrr:b=box 1;c=box 2;d=&b;e=&c;a=*e;drop c;a=*d;e=&b;d=e", "[[] [] [] [2 3 7] [3 7]]", []string{"+5 drop c: loan of 3 e=&c"}},
	{"ibbrr:b=box 1;c=box 2;d=&b;e=d;d=&c;drop c;a=*e", "[[] [] [] [2 4] [2 4]]", []string{"+5 drop c: loan of 4 d=&c"}},
	// What has no value comes before the loans at a point.
	{"ibbr:c=box 2;d=&b;d=&c;drop b;a=*d", "[[] [] [] [1 2]]", []string{"1 d=&b: no value of b", "3 drop b: no value of b", "+3 drop b: loan of 1 d=&b"}},
	// A loan of a loan.
	{"ibmm:a=1;b=box 1;c=&mut b;d=&mut c;*d=a;*c=a;drop b", "[[] [] [2] [2 3]]", nil},
	{"ibmm:a=1;b=box 1;c=&mut b;d=&mut c;*c=a;*d=a", "[[] [] [2] [2 3]]", []string{"4 *c=a: loan of 3 d=&mut c"}},
	{"ibbmr:b=box 1;c=box 2;d=&mut b;e=&d;a=*e;e=&c;a=*b;a=*e", "[[] [] [] [2] [2 3 5]]", []string{"+6 a=*b: loan of 2 d=&mut b"}},
	// Regions that depend on each other in a circle, and on one that comes late.
	{"ibbrr:b=box 1;c=box 2;d=&b;e=&c;d=e;e=d;drop b;a=*d", "[[] [] [] [2 3] [2 3]]", []string{"+6 drop b: loan of 2 d=&b"}},
	{"ibrrr:c=d;d=e;e=c;b=box 1;c=&b;a=*d", "[[] [] [4] [4] [4]]", []string{"0 c=d: no value of d", "1 d=e: no value of e"}},
	{"brrr:a=box 1;b=c;c=d;d=&a", "[[] [3] [3] [3]]", []string{"1 b=c: no value of c", "2 c=d: no value of d"}},
	{"brrr:a=box 1;d=c;c=b;b=&a", "[[] [3] [3] [3]]", []string{"1 d=c: no value of c", "2 c=b: no value of b"}},
	{"mm:a=&mut b;b=&mut a", "[[0 1] [0 1]]", []string{"0 a=&mut b: no value of b"}},
	{"bmm:a=box 1;b=&mut a;loop{c=&mut b;b=c};drop a", "[[] [1 3] [1 3]]", nil},
	{"bbmmrr:a=box 1;b=box 2;c=&mut a;d=&mut b;loop{c=d;d=c};e=&d;f=e", "[[] [] [2 3] [2 3] [2 3 8] [2 3 8]]", nil},
}

func TestRegions(t *testing.T) {
	for _, c := range regionCases {
		p := parsed(t, c.text)
		if got := fmt.Sprint(regionsOf(p)); got != c.regions {
			t.Errorf("the regions of %s are %s, want %s", c.text, got, c.regions)
		}
		var got []string
		for _, x := range impl.CheckRegions(p) {
			text := issueText(impl.PointsOf(p), x)
			if !slices.Contains(impl.CheckProgram(p), x) {
				text = "+" + text
			}
			got = append(got, text)
		}
		if !slices.Equal(got, c.issues) {
			t.Errorf("CheckRegions(%s) = %q, want %q", c.text, got, c.issues)
		}
	}
}

func TestOutlives(t *testing.T) {
	for _, c := range []struct {
		text string
		want []string // for each variable, those that it outlives
	}{
		{"ibmmr:b=box 1;c=&mut b;d=c;e=&d", []string{"ab", "ab", "abcd", "abcd", "abcde"}},
		{"ibbrr:d=&b;e=&c", []string{"abc", "abc", "abc", "abcd", "abce"}},
		{"bbrrr:c=&a;d=&b;e=c;e=d", []string{"ab", "ab", "abc", "abd", "abcde"}},
		{"rrr:a=b;b=a", []string{"abc", "abc", "abc"}},
		{"brr:b=&a;b=c;c=b", []string{"a", "abc", "abc"}},
		{":", nil},
	} {
		p := parsed(t, c.text)
		var got []string
		for v := range p.Types {
			text := ""
			for w := -2; w < 8; w++ {
				if impl.Outlives(p, v, w) {
					text += string(rune('a' + w))
				}
			}
			got = append(got, text)
		}
		if !slices.Equal(got, c.want) {
			t.Errorf("Outlives of %s: %q, want %q", c.text, got, c.want)
		}
	}
}

func TestBoundsHold(t *testing.T) {
	few := parsed(t, "ibmmr:b=box 1;c=&mut b;d=c;e=&d")
	circle := parsed(t, "rr:a=b;b=a")
	late := parsed(t, "brr:a=box 1;b=&a;c=b")
	for _, c := range []struct {
		p       impl.Program
		regions [][]int
		want    bool
	}{
		{few, [][]int{nil, nil, {1}, {1}, {3, 1}}, true},
		{few, [][]int{{}, {}, {1}, {1}, {1, 3}}, true},
		{few, [][]int{nil, nil, {1, 1, 1}, {1}, {3, 1, 3, 3}}, true},
		{few, [][]int{nil, nil, {1}, {1, 3}, {1, 3}}, true},
		{few, [][]int{nil, nil, {3, 1}, {1, 3}, {3, 1}}, true},
		// A loan that is missing, at each place.
		{few, [][]int{nil, nil, nil, {1}, {3, 1}}, false},
		{few, [][]int{nil, nil, nil, nil, {3}}, false},
		{few, [][]int{nil, nil, {1}, nil, {3, 1}}, false},
		{few, [][]int{nil, nil, {1}, {1}, {3}}, false},
		{few, [][]int{nil, nil, {1}, {1}, {1}}, false},
		{few, [][]int{nil, nil, {1, 3}, {1}, {3, 1}}, false},
		{few, [][]int{nil, nil, {1}, {3}, {3, 1}}, false},
		{few, [][]int{{1}, {1}, {3, 0, 2}, {1, 3}, {3, 1}}, false},
		// What the regions of variables that are no references have does not matter.
		{few, [][]int{{1, 9}, {-1, 3}, {1}, {1}, {3, 1}}, true},
		// Circles.
		{circle, [][]int{nil, nil}, true},
		{circle, [][]int{{7}, {7}}, true},
		{circle, [][]int{{7, -7}, {-7, 7, -7}}, true},
		{circle, [][]int{{7}, nil}, false},
		{circle, [][]int{nil, {7}}, false},
		{circle, [][]int{{7}, {8}}, false},
		{parsed(t, "mm:a=&mut b;b=&mut a"), [][]int{{0, 1}, {1, 0}}, true},
		{parsed(t, "mm:a=&mut b;b=&mut a"), [][]int{{0}, {1}}, false},
		// A bound without a loan or a variable is not one for the number -1.
		{late, [][]int{nil, {1}, {1}}, true},
		{late, [][]int{nil, {-1}, {-1}}, false},
		{late, [][]int{{1}, nil, {1}}, false},
		{late, [][]int{nil, {1, -1}, {1}}, false},
		// No bounds.
		{parsed(t, ":"), nil, true},
		{parsed(t, ":"), [][]int{}, true},
		{parsed(t, "ibrm:b=box 1"), [][]int{nil, {1}, {2}, {-3}}, true},
	} {
		if got := impl.BoundsHold(c.p, c.regions); got != c.want {
			t.Errorf("BoundsHold(%s, %v) = %v", impl.FormatProgram(c.p), c.regions, got)
		}
	}
}

// Numbers that are no loans go from region to region as loans do.
func TestBoundsHoldForOtherNumbers(t *testing.T) {
	p := parsed(t, "ibmmr:b=box 1;c=&mut b;d=c;e=&d")
	for _, n := range append([]int{-63, -61, 0, 2, 4, 5, 9, 67}, farIndices...) {
		for bits := range 8 {
			regions := [][]int{nil, nil, {1}, {1}, {3, 1}}
			for i := range 3 {
				if bits>>i&1 == 1 {
					regions[2+i] = append(regions[2+i], n)
				}
			}
			want := bits == 0 || bits == 4 || bits == 6 || bits == 7
			if got := impl.BoundsHold(p, regions); got != want {
				t.Errorf("BoundsHold(%v) = %v", regions, got)
			}
		}
		if n != 1 && impl.BoundsHold(p, [][]int{nil, nil, {n}, {n}, {3, n}}) {
			t.Errorf("%d counts as the loan 1", n)
		}
		if n != 3 && impl.BoundsHold(p, [][]int{nil, nil, {1}, {1}, {1, n}}) {
			t.Errorf("%d counts as the loan 3", n)
		}
	}
}

func TestBoundsHoldForOtherRows(t *testing.T) {
	for _, c := range regionCases {
		p := parsed(t, c.text)
		regions := regionsOf(p)
		if !impl.BoundsHold(p, regions) {
			t.Errorf("BoundsHold(%s, %v) = false", c.text, regions)
		}
		more := append(slices.Clone(regions), nil)
		if impl.BoundsHold(p, more) || impl.BoundsHold(p, append(more, []int{1})) {
			t.Errorf("the bounds of %s hold for rows that are too many", c.text)
		}
		for short := range regions {
			if impl.BoundsHold(p, regions[:short]) {
				t.Errorf("the bounds of %s hold for %d rows", c.text, short)
			}
		}
	}
}

func TestLongRegions(t *testing.T) {
	p := parsed(t, "rrr:a=b;b=c;c=a")
	var up, down []int
	for n := range 100000 {
		up = append(up, n)
		down = append(down, 99999-n)
	}
	if !impl.BoundsHold(p, [][]int{up, down, up}) || impl.BoundsHold(p, [][]int{up, down[1:], up}) || impl.BoundsHold(p, [][]int{up[1:], down, up}) {
		t.Error("BoundsHold is wrong for long regions")
	}
}

// modelOfBounds tells the bounds by the texts of the points.
func modelOfBounds(p impl.Program, points []impl.Point) []impl.Bound {
	var bounds []impl.Bound
	for at, x := range points {
		lends := strings.Contains(impl.PointText(x), "&")
		if lends {
			bounds = append(bounds, impl.Bound{Var: x.X, Loan: at, From: -1})
		}
		if (lends || x.Op == impl.OpMove) && impl.IsReference(p.Types[x.Y]) {
			bounds = append(bounds, impl.Bound{Var: x.X, Loan: -1, From: x.Y})
		}
	}
	return bounds
}

// modelOfRegions follows each loan from variable to variable, in steps of one bound.
func modelOfRegions(p impl.Program, bounds []impl.Bound) [][]int {
	var leads [6][6]bool
	for v := range leads {
		leads[v][v] = true
	}
	for range leads {
		for _, b := range bounds {
			for v := range leads {
				leads[v][b.Var] = leads[v][b.Var] || b.From >= 0 && leads[v][b.From]
			}
		}
	}
	regions := make([][]int, len(p.Types))
	for v := range regions {
		for _, b := range bounds {
			if b.From < 0 && leads[b.Var][v] {
				regions[v] = append(regions[v], b.Loan)
			}
		}
	}
	return regions
}

func hasAll(list, part []int) bool {
	return !slices.ContainsFunc(part, func(n int) bool { return !slices.Contains(list, n) })
}

func modelOfHolding(bounds []impl.Bound, regions [][]int) bool {
	for _, b := range bounds {
		needs := []int{b.Loan}
		if b.From >= 0 {
			needs = regions[b.From]
		}
		if !hasAll(regions[b.Var], needs) {
			return false
		}
	}
	return true
}

// regionLoans returns, for each point, the loans in its way, if values come from their regions.
func regionLoans(p impl.Program, points []impl.Point, m *lentLists, regions [][]int) [61][]int {
	var loans [61][]int
	for at, x := range points {
		var live []int
		for v := range p.Types {
			if !setsAt(x, v) && useAt(p, x, v) != impl.UseTake && usedBehind(p, points, at, v) {
				live = append(live, regions[v]...)
			}
		}
		for _, loan := range m.placed[at] {
			if slices.Contains(live, loan) && inTheWay(accessesAt(p, at, x), points[loan]) {
				loans[at] = append(loans[at], loan)
			}
		}
	}
	return loans
}

// twoBoxes returns programs with references to one of two boxes and then to the other one, with and without repair.
func twoBoxes(t *testing.T, count int) []impl.Program {
	texts := []string{"d=&b", "d=&c", "f=&mut b", "f=&mut c", "e=d", "d=e", "e=&f", "a=*d", "a=*e", "*f=a", "*b=a", "*c=a", "b=box 3", "c=b", "b=c"}
	d := &dice{state: 47}
	var programs []impl.Program
	for range count {
		text := "ibbrrm:a=1;b=box 0;c=box 1"
		for range 12 {
			text += ";" + texts[d.upTo(len(texts))]
		}
		p := parsed(t, text)
		repaired, _ := impl.RepairProgram(p)
		programs = append(programs, p, repaired)
	}
	return programs
}

// regionPrograms are valid programs, some of which regions accept, some of which only the checker accepts, and some of which it refuses.
func regionPrograms(t *testing.T) []impl.Program {
	programs := checkedPrograms(t)
	for _, c := range regionCases {
		programs = append(programs, parsed(t, c.text))
	}
	programs = append(programs, twoBoxes(t, 2500)...)
	return append(programs, grown(100, impl.Accepts)...)
}

func TestRegionsOfManyPrograms(t *testing.T) {
	accepted, only, refused := 0, 0, 0
	for _, p := range regionPrograms(t) {
		text, points := impl.FormatProgram(p), impl.PointsOf(p)
		bounds := modelOfBounds(p, points)
		if got := impl.BoundsOf(p); !slices.Equal(got, bounds) {
			t.Fatalf("BoundsOf(%s) = %v, want %v", text, got, bounds)
		}
		regions := modelOfRegions(p, bounds)
		for v := range regions {
			if got := impl.RegionOf(p, v); !slices.Equal(got, regions[v]) {
				t.Fatalf("RegionOf(%s, %d) = %v, want %v", text, v, got, regions[v])
			}
			for w := range regions {
				if got := impl.Outlives(p, v, w); got != hasAll(regions[v], regions[w]) {
					t.Fatalf("Outlives(%s, %d, %d) = %v", text, v, w, got)
				}
			}
		}
		want := modelOfIssues(p, points, regionLoans(p, points, modelOfLoans(p, points), regions))
		if got := impl.CheckRegions(p); !slices.Equal(got, want) {
			t.Fatalf("CheckRegions(%s) = %v, want %v", text, got, want)
		}
		if after := impl.FormatProgram(p); after != text {
			t.Fatalf("an argument changed: %s", text)
		}
		switch {
		case len(want) == 0:
			accepted++
		case impl.Accepts(p):
			only++
		default:
			refused++
		}
	}
	if accepted < 500 || only < 100 || refused < 500 {
		t.Errorf("regions accept %d programs, only the checker %d, and none of both %d", accepted, only, refused)
	}
}

// CheckRegions finds all issues that CheckProgram does, so that what it accepts is accepted, and no run of it goes wrong.
func TestWhatRegionsAcceptIsAccepted(t *testing.T) {
	byRegions := func(p impl.Program) bool { return impl.ProgramValid(p) && len(impl.CheckRegions(p)) == 0 }
	accepted, several := 0, 0
	for _, p := range append(regionPrograms(t), grown(150, byRegions)...) {
		text, issues := impl.FormatProgram(p), impl.CheckRegions(p)
		for _, x := range impl.CheckProgram(p) {
			if !slices.Contains(issues, x) {
				t.Fatalf("CheckRegions(%s) does not find %v", text, x)
			}
		}
		if len(issues) > 0 {
			continue
		}
		if accepted++; !impl.Accepts(p) || !impl.SafeUpTo(p, 3) {
			t.Fatalf("regions accept %s, but the checker does not, or it goes wrong", text)
		}
		if slices.ContainsFunc(regionsOf(p), func(l []int) bool { return len(l) > 1 }) {
			several++
		}
	}
	if accepted < 500 || several < 200 {
		t.Errorf("regions accept %d programs, %d of which have a region with several loans", accepted, several)
	}
}

// At each point, the region of a variable has all loans from which its value comes.
func TestLoansAreInRegions(t *testing.T) {
	loans := 0
	for _, p := range append(borrowing(200), twoBoxes(t, 100)...) {
		regions := regionsOf(p)
		for at := range impl.PointsOf(p) {
			for v := range p.Types {
				l := impl.LoansIn(p, at, v)
				if !hasAll(regions[v], l) {
					t.Fatalf("LoansIn(%s, %d, %d) = %v, but the region is %v", impl.FormatProgram(p), at, v, l, regions[v])
				}
				loans += len(l)
			}
		}
	}
	if loans < 1000 {
		t.Errorf("values come from only %d loans", loans)
	}
}

// eachRegions visits all ways to give some loans to each reference.
func eachRegions(types, loans []int, visit func(regions [][]int)) {
	width := len(loans)
	all := 1
	for _, kind := range types {
		if impl.IsReference(kind) {
			all <<= width
		}
	}
	for bits := range all {
		regions := make([][]int, len(types))
		for v, kind := range types {
			for i := 0; i < width && impl.IsReference(kind); i++ {
				if bits&1 == 1 {
					regions[v] = append(regions[v], loans[width-1-i])
				}
				bits >>= 1
			}
		}
		visit(regions)
	}
}

// Of all regions with which the bounds hold, the least ones are in all others.
func TestRegionsAreTheLeast(t *testing.T) {
	tried := 0
	for _, p := range append(regionPrograms(t), borrowing(2000)...) {
		bounds := impl.BoundsOf(p)
		var loans []int
		for _, l := range impl.LoansOf(p) {
			loans = append(loans, l.Point)
		}
		references := 0
		for _, kind := range p.Types {
			if impl.IsReference(kind) {
				references++
			}
		}
		if size := references * len(loans); size > 9 || len(bounds) < len(loans)+2 {
			continue
		}
		tried++
		text, least, found := impl.FormatProgram(p), regionsOf(p), false
		eachRegions(p.Types, loans, func(regions [][]int) {
			holds := impl.BoundsHold(p, regions)
			if holds != modelOfHolding(bounds, regions) {
				t.Fatalf("BoundsHold(%s, %v) = %v", text, regions, holds)
			}
			same := true
			for v := range regions {
				if holds && !hasAll(regions[v], least[v]) {
					t.Fatalf("the bounds of %s hold for %v, which does not have all of %v", text, regions, least)
				}
				same = same && hasAll(least[v], regions[v]) && len(least[v]) == len(regions[v])
			}
			found = found || same && holds
		})
		if !found {
			t.Fatalf("the bounds of %s do not hold for %v", text, least)
		}
	}
	if tried < 100 {
		t.Errorf("only %d programs are tried", tried)
	}
}

// One number more or less in some region can break a bound.
func TestBoundsHoldNearTheLeastRegions(t *testing.T) {
	d := &dice{state: 43}
	holding, broken := 0, 0
	for _, p := range borrowing(400) {
		bounds := impl.BoundsOf(p)
		for range 20 {
			regions := regionsOf(p)
			for range d.upTo(4) {
				v, n := d.upTo(len(regions)), d.upTo(64)-2
				if i := slices.Index(regions[v], n); i >= 0 {
					regions[v] = slices.Delete(regions[v], i, i+1)
				} else {
					regions[v] = slices.Insert(regions[v], d.upTo(len(regions[v])+1), n)
				}
			}
			got := impl.BoundsHold(p, regions)
			if got != modelOfHolding(bounds, regions) {
				t.Fatalf("BoundsHold(%s, %v) = %v", impl.FormatProgram(p), regions, got)
			}
			if got {
				holding++
			} else {
				broken++
			}
		}
	}
	if holding < 500 || broken < 500 {
		t.Errorf("bounds hold %d times, and are broken %d times", holding, broken)
	}
}

func TestRegionsThatAreNotThere(t *testing.T) {
	broken := impl.Program{Types: []int{2, 4}, Body: []impl.Stmt{simple(impl.OpBorrow, 1, 0, 0), simple(impl.OpDrop, 1, 0, 0)}}
	for i, p := range append(invalidPrograms(), broken) {
		if len(impl.BoundsOf(p))+len(impl.CheckRegions(p)) != 0 {
			t.Errorf("the invalid program %d has bounds, or issues", i)
		}
		for v := -1; v < 8; v++ {
			if l := impl.RegionOf(p, v); len(l) != 0 || impl.Outlives(p, v, v) || impl.Outlives(p, 0, v) || impl.Outlives(p, v, 0) {
				t.Errorf("the invalid program %d has a region: %v", i, l)
			}
		}
		if impl.BoundsHold(p, nil) || impl.BoundsHold(p, make([][]int, len(p.Types))) || impl.BoundsHold(p, slices.Repeat([][]int{{0}}, len(p.Types))) {
			t.Errorf("the bounds of the invalid program %d hold", i)
		}
	}
	p := parsed(t, "ibr:b=box 1;c=&b;drop b;a=*c")
	for _, far := range append([]int{3, 4, 5, 6}, farIndices...) {
		if l := impl.RegionOf(p, far); len(l) != 0 {
			t.Errorf("RegionOf(%d) = %v", far, l)
		}
		for v := range 3 {
			if impl.Outlives(p, v, far) || impl.Outlives(p, far, v) {
				t.Errorf("%d outlives %d, or the other way round", far, v)
			}
		}
		if impl.Outlives(p, far, far) {
			t.Errorf("%d outlives itself", far)
		}
	}
}

func TestMostRegions(t *testing.T) {
	types := []int{impl.TypeMut, impl.TypeMut}
	p := impl.Program{Types: types, Body: slices.Repeat([]impl.Stmt{simple(5, 0, 1, 0), simple(5, 1, 0, 0)}, 15)}
	if b, l := impl.BoundsOf(p), impl.RegionOf(p, 0); len(b) != 60 || b[58] != (impl.Bound{Var: 1, Loan: 29, From: -1}) || len(l) != 30 || l[29] != 29 {
		t.Errorf("%d bounds, RegionOf = %v", len(b), l)
	}
	list := slices.Repeat([]impl.Stmt{either(nil, nil)}, impl.MaxStmts-3)
	list = append(list, simple(impl.OpBorrow, 5, 4, 0), simple(impl.OpLoad, 0, 4, 0), simple(impl.OpLoad, 0, 5, 0))
	last := impl.Program{Types: []int{1, 1, 1, 1, 2, 4}, Body: list}
	if l := impl.RegionOf(last, 5); !slices.Equal(l, []int{54}) || !impl.BoundsHold(last, [][]int{5: {54}}) || impl.BoundsHold(last, [][]int{5: {53, -10, 118}}) {
		t.Errorf("RegionOf = %v", l)
	}
	if l := impl.CheckRegions(last); !slices.Contains(l, impl.Issue{Point: 55, Kind: impl.IssueUnique, With: 54}) {
		t.Errorf("CheckRegions = %v", l)
	}
	for _, text := range []string{"rrrrrr:a=b;b=c;c=d;d=e;e=f;f=&a", "rrrrrr:b=a;c=b;d=c;e=d;f=e;a=&f"} {
		if got := fmt.Sprint(regionsOf(parsed(t, text))); got != "[[5] [5] [5] [5] [5] [5]]" {
			t.Errorf("the regions of %s are %s", text, got)
		}
	}
}

func TestRegionsShareNoMemory(t *testing.T) {
	text := "ibbr:b=box 1;c=box 2;d=&b;d=&c;drop b;a=*d"
	p := parsed(t, text)
	region, other := impl.RegionOf(p, 3), impl.RegionOf(p, 3)
	bounds, issues := impl.BoundsOf(p), impl.CheckRegions(p)
	for i := range region[:cap(region)] {
		region[:cap(region)][i] = 99
	}
	for i := range bounds[:cap(bounds)] {
		bounds[:cap(bounds)][i] = impl.Bound{Var: 99}
	}
	for i := range issues[:cap(issues)] {
		issues[:cap(issues)][i] = impl.Issue{Point: 99}
	}
	if again := impl.RegionOf(p, 3); !slices.Equal(other, []int{2, 3}) || !slices.Equal(again, other) {
		t.Errorf("two results share memory: %v, %v", other, again)
	}
	if got := fmt.Sprint(impl.BoundsOf(p), impl.CheckRegions(p)); got != "[{3 2 -1} {3 3 -1}] [{4 2 2}]" {
		t.Errorf("second results are %s", got)
	}
	if got := impl.FormatProgram(p); got != text {
		t.Errorf("the program changed: %s", got)
	}
}

// Rows may share memory, and what is behind their length is neither read nor changed.
func TestBoundsHoldKeepsArguments(t *testing.T) {
	p := parsed(t, "ibmmr:b=box 1;c=&mut b;d=c;e=&d")
	list := []int{3, 1, 9, 1}
	rows := [][]int{list[:0], list[:0], list[1:2], list[1:2], list[:2], list}
	if !impl.BoundsHold(p, rows[:5]) {
		t.Error("BoundsHold = false")
	}
	rows[4] = list[:1]
	if impl.BoundsHold(p, rows[:5]) {
		t.Error("BoundsHold reads what is behind the length of a row")
	}
	if fmt.Sprint(list, rows) != "[3 1 9 1] [[] [] [1] [1] [3] [3 1 9 1]]" {
		t.Errorf("an argument changed: %v, %v", list, rows)
	}
}
