package tests

import (
	"fmt"
	"slices"
	"strings"
	"testing"

	"loop.example/borrowcheck/impl"
)

// ofVar returns a function of a variable as one for each point.
func ofVar(of func(p impl.Program, at int, v int) []int, v int) func(p impl.Program, at int) []int {
	return func(p impl.Program, at int) []int { return of(p, at, v) }
}

func TestCellsAtEachPoint(t *testing.T) {
	for _, c := range []struct {
		text, v, want string
	}{
		{"b:a=box 1", "a", "- 0"},
		{"ibbr:b=box 1;c=box 2;if{d=&b}{d=&c};a=*d", "d", "- - - - 0 - 0,1 0,1"},
		{"ibbr:b=box 1;c=box 2;if{d=&b}{};a=*d", "d", "- - - - 0 0 0"},
		{"ibbr:b=box 1;c=box 2;d=&b;if{}{d=&c};a=*d", "d", "- - - 0 0 0 0,1 0,1"},
		// A box that is moved: the other one reaches its cell, and it reaches none, until it gets a value again.
		{"bb:a=box 1;b=a;a=box 2", "a", "- 0 - 2"},
		{"bb:a=box 1;b=a;a=box 2", "b", "- - 0 0"},
		{"bb:a=box 1;b=a;a=b", "a", "- 0 - 0"},
		{"bb:a=box 1;b=a;a=b", "b", "- - 0 -"},
		{"bb:a=box 1;b=box 2;b=a", "b", "- - 1 0"},
		{"bb:a=box 1;b=box 2;if{b=a}{a=b}", "a", "- 0 0 0 - 0 1"},
		{"bb:a=box 1;b=box 2;if{b=a}{a=b}", "b", "- - 1 1 0 1 0"},
		{"bbb:a=box 1;b=box 2;loop{c=a;a=b;b=c}", "a", "- 0 0,1 0,1 - 0,1 0,1 0,1"},
		{"bbb:a=box 1;b=box 2;loop{c=a;a=b;b=c}", "c", "- - - - 0,1 0,1 - -"},
		// A box that another value is moved into, or that is made again, reaches the old cell no more.
		{"b:a=box 1;a=box 2", "a", "- 0 1"},
		{"br:a=box 1;b=&a;a=box 2", "b", "- - 0 0"},
		{"bbr:a=box 1;b=box 2;c=&a;a=b", "c", "- - - 0 0"},
		{"bbr:a=box 1;b=box 2;c=&a;a=b", "a", "- 0 0 0 1"},
		// What is dropped reaches nothing, but a reference to it still reaches its cell.
		{"br:a=box 1;b=&a;drop a", "a", "- 0 0 -"},
		{"br:a=box 1;b=&a;drop a", "b", "- - 0 0"},
		{"b:a=box 1;if{drop a}{}", "a", "- 0 0 - 0"},
		{"b:a=box 1;loop{drop a}", "a", "- 0 0 - 0"},
		// A unique reference that is moved, and a shared one that is read.
		{"bmm:a=box 1;b=&mut a;c=b", "a", "- 0 0 0"},
		{"bmm:a=box 1;b=&mut a;c=b", "b", "- - 0 -"},
		{"bmm:a=box 1;b=&mut a;c=b", "c", "- - - 0"},
		{"brr:a=box 1;b=&a;c=b", "b", "- - 0 0"},
		{"brr:a=box 1;b=&a;c=b", "c", "- - - 0"},
		// A loan of a loan reaches what this reaches before, not what it reaches later.
		{"bbmr:a=box 1;b=box 2;c=&mut a;d=&c;c=&mut b", "d", "- - - - 0 0"},
		{"bbmr:a=box 1;b=box 2;c=&mut a;d=&c;c=&mut b", "c", "- - - 0 0 1"},
		{"bmm:a=box 1;b=&mut a;c=&mut b;a=box 2;b=&mut c", "b", "- - 0 0 0 0"},
		// A loop that makes a cell again, and one that comes back to the first point.
		{"b:loop{a=box 1}", "a", "1 1 1 1"},
		{"bb:loop{b=a;a=box 1}", "a", "2 2 - 2 2"},
		{"bb:loop{b=a;a=box 1}", "b", "2 2 2 2 2"},
		{"br:a=box 1;loop{b=&a;a=box 2}", "a", "- 0,3 0,3 0,3 3 0,3"},
		{"br:a=box 1;loop{b=&a;a=box 2}", "b", "- 0,3 0,3 0,3 0,3 0,3"},
		{"brr:a=box 1;b=&a;loop{c=b;a=box 2;b=&a}", "c", "- - 0,4 0,4 0,4 0,4 0,4 0,4"},
		{"brr:a=box 1;b=&a;loop{c=b;a=box 2;b=&a}", "b", "- - 0,4 0,4 0,4 0,4 4 0,4"},
		{"b:loop{loop{a=box 1};a=box 2}", "a", "4 2,4 2,4 2 2,4 4 4"},
		// What comes from no value reaches nothing, though it was set.
		{"bb:a=b;b=box 1", "a", "- - -"},
		{"bb:a=box 1;a=b", "a", "- 0 -"},
		{"br:a=box 1;drop a;b=&a", "b", "- - - -"},
		{"br:a=box 1;b=&a;if{b=&a}{drop a;b=&a}", "b", "- - 0 0 0 0 0 0"},
		{"br:a=box 1;b=&a;if{b=&a;drop a}{drop a;b=&a};if{a=box 2}{};b=&a", "b", "- - 0 0 0 0 0 0 0 0 0 0 9"},
		{"rr:a=b;b=a", "a", "- - -"},
		{"brr:if{a=box 1}{};b=&a", "b", "- - - - 1"},
		{"mm:loop{a=&mut b;b=&mut a}", "a", "- - - - -"},
		// Numbers reach nothing, and what stands in a cell does not matter.
		{"ib:a=1;b=box 2;a=*b;*b=a", "a", "- - - - -"},
		{"ib:a=1;b=box 2;a=*b;*b=a", "b", "- - 1 1 1"},
		{"ii:a=1;b=a", "b", "- - -"},
	} {
		p := parsed(t, c.text)
		if got := numbersAtPoints(p, ofVar(impl.CellsOf, int(c.v[0]-'a'))); got != c.want {
			t.Errorf("CellsOf %s of %s: %s, want %s", c.v, c.text, got, c.want)
		}
	}
}

func TestMayAlias(t *testing.T) {
	for _, c := range []struct {
		text string
		at   int
		want string // the pairs of variables that may reach the same cell
	}{
		{"ibbr:b=box 1;c=box 2;if{d=&b}{d=&c};a=*d", 6, "bb bd cc cd dd"},
		{"ibbr:b=box 1;c=box 2;if{d=&b}{d=&c};a=*d", 4, "bb bd cc dd"},
		{"ibbr:b=box 1;c=box 2;if{d=&b}{d=&c};a=*d", 2, "bb cc"},
		{"ibbr:b=box 1;c=box 2;if{d=&b}{d=&c};a=*d", 0, ""},
		// What has no value reaches nothing, not even what it reaches itself.
		{"bb:a=box 1;b=a", 1, "aa"},
		{"bb:a=box 1;b=a", 2, "bb"},
		{"bbr:a=box 1;c=&a;b=a", 3, "bb bc cc"},
		{"bbr:a=box 1;c=&a;a=box 2", 3, "aa cc"},
		{"br:a=box 1;b=&a;drop a", 3, "bb"},
		{"ii:a=1;b=a", 2, ""},
		{"iirr:a=1;b=1;c=d;d=c", 4, ""},
		// Each of two lists of loans can lead to one of the same cells.
		{"bbbrr:a=box 1;b=box 2;c=box 3;if{d=&a;e=&c}{d=&b;e=&a}", 9, "aa ad ae bb bd cc ce dd de ee"},
		{"bbrr:a=box 1;b=box 2;if{c=&a}{c=&b};if{d=&a}{d=&b}", 10, "aa ac ad bb bc bd cc cd dd"},
		{"bbmm:a=box 1;b=box 2;c=&mut a;d=&mut b", 4, "aa ac bb bd cc dd"},
		{"bmm:a=box 1;b=&mut a;c=&mut b", 3, "aa ab ac bb bc cc"},
		// A loop makes a cell again at the same point.
		{"bb:loop{b=a;a=box 1}", 1, "aa ab bb"},
		{"bb:loop{b=a;a=box 1}", 2, "bb"},
		{"bb:loop{b=a;a=box 1}", 4, "aa ab bb"},
		{"bb:b=a;a=box 1", 2, "aa"},
	} {
		p := parsed(t, c.text)
		var pairs []string
		for v := range 6 {
			for w := range 6 {
				may := impl.MayAlias(p, c.at, v, w)
				if may != impl.MayAlias(p, c.at, w, v) {
					t.Errorf("%s at %d: %d and %d are not the same as %d and %d", c.text, c.at, v, w, w, v)
				}
				if may && v <= w {
					pairs = append(pairs, string([]byte{byte('a' + v), byte('a' + w)}))
				}
			}
		}
		if got := strings.Join(pairs, " "); got != c.want {
			t.Errorf("MayAlias of %s at %d: %s, want %s", c.text, c.at, got, c.want)
		}
	}
}

// loaded are the numbers that can be loaded, as numbersAtPoints writes them.
const loaded = "0,1,2,3,4,5,6,7,8,9"

func TestNumbersAtEachPoint(t *testing.T) {
	for _, c := range []struct {
		text, v, want string
	}{
		{"i:a=0", "a", "- 0"},
		{"i:a=9;a=8;a=0", "a", "- 9 8 0"},
		{"ii:a=3;if{b=a}{b=4};a=b;loop{a=3}", "a", "- 3 3 3 3 3 3,4 3,4 3 3,4"},
		{"ii:a=3;if{b=a}{b=4};a=b;loop{a=3}", "b", "- - - 3 - 3,4 3,4 3,4 3,4 3,4"},
		// A number that has no value on some way has none of it there.
		{"i:if{a=5}{}", "a", "- - 5 5"},
		{"i:if{a=5}{a=5}", "a", "- - 5 - 5"},
		{"i:if{a=5}{a=6}", "a", "- - 5 - 5,6"},
		{"i:a=7;if{a=5}{}", "a", "- 7 7 5 5,7"},
		{"i:loop{a=2}", "a", "2 2 2 2"},
		{"i:a=1;loop{a=2}", "a", "- 1,2 1,2 2 1,2"},
		{"i:a=1;loop{loop{a=2};a=3}", "a", "- 1,3 1,2,3 1,2,3 2 1,2,3 3 1,3"},
		// A number is read, not taken, and does not change with the one from which it came.
		{"ii:a=1;b=a;a=2", "a", "- 1 1 2"},
		{"ii:a=1;b=a;a=2", "b", "- - 1 1"},
		{"ii:a=1;b=2;loop{a=b;b=3}", "a", "- 1 1,2,3 1,2,3 2,3 2,3 1,2,3"},
		{"iii:a=1;b=2;c=3;loop{a=b;b=c}", "a", "- 1 1 1,2,3 1,2,3 2,3 2,3 1,2,3"},
		{"iii:a=1;b=2;loop{c=a;a=b;b=c}", "c", "- - 1,2 1,2 1,2 1,2 1,2 1,2"},
		{"ii:a=b", "a", "- -"},
		{"ii:a=1;a=b", "a", "- 1 -"},
		{"ii:a=b;b=a", "b", "- - -"},
		// A number that is loaded can be any one, whatever stands in the cell, and whether there is one.
		{"ib:b=box 4;a=*b", "a", "- - " + loaded},
		{"ib:a=1;b=box 4;a=*b;a=2", "a", "- 1 1 " + loaded + " 2"},
		{"ib:a=*b", "a", "- " + loaded},
		{"iib:c=box 4;a=*c;b=a;a=1", "b", "- - - " + loaded + " " + loaded},
		{"iib:c=box 4;a=*c;b=a;a=1", "a", "- - " + loaded + " " + loaded + " 1"},
		{"ir:if{a=*b}{a=3}", "a", "- - " + loaded + " - " + loaded},
		{"im:loop{a=*b;a=3}", "a", "3 3 " + loaded + " 3 3"},
		// What a point stores, or uses in other ways, it does not set.
		{"ib:a=4;b=box 1;*b=a;drop b", "a", "- 4 4 4 4"},
		// Only numbers have numbers.
		{"ib:b=box 4;a=*b", "b", "- - -"},
		{"bb:a=box 4;b=a", "b", "- - -"},
		{"br:a=box 4;b=&a", "b", "- - -"},
		{"bm:a=box 4;b=&mut a", "b", "- - -"},
	} {
		p := parsed(t, c.text)
		v := int(c.v[0] - 'a')
		if got := numbersAtPoints(p, ofVar(impl.NumbersOf, v)); got != c.want {
			t.Errorf("NumbersOf %s of %s: %s, want %s", c.v, c.text, got, c.want)
		}
		for at, text := range strings.Split(c.want, " ") {
			n, ok := impl.NumberOf(p, at, v)
			if only := text != "-" && len(text) == 1; ok != only || only && fmt.Sprint(n) != text || !only && n != 0 {
				t.Errorf("NumberOf(%s, %d, %s) = %d, %v, want the one of %s", c.text, at, c.v, n, ok, text)
			}
		}
	}
}

func TestSettersAtEachPoint(t *testing.T) {
	for _, c := range []struct {
		text, v, want string
	}{
		{"ii:a=3;if{b=a}{b=4};a=b;loop{a=3}", "a", "- 0 0 0 0 0 5,7 5,7 7 5,7"},
		{"ii:a=3;if{b=a}{b=4};a=b;loop{a=3}", "b", "- - - 2 - 2,4 2,4 2,4 2,4 2,4"},
		{"i:a=1;a=1", "a", "- 0 1"},
		{"i:if{a=1}{}", "a", "- - 1 1"},
		{"i:a=1;if{}{a=1}", "a", "- 0 0 0 0,3"},
		// Each kind of point that sets a variable, and those that do not.
		{"ibrm:a=1;b=box 2;c=&b;d=&mut b;a=*d;*d=a;*b=a;drop b", "a", "- 0 0 0 0 4 4 4 4"},
		{"ibrm:a=1;b=box 2;c=&b;d=&mut b;a=*d;*d=a;*b=a;drop b", "b", "- - 1 1 1 1 1 1 -"},
		{"ibrm:a=1;b=box 2;c=&b;d=&mut b;a=*d;*d=a;*b=a;drop b", "c", "- - - 2 2 2 2 2 2"},
		{"ibrm:a=1;b=box 2;c=&b;d=&mut b;a=*d;*d=a;*b=a;drop b", "d", "- - - - 3 3 3 3 3"},
		// What is taken was set by nothing, whatever is moved; what is read keeps its setter.
		{"bb:a=box 1;b=a;a=b", "a", "- 0 - 2"},
		{"bb:a=box 1;b=a;a=b", "b", "- - 1 -"},
		{"bmm:b=&mut a;c=b;b=c", "b", "- 0 - 2"},
		{"brr:b=&a;c=b;b=c", "b", "- 0 0 2"},
		{"ii:a=1;b=a;a=b", "a", "- 0 0 2"},
		{"b:a=box 1;if{drop a}{a=box 2}", "a", "- 0 0 - 0 4"},
		{"b:a=box 1;if{drop a}{};a=box 2", "a", "- 0 0 - 0 4"},
		{"bb:a=box 1;loop{b=a;a=box 2;drop b}", "a", "- 0,3 0,3 - 3 3 0,3"},
		{"bb:a=box 1;loop{b=a;a=box 2;drop b}", "b", "- - - 2 2 - -"},
		// A loop comes back to its setters, and to the first point.
		{"i:loop{a=1;a=2}", "a", "2 2 1 2 2"},
		{"i:loop{loop{a=1};a=2}", "a", "4 2,4 2,4 2 2,4 4 4"},
		{"ii:loop{if{a=1}{b=2}}", "a", "2 2 2 2 2 2 2"},
		// A point sets a variable with what has no value, too.
		{"ii:a=b", "a", "- 0"},
		{"bb:a=b;b=a", "b", "- - 1"},
	} {
		p := parsed(t, c.text)
		if got := numbersAtPoints(p, ofVar(impl.SettersOf, int(c.v[0]-'a'))); got != c.want {
			t.Errorf("SettersOf %s of %s: %s, want %s", c.v, c.text, got, c.want)
		}
	}
}

func TestUsersOfEachPoint(t *testing.T) {
	for text, want := range map[string]string{
		":":                                 "-",
		"i:a=1":                             "- -",
		"ii:a=1;b=a;a=2;b=a":                "1 - 3 - -",
		"ii:a=3;if{b=a}{b=4};a=b;loop{a=3}": "2 - 5 - 5 - - - - -",
		"ibbr:b=box 1;c=box 2;if{d=&b}{d=&c};a=*d": "3 5 - 6 - 6 - -",
		// All kinds of uses: reading, reaching and taking, two of them at one point.
		"ibrm:a=1;b=box 2;c=&b;d=&mut b;a=*d;*d=a;*b=a;drop b": "- 2,3,6,7 - 4,5 5,6 - - - -",
		"iib:a=1;c=box 2;*c=a;b=*c;b=a":                        "2,4 2,3 - - - -",
		// The point that takes a value uses it, and no point behind it does.
		"bb:a=box 1;b=a;drop a;drop b":                 "1 3 - - -",
		"ibmm:b=box 1;c=&mut b;d=c;a=*c;a=*d":          "1 2 4 - - -",
		"ibrr:b=box 1;c=&b;d=c;a=*c;a=*d":              "1 2,3 4 - - -",
		"ib:b=box 1;if{drop b}{};a=*b":                 "2,4 - - - - -",
		"b:a=box 1;loop{drop a}":                       "2 - - - -",
		"b:a=box 1;loop{drop a;a=box 2}":               "2 - - 2 - -",
		"ii:a=1;if{a=2}{};b=a":                         "4 - 4 - - -",
		"ii:if{a=1}{a=2};b=a":                          "- 4 - 4 - -",
		"ii:a=1;a=b;b=a":                               "- 2 - -",
		"ii:loop{b=a;a=1}":                             "- - 1 - -",
		"ii:a=0;loop{b=a;loop{a=b};a=1}":               "2 - 4 - - - 2 - -",
		"bm:a=box 1;loop{b=&mut a;a=box 2};drop a":     "2,5 - - 2,5 - - -",
		"bb:loop{a=box 1;loop{b=a;a=b};drop a;if{}{}}": "- 3,6 - 4 3,6 - - - - - -",
	} {
		if got := numbersAtPoints(parsed(t, text), impl.UsersOf); got != want {
			t.Errorf("UsersOf %s: %s, want %s", text, got, want)
		}
	}
}

// origin is one cell, number or setter. It tells whether what a point sets comes from it, by the variables that do before the point.
type origin func(at int, x impl.Point, from [6]bool) bool

func fromCell(cell int) origin {
	return func(at int, x impl.Point, from [6]bool) bool {
		return at == cell || (isLoan(x) || x.Op == impl.OpMove) && from[x.Y]
	}
}

func fromNumber(n int) origin {
	return func(at int, x impl.Point, from [6]bool) bool {
		return x.Op == impl.OpLoad || x.Op == impl.OpInt && x.N == n || x.Op == impl.OpMove && from[x.Y]
	}
}

func fromSetter(setter int) origin {
	return func(at int, x impl.Point, from [6]bool) bool { return at == setter }
}

// changesAt has, for each point, the variables that it takes and the one that it sets.
type changesAt struct {
	takes [][]int
	sets  []int
}

func changesOf(p impl.Program, points []impl.Point) changesAt {
	var c changesAt
	for _, x := range points {
		var takes []int
		sets := -1
		for v := range p.Types {
			if useAt(p, x, v) == impl.UseTake {
				takes = append(takes, v)
			}
			if setsAt(x, v) {
				sets = v
			}
		}
		c.takes, c.sets = append(c.takes, takes), append(c.sets, sets)
	}
	return c
}

// behind returns the variables that come from an origin behind a point.
func (c changesAt) behind(at int, x impl.Point, from [6]bool, o origin) [6]bool {
	after := from
	for _, v := range c.takes[at] {
		after[v] = false
	}
	if v := c.sets[at]; v >= 0 {
		after[v] = o(at, x, from)
	}
	return after
}

// traced is a point with the variables that come from an origin before it.
type traced struct {
	at   int
	from [6]bool
}

// comesFrom follows one origin on all ways, and returns the variables that come from it before each point on some way.
func (c changesAt) comesFrom(points []impl.Point, o origin) [61][6]bool {
	var some [61][6]bool
	met := map[traced]bool{{}: true}
	work := []traced{{}}
	for len(work) > 0 {
		s := work[0]
		work = work[1:]
		for v, has := range s.from {
			some[s.at][v] = some[s.at][v] || has
		}
		after := c.behind(s.at, points[s.at], s.from, o)
		for _, next := range points[s.at].Next {
			if to := (traced{next, after}); !met[to] {
				met[to] = true
				work = append(work, to)
			}
		}
	}
	return some
}

// traceLists are what the functions of the chapter return for each point and variable, and the users for each point.
type traceLists struct {
	cells, numbers, setters [61][6][]int
	users                   [61][]int
}

func modelOfTraces(p impl.Program, points []impl.Point) *traceLists {
	m, c := &traceLists{}, changesOf(p, points)
	add := func(lists *[61][6][]int, n int, o origin) {
		some := c.comesFrom(points, o)
		for at := range points {
			for v := range p.Types {
				if some[at][v] {
					lists[at][v] = append(lists[at][v], n)
				}
			}
		}
	}
	for n := range 10 {
		add(&m.numbers, n, fromNumber(n))
	}
	for at, x := range points {
		if x.Op == impl.OpBox {
			add(&m.cells, at, fromCell(at))
		}
		if c.sets[at] >= 0 {
			add(&m.setters, at, fromSetter(at))
			m.users[at] = usersBehind(p, points, c, at)
		}
	}
	return m
}

// usersBehind follows the ways from a point until they take, or set again, the variable that it sets.
func usersBehind(p impl.Program, points []impl.Point, c changesAt, at int) []int {
	v := c.sets[at]
	met, uses := map[int]bool{}, [61]bool{}
	work := slices.Clone(points[at].Next)
	for len(work) > 0 {
		next := work[0]
		work = work[1:]
		if met[next] {
			continue
		}
		met[next] = true
		uses[next] = useAt(p, points[next], v) != impl.UseNone
		if c.sets[next] != v && !slices.Contains(c.takes[next], v) {
			work = append(work, points[next].Next...)
		}
	}
	var users []int
	for user, is := range uses {
		if is {
			users = append(users, user)
		}
	}
	return users
}

// tracesOf is what the functions return.
func tracesOf(p impl.Program) *traceLists {
	l := &traceLists{}
	for at := range impl.PointsOf(p) {
		for v := range p.Types {
			l.cells[at][v] = impl.CellsOf(p, at, v)
			l.numbers[at][v] = impl.NumbersOf(p, at, v)
			l.setters[at][v] = impl.SettersOf(p, at, v)
		}
		l.users[at] = impl.UsersOf(p, at)
	}
	return l
}

func (l *traceLists) at(at, v int) string {
	return fmt.Sprint(l.cells[at][v], l.numbers[at][v], l.setters[at][v], l.users[at])
}

func haveCommon(a, b []int) bool {
	return slices.ContainsFunc(a, func(n int) bool { return slices.Contains(b, n) })
}

// boxing returns valid programs in which boxes and references are made, moved and taken again and again.
func boxing(count int) []impl.Program {
	d := &dice{state: 53}
	var programs []impl.Program
	for len(programs) < count {
		types := []int{impl.TypeBox, impl.TypeBox, impl.TypeMut, impl.TypeRef, impl.TypeInt, impl.TypeInt}
		all := fitting(types)
		for range 8 {
			all = append(all, simple(impl.OpBox, d.upTo(2), 0, d.upTo(10)), simple(impl.OpInt, 4+d.upTo(2), 0, d.upTo(10)))
		}
		if p := (impl.Program{Types: types, Body: d.dense(all, 24, 4)}); impl.ProgramValid(p) {
			programs = append(programs, p)
		}
	}
	return programs
}

// tracedPrograms are valid programs, some of which are accepted.
func tracedPrograms() []impl.Program {
	programs := append(mixedPrograms(100), borrowing(200)...)
	programs = append(programs, boxing(200)...)
	return append(programs, grown(50, impl.Accepts)...)
}

func TestTracesOfManyPrograms(t *testing.T) {
	several, numbers, aliases := 0, 0, 0
	for _, p := range tracedPrograms() {
		text, points := impl.FormatProgram(p), impl.PointsOf(p)
		got, want := tracesOf(p), modelOfTraces(p, points)
		for at := range points {
			for v := range p.Types {
				if got, want := got.at(at, v), want.at(at, v); got != want {
					t.Fatalf("%s: the variable %d at %d has %s, want %s", text, v, at, got, want)
				}
				n, ok := impl.NumberOf(p, at, v)
				list := want.numbers[at][v]
				if ok != (len(list) == 1) || ok && n != list[0] || !ok && n != 0 {
					t.Fatalf("NumberOf(%s, %d, %d) = %d, %v, want the one of %v", text, at, v, n, ok, list)
				}
				for w := range v + 1 {
					common := haveCommon(want.cells[at][v], want.cells[at][w])
					if got := impl.MayAlias(p, at, v, w); got != common {
						t.Fatalf("MayAlias(%s, %d, %d, %d) = %v", text, at, v, w, got)
					}
					if common && v != w {
						aliases++
					}
				}
				if len(want.cells[at][v]) > 1 {
					several++
				}
				if len(list) > 1 && len(list) < 10 {
					numbers++
				}
			}
		}
		if after := impl.FormatProgram(p); after != text {
			t.Fatalf("an argument changed: %s", text)
		}
	}
	if several < 1000 || numbers < 200 || aliases < 1000 {
		t.Errorf("several cells %d times, several numbers %d times, and aliases %d times", several, numbers, aliases)
	}
}

// runTrace follows a run: the points that made its cells, and those at which its variables got the values that they have, or -1.
type runTrace struct {
	made    []int
	setters [6]int
}

func newRunTrace() *runTrace { return &runTrace{setters: [6]int{-1, -1, -1, -1, -1, -1}} }

func (r *runTrace) pass(at int, x impl.Point, c changesAt) {
	for _, v := range c.takes[at] {
		r.setters[v] = -1
	}
	if v := c.sets[at]; v >= 0 {
		r.setters[v] = at
	}
	if x.Op == impl.OpBox {
		r.made = append(r.made, at)
	}
}

// missing says what a variable has before a point of a run that the functions do not return, or nothing.
func (r *runTrace) missing(p impl.Program, l *traceLists, at, v int, s impl.Slot) string {
	setter := r.setters[v]
	switch {
	case s.Set != (setter >= 0):
		return fmt.Sprint("a value of the point ", setter)
	case !s.Set:
		return ""
	case !slices.Contains(l.setters[at][v], setter):
		return fmt.Sprint("the setter ", setter)
	case p.Types[v] == impl.TypeInt && !slices.Contains(l.numbers[at][v], s.Num):
		return fmt.Sprint("the number ", s.Num)
	case p.Types[v] != impl.TypeInt && !slices.Contains(l.cells[at][v], r.made[s.Ptr.Cell]):
		return fmt.Sprint("a cell of the point ", r.made[s.Ptr.Cell])
	case useAt(p, impl.PointsOf(p)[at], v) != impl.UseNone && !slices.Contains(l.users[setter], at):
		return fmt.Sprint("a use of the value of ", setter)
	}
	if n, ok := impl.NumberOf(p, at, v); ok && n != s.Num {
		return fmt.Sprint("another number than ", n)
	}
	return ""
}

// sameCell reports whether two variables with values reach the same cell, which is theirs if they are no numbers.
func sameCell(p impl.Program, slots []impl.Slot, v, w int) bool {
	return p.Types[v] != impl.TypeInt && p.Types[w] != impl.TypeInt && slots[v].Set && slots[w].Set && slots[v].Ptr.Cell == slots[w].Ptr.Cell
}

// What the variables have before each point of a run, up to the one at which it ends, is among what they can have.
func TestWhatRunsReach(t *testing.T) {
	d := &dice{state: 59}
	reached, aliases := 0, 0
	for _, p := range tracedPrograms() {
		points, lists := impl.PointsOf(p), tracesOf(p)
		c := changesOf(p, points)
		for range 3 {
			choices := d.choices(16)
			r, path := newRunTrace(), cutPath(p, choices, 60)
			for i, at := range path {
				slots, code := impl.FinalSlots(p, choices, i)
				if code != impl.RunCut {
					break // the run has ended before, or the point is the last one, at which the boxes are emptied
				}
				for v, s := range slots {
					if miss := r.missing(p, lists, at, v, s); miss != "" {
						t.Fatalf("%s with %v: the variable %d has %s before the point %d", impl.FormatProgram(p), choices, v, miss, at)
					}
					if s.Set {
						reached++
					}
					for w := range v {
						if !sameCell(p, slots, v, w) {
							continue
						}
						if aliases++; !impl.MayAlias(p, at, v, w) {
							t.Fatalf("%s with %v: %d and %d reach the same cell before the point %d", impl.FormatProgram(p), choices, v, w, at)
						}
					}
				}
				r.pass(at, points[at], c)
			}
		}
	}
	if reached < 5000 || aliases < 2000 {
		t.Errorf("only %d values and %d aliases on runs", reached, aliases)
	}
}

// Where there is one way only, what can be is what is: one cell, one setter, and the number, if none is loaded.
func TestTracesWithoutChoices(t *testing.T) {
	count := 0
	for _, p := range append(smallPrograms(t)[2000:2600], boxing(600)...) {
		if impl.CountChoices(p) > 0 {
			continue
		}
		points := impl.PointsOf(p)
		r, c := newRunTrace(), changesOf(p, points)
		for at, x := range points[:len(points)-1] {
			slots, code := impl.FinalSlots(p, nil, at)
			if code != impl.RunCut {
				break
			}
			for v, s := range slots {
				cells, setters := impl.CellsOf(p, at, v), impl.SettersOf(p, at, v)
				n, one := impl.NumberOf(p, at, v)
				text := fmt.Sprint(impl.FormatProgram(p), ": the variable ", v, " at ", at)
				switch {
				case !s.Set && len(cells)+len(setters)+len(impl.NumbersOf(p, at, v)) > 0, s.Set && !slices.Equal(setters, []int{r.setters[v]}):
					t.Fatalf("%s has %v, %v", text, cells, setters)
				case s.Set && p.Types[v] != impl.TypeInt && !slices.Equal(cells, []int{r.made[s.Ptr.Cell]}):
					t.Fatalf("%s reaches %v", text, cells)
				case s.Set && p.Types[v] == impl.TypeInt && one && n != s.Num, one && !s.Set:
					t.Fatalf("%s has the number %d", text, n)
				}
				if s.Set {
					count++
				}
			}
			r.pass(at, x, c)
		}
	}
	if count < 3000 {
		t.Errorf("only %d values", count)
	}
}

// What has setters can have a value, and the other way round; what has users is live.
func TestSettersAndUsersAgreeWithFlows(t *testing.T) {
	used, unused := 0, 0
	for _, p := range tracedPrograms() {
		text := impl.FormatProgram(p)
		for at := range impl.PointsOf(p) {
			maybe := impl.MaybeSet(p, at)
			for v := range p.Types {
				setters := impl.SettersOf(p, at, v)
				if (len(setters) > 0) != slices.Contains(maybe, v) {
					t.Fatalf("SettersOf(%s, %d, %d) = %v, MaybeSet = %v", text, at, v, setters, maybe)
				}
				for _, setter := range setters {
					if impl.SetBy(p, setter) != v || (impl.UseOf(p, at, v) != impl.UseNone) != slices.Contains(impl.UsersOf(p, setter), at) {
						t.Fatalf("%s: the setter %d of %d at %d has the users %v", text, setter, v, at, impl.UsersOf(p, setter))
					}
				}
				if len(maybe) > 0 && !slices.Contains(maybe, v) && len(impl.CellsOf(p, at, v))+len(impl.NumbersOf(p, at, v)) > 0 {
					t.Fatalf("%s: the variable %d has something at %d, but no value", text, v, at)
				}
			}
			users, v := impl.UsersOf(p, at), impl.SetBy(p, at)
			if live := v >= 0 && slices.Contains(impl.LiveAfter(p, at), v); live != (len(users) > 0) {
				t.Fatalf("UsersOf(%s, %d) = %v, but it is live: %v", text, at, users, live)
			}
			if len(users) > 0 {
				used++
			} else if v >= 0 {
				unused++
			}
		}
	}
	if used < 1000 || unused < 1000 {
		t.Errorf("%d values are used, and %d are not", used, unused)
	}
}

// In an accepted program, what is used was set, and has a number or reaches a cell.
func TestAcceptedUsesHaveSettersAndCells(t *testing.T) {
	uses := 0
	for _, p := range acceptedPrograms(t)[:800] {
		for at := range impl.PointsOf(p) {
			for v := range p.Types {
				use := impl.UseOf(p, at, v)
				if use == impl.UseNone {
					continue
				}
				uses++
				cells, numbers := impl.CellsOf(p, at, v), impl.NumbersOf(p, at, v)
				if len(impl.SettersOf(p, at, v)) == 0 || (len(cells) == 0) != (p.Types[v] == impl.TypeInt) || (len(numbers) == 0) != (p.Types[v] != impl.TypeInt) {
					t.Fatalf("%s uses %d at %d, which has %v, %v", impl.FormatProgram(p), v, at, cells, numbers)
				}
			}
		}
	}
	if uses < 1000 {
		t.Errorf("only %d uses", uses)
	}
}

func TestTracesThatAreNotThere(t *testing.T) {
	broken := impl.Program{Types: []int{2, 2}, Body: []impl.Stmt{simple(impl.OpBox, 0, 0, 1), simple(impl.OpMove, 1, 0, 0), simple(impl.OpMove, 1, 1, 0)}}
	for i, p := range append(invalidPrograms(), broken) {
		for at := -1; at < 4; at++ {
			for v := -1; v < 3; v++ {
				n, ok := impl.NumberOf(p, at, v)
				if len(impl.CellsOf(p, at, v))+len(impl.NumbersOf(p, at, v))+len(impl.SettersOf(p, at, v))+len(impl.UsersOf(p, at)) != 0 || n != 0 || ok || impl.MayAlias(p, at, v, v) {
					t.Errorf("the invalid program %d has something at %d for %d", i, at, v)
				}
			}
		}
	}
	p := parsed(t, "ibr:b=box 1;c=&b;loop{b=box 2;c=&b;a=7}")
	for _, far := range append([]int{8, 9}, farIndices...) {
		for v := range 3 {
			if len(impl.CellsOf(p, far, v))+len(impl.NumbersOf(p, far, v))+len(impl.SettersOf(p, far, v)) != 0 || impl.MayAlias(p, far, v, v) {
				t.Errorf("the variable %d has something at the point %d", v, far)
			}
			if n, ok := impl.NumberOf(p, far, v); n != 0 || ok {
				t.Errorf("NumberOf(%d, %d) = %d, %v", far, v, n, ok)
			}
		}
		if l := impl.UsersOf(p, far); len(l) != 0 {
			t.Errorf("UsersOf(%d) = %v", far, l)
		}
	}
	for _, far := range append([]int{3, 4, 5, 6, 7}, farIndices...) {
		for at := range impl.PointsOf(p) {
			n, ok := impl.NumberOf(p, at, far)
			if len(impl.CellsOf(p, at, far))+len(impl.NumbersOf(p, at, far))+len(impl.SettersOf(p, at, far)) != 0 || n != 0 || ok {
				t.Errorf("the variable %d has something at the point %d", far, at)
			}
			for v := range 3 {
				if impl.MayAlias(p, at, v, far) || impl.MayAlias(p, at, far, v) || impl.MayAlias(p, at, far, far) {
					t.Errorf("MayAlias is true for the variable %d at %d", far, at)
				}
			}
		}
	}
}

// Variables whose type is not the one that a function is about.
func TestTracesOfOtherTypes(t *testing.T) {
	p := parsed(t, "ibrm:a=5;b=box 1;d=&mut b;c=&d;*b=a;a=*c")
	for at := range impl.PointsOf(p) {
		if l := impl.CellsOf(p, at, 0); len(l) != 0 || impl.MayAlias(p, at, 0, 0) || impl.MayAlias(p, at, 0, 1) || impl.MayAlias(p, at, 3, 0) {
			t.Errorf("the number reaches %v at %d", l, at)
		}
		for v := 1; v < 4; v++ {
			if n, ok := impl.NumberOf(p, at, v); len(impl.NumbersOf(p, at, v)) != 0 || ok || n != 0 {
				t.Errorf("NumbersOf(%d, %d) = %v", at, v, impl.NumbersOf(p, at, v))
			}
		}
	}
}

// The last statements of programs with as many points as there can be.
func TestMostTraces(t *testing.T) {
	list := slices.Repeat([]impl.Stmt{either(nil, nil)}, impl.MaxStmts-4)
	list = append(list, simple(impl.OpBox, 5, 0, 9), simple(impl.OpShare, 4, 5, 0), simple(impl.OpInt, 0, 0, 9), simple(impl.OpLoad, 1, 4, 0))
	p := impl.Program{Types: []int{1, 1, 1, 1, 3, 2}, Body: list}
	for v, want := range []string{"[] [9] [54]", "[] [0 1 2 3 4 5 6 7 8 9] [55]", "[] [] []", "[] [] []", "[52] [] [53]", "[52] [] [52]"} {
		if got := fmt.Sprint(impl.CellsOf(p, 56, v), impl.NumbersOf(p, 56, v), impl.SettersOf(p, 56, v)); got != want {
			t.Errorf("the variable %d has %s, want %s", v, got, want)
		}
	}
	if l := impl.UsersOf(p, 53); !slices.Equal(l, []int{55}) || !impl.MayAlias(p, 56, 4, 5) || impl.MayAlias(p, 52, 4, 5) {
		t.Errorf("UsersOf = %v", l)
	}
	last := impl.Program{Types: []int{2}, Body: append(slices.Repeat([]impl.Stmt{loop()}, impl.MaxStmts-1), simple(impl.OpBox, 0, 0, 1))}
	if l, s := impl.CellsOf(last, 59, 0), impl.SettersOf(last, 59, 0); !slices.Equal(l, []int{58}) || !slices.Equal(s, []int{58}) {
		t.Errorf("CellsOf = %v, SettersOf = %v", l, s)
	}
	apart := slices.Concat([]impl.Stmt{loop(simple(impl.OpInt, 0, 0, 4))}, slices.Repeat([]impl.Stmt{loop()}, 26), []impl.Stmt{loop(simple(impl.OpMove, 1, 0, 0))})
	far := impl.Program{Types: []int{1, 1}, Body: apart}
	if l, s, u := impl.NumbersOf(far, 58, 1), impl.SettersOf(far, 58, 1), impl.UsersOf(far, 1); fmt.Sprint(l, s, u) != "[4] [56] [56]" {
		t.Errorf("NumbersOf = %v, SettersOf = %v, UsersOf = %v", l, s, u)
	}
}

// As many cells, setters and users as there can be.
func TestLongTraces(t *testing.T) {
	p := impl.Program{Types: []int{2, 3}, Body: slices.Repeat([]impl.Stmt{either([]impl.Stmt{simple(impl.OpBox, 0, 0, 1)}, nil)}, 15)}
	var made []int
	for i := range 15 {
		made = append(made, 3*i+1)
	}
	if l, s := impl.CellsOf(p, 45, 0), impl.SettersOf(p, 45, 0); !slices.Equal(l, made) || !slices.Equal(s, made) {
		t.Errorf("CellsOf = %v, SettersOf = %v, want %v", l, s, made)
	}
	p.Body = append([]impl.Stmt{simple(impl.OpBox, 0, 0, 1)}, slices.Repeat([]impl.Stmt{simple(impl.OpShare, 1, 0, 0)}, 29)...)
	if l := impl.UsersOf(p, 0); len(l) != 29 || l[0] != 1 || l[28] != 29 {
		t.Errorf("UsersOf = %v", l)
	}
	// A cell that comes through all variables, by as many rounds of the loops around.
	circle := parsed(t, "rrrrrb:loop{loop{loop{loop{e=d;d=c;c=b;b=a;a=&f;f=box 1}}}}")
	for v := range 6 {
		if got := fmt.Sprint(impl.CellsOf(circle, 0, v), impl.CellsOf(circle, 14, v)); got != "[9] [9]" {
			t.Errorf("CellsOf of the variable %d: %s", v, got)
		}
	}
}

func TestTracesShareNoMemory(t *testing.T) {
	text := "iibr:c=box 1;loop{d=&c;c=box 2;a=*d;if{b=3}{b=4}}"
	p := parsed(t, text)
	for _, of := range []func() []int{
		func() []int { return impl.CellsOf(p, 5, 3) },
		func() []int { return impl.NumbersOf(p, 5, 0) },
		func() []int { return impl.SettersOf(p, 1, 1) },
		func() []int { return impl.UsersOf(p, 3) },
	} {
		first, other := of(), of()
		want := slices.Clone(first)
		for i := range first[:cap(first)] {
			first[:cap(first)][i] = 99
		}
		if second := of(); len(second) == 0 || !slices.Equal(second, want) || !slices.Equal(other, want) {
			t.Errorf("second results are %v, %v, want %v", other, second, want)
		}
	}
	if got := impl.FormatProgram(p); got != text {
		t.Errorf("the program changed: %s", got)
	}
}
