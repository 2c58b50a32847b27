package tests

import (
	"reflect"
	"slices"
	"strconv"
	"strings"
	"testing"

	"loop.example/borrowcheck/impl"
)

// allTypes are the types of a program with two variables of each type but the last two.
var allTypes = []int{impl.TypeInt, impl.TypeInt, impl.TypeBox, impl.TypeBox, impl.TypeRef, impl.TypeMut}

func simple(op, x, y, n int) impl.Stmt { return impl.Stmt{Op: op, X: x, Y: y, N: n} }

func either(yes, no []impl.Stmt) impl.Stmt {
	return impl.Stmt{Op: impl.OpIf, Then: yes, Else: no}
}

func loop(again ...impl.Stmt) impl.Stmt { return impl.Stmt{Op: impl.OpLoop, Then: again} }

func ints(n int) []impl.Stmt { return slices.Repeat([]impl.Stmt{simple(impl.OpInt, 0, 0, 1)}, n) }

func nested(depth int) impl.Stmt {
	s := loop()
	for range depth - 1 {
		s = loop(s)
	}
	return s
}

// endless returns a list whose only statement has the list itself in Then.
func endless(s impl.Stmt) []impl.Stmt {
	list := []impl.Stmt{s}
	list[0].Then = list
	return list
}

// doubled returns a statement with 2 to the power of 60 statements, in little memory.
func doubled(last impl.Stmt) impl.Stmt {
	for range 60 {
		list := []impl.Stmt{last}
		last = either(list, list)
	}
	return last
}

// deep returns a statement with a million statements in each other.
func deep(last impl.Stmt) impl.Stmt {
	for range 1000000 {
		last = loop(last)
	}
	return last
}

func TestEachKindOfStatement(t *testing.T) {
	for text, want := range map[string]impl.Stmt{
		"a=0":              simple(impl.OpInt, 0, 0, 0),
		"b=9":              simple(impl.OpInt, 1, 0, 9),
		"c=box 0":          simple(impl.OpBox, 2, 0, 0),
		"d=box 9":          simple(impl.OpBox, 3, 0, 9),
		"a=b":              simple(impl.OpMove, 0, 1, 0),
		"d=c":              simple(impl.OpMove, 3, 2, 0),
		"e=&d":             simple(impl.OpShare, 4, 3, 0),
		"e=&f":             simple(impl.OpShare, 4, 5, 0),
		"f=&mut c":         simple(impl.OpBorrow, 5, 2, 0),
		"b=*d":             simple(impl.OpLoad, 1, 3, 0),
		"a=*e":             simple(impl.OpLoad, 0, 4, 0),
		"a=*f":             simple(impl.OpLoad, 0, 5, 0),
		"*c=b":             simple(impl.OpStore, 2, 1, 0),
		"*f=a":             simple(impl.OpStore, 5, 0, 0),
		"drop d":           simple(impl.OpDrop, 3, 0, 0),
		"if{}{}":           either(nil, nil),
		"if{a=1}{b=2}":     either([]impl.Stmt{simple(1, 0, 0, 1)}, []impl.Stmt{simple(1, 1, 0, 2)}),
		"if{}{drop d}":     either(nil, []impl.Stmt{simple(8, 3, 0, 0)}),
		"loop{}":           loop(),
		"loop{a=1;drop c}": loop(simple(1, 0, 0, 1), simple(8, 2, 0, 0)),
	} {
		p := impl.Program{Types: allTypes, Body: []impl.Stmt{want}}
		full := "iibbrm:" + text
		if got := impl.FormatProgram(p); got != full {
			t.Errorf("FormatProgram(%v) = %q, want %q", p, got, full)
		}
		got, ok := impl.ParseProgram(full)
		if !ok || !reflect.DeepEqual(got, p) || !impl.ProgramSame(got, p) {
			t.Errorf("ParseProgram(%q) = %v, %v", full, got, ok)
		}
		if !impl.StmtValid(allTypes, want) || !impl.ProgramValid(p) {
			t.Errorf("%q is not valid", text)
		}
	}
}

// needs tells, apart from the program's own tables, which statements without parts are valid.
func needs(types []int, s impl.Stmt) bool {
	letter := func(v int) string {
		if v < 0 || v >= len(types) {
			return "-"
		}
		return "?ibrm"[types[v] : types[v]+1]
	}
	x, y := letter(s.X), letter(s.Y)
	numbered := s.Y == 0 && s.N >= 0 && s.N <= 9
	plain := s.N == 0
	switch s.Op {
	case 1:
		return x == "i" && numbered
	case 2:
		return x == "b" && numbered
	case 3:
		return plain && s.X != s.Y && strings.Contains("ii bb rr mm", x+y) && x != "-"
	case 4:
		return plain && s.X != s.Y && strings.Contains("rb rr rm", x+y)
	case 5:
		return plain && s.X != s.Y && strings.Contains("mb mm", x+y)
	case 6:
		return plain && strings.Contains("ib ir im", x+y)
	case 7:
		return plain && strings.Contains("bi mi", x+y)
	case 8:
		return plain && x == "b" && s.Y == 0
	case 9, 10:
		return plain && s.X == 0 && s.Y == 0
	}
	return false
}

// eachSimple visits statements without parts, valid and not.
func eachSimple(visit func(types []int, s impl.Stmt)) {
	for _, types := range [][]int{nil, {1}, {2}, {4, 4}, {3, 3, 2}, allTypes} {
		for op := -1; op <= 12; op++ {
			for x := -2; x <= 7; x++ {
				for y := -2; y <= 7; y++ {
					for n := -1; n <= 10; n++ {
						visit(types, simple(op, x, y, n))
					}
				}
			}
		}
	}
}

func TestStmtValid(t *testing.T) {
	valid := 0
	eachSimple(func(types []int, s impl.Stmt) {
		want := needs(types, s)
		p := impl.Program{Types: types, Body: []impl.Stmt{s}}
		if impl.StmtValid(types, s) != want || impl.ProgramValid(p) != want {
			t.Errorf("StmtValid(%v, %v) = %v", types, s, !want)
		}
		if (impl.FormatProgram(p) != "") != want || (impl.CountStmts(p) == 1) != want {
			t.Errorf("FormatProgram(%v) = %q, CountStmts = %d", p, impl.FormatProgram(p), impl.CountStmts(p))
		}
		if want {
			valid++
			if q, ok := impl.ParseProgram(impl.FormatProgram(p)); !ok || !impl.ProgramSame(p, q) {
				t.Errorf("ParseProgram(%q) = %v, %v", impl.FormatProgram(p), q, ok)
			}
		}
	})
	if valid == 0 {
		t.Error("no statement is valid")
	}
}

func TestStmtValidParts(t *testing.T) {
	good := ints(1)
	bad := []impl.Stmt{simple(impl.OpInt, 5, 0, 1)}
	for _, s := range []impl.Stmt{
		either(good, nil), either(nil, good), loop(good...), loop(either(good, good[:1])),
		{Op: impl.OpLoop, Then: good, Else: []impl.Stmt{}},
		{Op: impl.OpInt, Then: []impl.Stmt{}, Else: []impl.Stmt{}},
	} {
		if !impl.StmtValid([]int{1}, s) {
			t.Errorf("StmtValid(%v) = false", s)
		}
	}
	for _, s := range []impl.Stmt{
		either(bad, nil), either(nil, bad), loop(bad...), loop(either(good, bad)),
		{Op: impl.OpLoop, Then: good, Else: good},
		{Op: impl.OpInt, Then: good}, {Op: impl.OpInt, Else: good},
		{Op: 0, Then: good}, {Op: 11, Then: good},
	} {
		if impl.StmtValid([]int{1}, s) {
			t.Errorf("StmtValid(%v) = true", s)
		}
	}
}

func TestTypes(t *testing.T) {
	for types, want := range map[string]bool{
		"": true, "1": true, "1234": true, "444444": true, "1111111": false, "0": false, "5": false, "15": false, "01": false,
	} {
		var list []int
		for _, c := range types {
			list = append(list, int(c-'0'))
		}
		p := impl.Program{Types: list}
		if impl.ProgramValid(p) != want || impl.StmtValid(list, loop()) != want || (impl.FormatProgram(p) != "") != want {
			t.Errorf("ProgramValid(%v) = %v", p, !want)
		}
	}
	for _, bad := range []int{-1, 0, 5, 256 + 1, -1 << 63, 1<<63 - 1} {
		if impl.ProgramValid(impl.Program{Types: []int{bad}}) || impl.StmtValid([]int{1, bad}, loop()) {
			t.Errorf("the type %d is valid", bad)
		}
	}
	for bad := -2; bad <= 7; bad++ {
		if impl.IsReference(bad) != (bad == 3 || bad == 4) {
			t.Errorf("IsReference(%d) = %v", bad, impl.IsReference(bad))
		}
	}
}

func TestLimits(t *testing.T) {
	thirty := ints(impl.MaxStmts)
	for _, c := range []struct {
		body  []impl.Stmt
		count int
		valid bool
	}{
		{nil, 0, true},
		{[]impl.Stmt{}, 0, true},
		{thirty, 30, true},
		{ints(31), 0, false},
		{[]impl.Stmt{loop(ints(29)...)}, 30, true},
		{[]impl.Stmt{loop(ints(30)...)}, 0, false},
		{[]impl.Stmt{either(ints(14), ints(15))}, 30, true},
		{[]impl.Stmt{either(ints(15), ints(15))}, 0, false},
		{[]impl.Stmt{either(ints(14), nil), either(nil, ints(14))}, 30, true},
		{[]impl.Stmt{either(ints(14), nil), either(nil, ints(15))}, 0, false},
		{[]impl.Stmt{nested(4), nested(4)}, 8, true},
		{[]impl.Stmt{nested(5)}, 0, false},
		{[]impl.Stmt{nested(4), either(nil, []impl.Stmt{nested(3)})}, 8, true},
		{[]impl.Stmt{either(nil, []impl.Stmt{nested(4)})}, 0, false},
		{[]impl.Stmt{loop(loop(loop(loop(ints(1)...))))}, 5, true},
	} {
		p := impl.Program{Types: []int{1}, Body: c.body}
		text := impl.FormatProgram(p)
		if impl.ProgramValid(p) != c.valid || impl.CountStmts(p) != c.count || (text != "") != c.valid {
			t.Errorf("%v: ProgramValid = %v, CountStmts = %d, FormatProgram = %q", c.body, impl.ProgramValid(p), impl.CountStmts(p), text)
		}
		if len(c.body) == 1 && impl.StmtValid(p.Types, c.body[0]) != c.valid {
			t.Errorf("StmtValid(%v) = %v", c.body[0], !c.valid)
		}
		if q, ok := impl.ParseProgram(text); ok != c.valid || c.valid && !impl.ProgramSame(p, q) {
			t.Errorf("ParseProgram(%q) = %v, %v", text, q, ok)
		}
	}
}

func TestTextsAreReadBack(t *testing.T) {
	thirty := strings.TrimSuffix(strings.Repeat("a=0;", 30), ";")
	for text, count := range map[string]int{
		":":                               0,
		"i:":                              0,
		"iiiiii:f=9":                      1,
		"mrbimr:":                         0,
		"ibr:b=box 1;c=&b;a=*c;drop b":    4,
		"i:if{}{};loop{}":                 2,
		"i:if{loop{}}{if{}{};a=1}":        4,
		"i:loop{if{loop{if{a=1}{}}}{}}":   5,
		"i:" + thirty:                     30,
		"bm:a=box 0;b=&mut a":             2,
		"i:loop{loop{loop{loop{a=1}}}}":   5,
		"ib:if{b=box 1}{b=box 2};a=*b":    4,
		"bb:a=box 0;b=a;a=b;drop a":       4,
		"iiibbb:d=box 1;e=d;f=e;*f=a;c=b": 5,
	} {
		p, ok := impl.ParseProgram(text)
		if !ok || impl.CountStmts(p) != count {
			t.Errorf("ParseProgram(%q) = %v, %v with %d statements", text, p, ok, impl.CountStmts(p))
		}
		if impl.FormatProgram(p) != text || !impl.ProgramValid(p) {
			t.Errorf("FormatProgram = %q, want %q", impl.FormatProgram(p), text)
		}
	}
}

func TestTextsThatAreNone(t *testing.T) {
	thirtyOne := strings.TrimSuffix(strings.Repeat("a=0;", 31), ";")
	for _, text := range []string{
		"", "i", "x:", "I:", "i i:", " :", ": ", "::", "i::", "iiiiiii:", "\x00:", "i:\x00", "i:\xff", "ï:", "1:", "i:\n",
		"i:a", "i:a=", "i:a=10", "i:a=01", "i:a=-1", "i:a=+1", "i:a= 1", "i: a=1", "i:a=1 ", "i:a =1", "i:b=1", "i:g=1", "i:A=1", "i:=1", "i:1=a",
		"i:a=1;", "i:;a=1", "i:a=1;;a=1", "i:;", "i:a=1,a=2", "i:a=1}", "i:}", "i:{", "i:{}", "i:{a=1}",
		"i:a=a", "b:a=a", "r:a=a", "m:a=a", "r:a=&a", "m:a=&mut a", "bm:b=&mut b", "ib:a=b", "rm:a=b",
		"b:a=1", "i:a=box 1", "b:a=box", "b:a=box ", "b:a=box1", "b:a=box  1", "b:a=box 10", "b:a=box a",
		"bm:b=&muta", "bm:b=&mut  a", "bm:b=&Mut a", "br:b=&mut a", "bm:b=&a", "br:b=& a", "br:b=&c", "br:b=&", "ir:b=&a", "im:b=&mut a", "rm:b=&mut a", "br:b=&&a",
		"b:*a=a", "ib:*b=b", "ir:*b=a", "ib:*a=b", "ib:*b=1", "ib:b=*a", "i:a=*a", "ib:a=*", "ib:**b=a", "ib:*b",
		"i:drop a", "r:drop a", "m:drop a", "b:drop", "b:drop ", "b:dropa", "b:drop  a", "b:drop b", "b:drop a;", "b:Drop a",
		"i:if", "i:if{}", "i:if{}{", "i:if{{}{}", "i:if{} {}", "i:if{};{}", "i:if{}{}{}", "i:if {}{}", "i:if{;}{}", "i:if{}{;}", "i:if{a=1;}{}", "i:if{}{a=1;}", "i:if{a=1}", "i:if{}{}a=1", "i:if{}{};", "i:if{a=2}{}}",
		"i:loop", "i:loop{", "i:loop}", "i:loop{}{}", "i:loop{;}", "i:loop{a=1;}", "i:loop{;a=1}", "i:loop{a=1", "i:loop {}", "i:loop{}a=1", "i:loop{};", "i:loop{}}",
		"i:loop{loop{loop{loop{loop{}}}}}", "i:if{if{if{if{if{}{}}{}}{}}{}}{}", "i:if{}{if{}{if{}{if{}{loop{}}}}}",
		"i:" + thirtyOne, "i:loop{" + thirtyOne[4:] + "}", "a=1", "i:end", "i:go", "iiiiiii:a=1",
		strings.Repeat("i", 600), strings.Repeat("if", 300), ":" + strings.Repeat("if", 299), ":" + strings.Repeat("loop{", 119),
	} {
		p, ok := impl.ParseProgram(text)
		if ok || len(p.Types) != 0 || len(p.Body) != 0 {
			t.Errorf("ParseProgram(%q) = %v, %v", text, p, ok)
		}
	}
}

func TestLongTexts(t *testing.T) {
	for _, n := range []int{598, 599, 600, 601, 602, 100000} {
		for _, text := range []string{
			strings.Repeat("i", n), ":" + strings.Repeat(";", n-1), "i:" + strings.Repeat("a=0;", n)[:n-2],
			"i:a=1" + strings.Repeat(" ", n-5), ":" + strings.Repeat("loop{", n)[:n-1],
		} {
			if p, ok := impl.ParseProgram(text); ok || p.Types != nil || p.Body != nil {
				t.Errorf("ParseProgram accepts a text of %d bytes", len(text))
			}
		}
	}
	// No valid program has a longer text than this one, which is read back.
	text := "iiiibm:" + strings.TrimSuffix(strings.Repeat("f=&mut e;", 30), ";")
	if p, ok := impl.ParseProgram(text); !ok || impl.FormatProgram(p) != text {
		t.Errorf("ParseProgram(%q) = %v, %v", text, p, ok)
	}
}

// Each text that differs from the one of a program in one byte is read back, or none.
func TestTextsWithOneChange(t *testing.T) {
	bytes := "abcdefgimrxlop0189=*&{};: \x00\xff"
	for _, text := range []string{
		"ibrm:b=box 1;if{c=&b;a=*c}{loop{d=&mut b;*d=a}};drop b;a=7",
		"bb:a=box 0;b=a", "i:if{}{};loop{}", ":", "iiiiii:a=b;loop{if{a=1}{}}",
	} {
		for i := range len(text) + 1 {
			for _, c := range []byte(bytes) {
				readBackOrNone(t, text[:i]+string([]byte{c})+text[i:])
				if i < len(text) {
					readBackOrNone(t, text[:i]+string([]byte{c})+text[i+1:])
				}
			}
			readBackOrNone(t, text[:i])
			readBackOrNone(t, text[i:])
			if i < len(text) {
				readBackOrNone(t, text[:i]+text[i+1:])
			}
		}
	}
}

func readBackOrNone(t *testing.T, text string) {
	t.Helper()
	p, ok := impl.ParseProgram(text)
	if ok && (impl.FormatProgram(p) != text || !impl.ProgramValid(p)) {
		t.Errorf("ParseProgram(%q) = %v, with the text %q", text, p, impl.FormatProgram(p))
	}
	if !ok && (p.Types != nil || p.Body != nil) {
		t.Errorf("ParseProgram(%q) = %v, false", text, p)
	}
}

// dice are numbers that look random, and are the same in each run.
type dice struct{ state uint64 }

func (d *dice) upTo(n int) int {
	d.state = d.state*6364136223846793005 + 1442695040888963407
	return int(d.state>>33) % n
}

func (d *dice) stmts(types []int, most, nested int) []impl.Stmt {
	var list []impl.Stmt
	for range d.upTo(most + 1) {
		s := simple(1+d.upTo(10), d.upTo(6), d.upTo(6), d.upTo(10))
		if s.Op == impl.OpIf && nested > 0 {
			s = either(d.stmts(types, most/2, nested-1), d.stmts(types, most/2, nested-1))
		} else if s.Op == impl.OpLoop && nested > 0 {
			s = loop(d.stmts(types, most/2, nested-1)...)
		} else if s.Op > impl.OpBox {
			s.N = 0
		}
		if s.Op <= impl.OpBox || s.Op == impl.OpDrop {
			s.Y = 0
		}
		if s.Op >= impl.OpIf || needs(types, s) {
			list = append(list, s)
		}
	}
	return list
}

func count(list []impl.Stmt) int {
	n := len(list)
	for _, s := range list {
		n += count(s.Then) + count(s.Else)
	}
	return n
}

func TestProgramsAreReadBack(t *testing.T) {
	d := &dice{state: 1}
	read, texts := 0, map[string]impl.Program{}
	for range 3000 {
		types := make([]int, d.upTo(7))
		for v := range types {
			types[v] = 1 + d.upTo(4)
		}
		p := impl.Program{Types: types, Body: d.stmts(types, 40, 5)}
		text := impl.FormatProgram(p)
		if text == "" {
			if impl.ProgramValid(p) {
				t.Errorf("%v has no text", p)
			}
			continue
		}
		read++
		q, ok := impl.ParseProgram(text)
		if !ok || !impl.ProgramSame(p, q) || impl.FormatProgram(q) != text || impl.CountStmts(q) != count(p.Body) {
			t.Errorf("ParseProgram(%q) = %v, %v", text, q, ok)
		}
		if r, ok := texts[text]; ok && !impl.ProgramSame(p, r) {
			t.Errorf("%v and %v have the same text", p, r)
		}
		texts[text] = p
	}
	if read < 500 {
		t.Errorf("only %d programs are valid", read)
	}
}

func TestProgramSame(t *testing.T) {
	base := func() impl.Program {
		return impl.Program{Types: []int{1, 2}, Body: []impl.Stmt{
			simple(1, 2, 3, 4), either(ints(2), []impl.Stmt{loop(ints(1)...)}), {Op: 99, Else: ints(1)}}}
	}
	if !impl.ProgramSame(base(), base()) || !impl.ProgramSame(impl.Program{}, impl.Program{Types: []int{}, Body: []impl.Stmt{}}) {
		t.Error("equal programs are not the same")
	}
	if !impl.ProgramSame(impl.Program{Body: []impl.Stmt{{Then: []impl.Stmt{}}}}, impl.Program{Body: []impl.Stmt{{Else: []impl.Stmt{}}}}) {
		t.Error("a nil list and an empty one are not the same")
	}
	for name, change := range map[string]func(p *impl.Program){
		"types": func(p *impl.Program) { p.Types = p.Types[:1] },
		"type":  func(p *impl.Program) { p.Types[1] = 7 },
		"body":  func(p *impl.Program) { p.Body = p.Body[:2] },
		"none":  func(p *impl.Program) { p.Body = nil },
		"order": func(p *impl.Program) { p.Body[0], p.Body[1] = p.Body[1], p.Body[0] },
		"op":    func(p *impl.Program) { p.Body[0].Op = 0 },
		"x":     func(p *impl.Program) { p.Body[0].X = -2 },
		"y":     func(p *impl.Program) { p.Body[0].Y = 0 },
		"n":     func(p *impl.Program) { p.Body[0].N = 5 },
		"then":  func(p *impl.Program) { p.Body[1].Then[1].N = 2 },
		"short": func(p *impl.Program) { p.Body[1].Then = p.Body[1].Then[:1] },
		"else":  func(p *impl.Program) { p.Body[1].Else = nil },
		"deep":  func(p *impl.Program) { p.Body[1].Else[0].Then[0].N = 9 },
		"more":  func(p *impl.Program) { p.Body[0].Then = ints(1) },
		"other": func(p *impl.Program) { p.Body[2].Then, p.Body[2].Else = p.Body[2].Else, nil },
		"last":  func(p *impl.Program) { p.Body[2].Else[0].X = 1 },
	} {
		p := base()
		change(&p)
		if impl.ProgramSame(p, base()) || impl.ProgramSame(base(), p) {
			t.Errorf("ProgramSame does not see the change of %s", name)
		}
	}
}

func TestVarsOf(t *testing.T) {
	for _, c := range []struct {
		s    impl.Stmt
		want []int
	}{
		{simple(impl.OpInt, 3, 1, 2), []int{3}},
		{simple(impl.OpBox, 5, 1, 2), []int{5}},
		{simple(impl.OpMove, 4, 1, 2), []int{1, 4}},
		{simple(impl.OpShare, 1, 4, 2), []int{1, 4}},
		{simple(impl.OpBorrow, 0, 5, 0), []int{0, 5}},
		{simple(impl.OpLoad, 2, 2, 0), []int{2}},
		{simple(impl.OpStore, 3, 0, 0), []int{0, 3}},
		{simple(impl.OpDrop, 3, 1, 0), []int{3}},
		{simple(impl.OpIf, 3, 1, 0), nil},
		{simple(impl.OpLoop, 3, 1, 0), nil},
		{simple(11, 3, 1, 0), nil},
		{simple(1<<63-1, 3, 1, 0), nil},
		{simple(0, 3, 1, 0), []int{3}},
		{simple(-1, 3, 1, 0), []int{3}},
		{simple(-1<<63, 3, 1, 0), []int{3}},
		{simple(impl.OpMove, -1, 6, 0), nil},
		{simple(impl.OpMove, 6, -1, 0), nil},
		{simple(impl.OpMove, 6, 5, 0), []int{5}},
		{simple(impl.OpMove, 0, 1<<40, 0), []int{0}},
		{impl.Stmt{}, []int{0}},
		{either(nil, nil), nil},
		{either([]impl.Stmt{simple(8, 5, 0, 0), simple(1, 2, 0, 0)}, []impl.Stmt{loop(simple(3, 2, 0, 0))}), []int{0, 2, 5}},
		{impl.Stmt{Op: impl.OpInt, X: 4, Then: []impl.Stmt{simple(8, 3, 0, 0)}, Else: []impl.Stmt{simple(8, 1, 0, 0)}}, []int{1, 3, 4}},
		{impl.Stmt{Op: 77, X: 4, Then: []impl.Stmt{simple(8, 3, 0, 0)}}, []int{3}},
		{impl.Stmt{Op: impl.OpLoop, Else: []impl.Stmt{simple(8, 3, 0, 0)}}, []int{3}},
		{loop(simple(3, 5, 4, 0), simple(3, 3, 2, 0), simple(3, 1, 0, 0)), []int{0, 1, 2, 3, 4, 5}},
	} {
		if got := impl.VarsOf(c.s); !slices.Equal(got, c.want) {
			t.Errorf("VarsOf(%v) = %v, want %v", c.s, got, c.want)
		}
	}
}

// Go lets a list be a part of itself, and be in many places: the functions return for such arguments, too.
func TestEndlessStatements(t *testing.T) {
	a := endless(simple(impl.OpLoop, 0, 0, 0))
	b := endless(simple(impl.OpLoop, 0, 0, 0))
	c := endless(simple(impl.OpMove, 2, 5, 0))
	twice := []impl.Stmt{{Op: impl.OpLoop}}
	twice[0].Then = []impl.Stmt{{Op: impl.OpLoop, Then: twice}}
	program := func(body ...impl.Stmt) impl.Program { return impl.Program{Body: body} }
	for name, s := range map[string]impl.Stmt{
		"a loop in itself": a[0], "a move in itself": c[0], "doubled": doubled(loop()), "deep": deep(loop()),
	} {
		p := program(s)
		if impl.StmtValid(nil, s) || impl.ProgramValid(p) || impl.FormatProgram(p) != "" || impl.CountStmts(p) != 0 {
			t.Errorf("%s is valid", name)
		}
	}
	if !impl.ProgramSame(program(a...), program(b...)) || !impl.ProgramSame(program(a...), program(twice...)) || impl.ProgramSame(program(a...), program(c...)) {
		t.Error("ProgramSame is wrong for lists in themselves")
	}
	if !impl.ProgramSame(program(doubled(loop())), program(doubled(loop()))) || impl.ProgramSame(program(doubled(loop())), program(doubled(a[0]))) {
		t.Error("ProgramSame is wrong for lists in many places")
	}
	if !impl.ProgramSame(program(deep(loop())), program(deep(loop()))) || impl.ProgramSame(program(deep(loop())), program(deep(simple(1, 0, 0, 0)))) {
		t.Error("ProgramSame is wrong for deep lists")
	}
	if !slices.Equal(impl.VarsOf(c[0]), []int{2, 5}) || len(impl.VarsOf(a[0])) != 0 {
		t.Error("VarsOf is wrong for lists in themselves")
	}
	for _, s := range []impl.Stmt{doubled(c[0]), deep(c[0]), doubled(simple(impl.OpMove, 2, 5, 0))} {
		if !slices.Equal(impl.VarsOf(s), []int{2, 5}) {
			t.Errorf("VarsOf of many parts = %v", impl.VarsOf(s))
		}
	}
}

func TestProgsShareNoMemory(t *testing.T) {
	text := "ib:b=box 1;if{a=1;a=2}{a=3};loop{a=4}"
	p, _ := impl.ParseProgram(text)
	q, _ := impl.ParseProgram(text)
	for _, list := range [][]impl.Stmt{p.Body, p.Body[1].Then, p.Body[1].Else, p.Body[2].Then} {
		unused := list[len(list):cap(list)]
		for i := range unused {
			unused[i] = simple(8, 1, 0, 0)
		}
	}
	if impl.FormatProgram(p) != text {
		t.Errorf("the lists of a result share memory: %q", impl.FormatProgram(p))
	}
	p.Types[0], p.Body[0].N, p.Body[1].Then[1].N, p.Body[1].Else[0].N = 3, 9, 9, 9
	if impl.FormatProgram(q) != text {
		t.Errorf("two results share memory: %q", impl.FormatProgram(q))
	}
	s := loop(simple(3, 5, 4, 0))
	v := impl.VarsOf(s)
	v[0] = 9
	if !slices.Equal(impl.VarsOf(s), []int{4, 5}) {
		t.Errorf("VarsOf = %v", impl.VarsOf(s))
	}
}

// What is behind the length of an argument is not read as a part of it, and not changed.
func TestProgsKeepArguments(t *testing.T) {
	types, body := []int{1, 2, 99}, append(ints(2), either(ints(1), ints(1)), simple(99, 99, 99, 99))
	p := impl.Program{Types: types[:2], Body: body[:3]}
	impl.ProgramValid(p)
	impl.ProgramSame(p, p)
	impl.CountStmts(p)
	impl.VarsOf(p.Body[2])
	if impl.FormatProgram(p) != "ib:a=1;a=1;if{a=1}{a=1}" {
		t.Errorf("FormatProgram = %q", impl.FormatProgram(p))
	}
	if !slices.Equal(types, []int{1, 2, 99}) || !reflect.DeepEqual(body, append(ints(2), either(ints(1), ints(1)), simple(99, 99, 99, 99))) {
		t.Errorf("an argument changed: %v %v", types, body)
	}
}

func TestConstants(t *testing.T) {
	got := []int{impl.TypeInt, impl.TypeBox, impl.TypeRef, impl.TypeMut, impl.OpInt, impl.OpBox, impl.OpMove, impl.OpShare, impl.OpBorrow,
		impl.OpLoad, impl.OpStore, impl.OpDrop, impl.OpIf, impl.OpLoop, impl.MaxVars, impl.MaxStmts, impl.MaxNested, impl.MaxNumber}
	if want := []int{1, 2, 3, 4, 1, 2, 3, 4, 5, 6, 7, 8, 9, 10, 6, 30, 4, 9}; !slices.Equal(got, want) {
		t.Errorf("constants = %v, want %v", got, want)
	}
	for n := range impl.MaxNumber + 1 {
		text := "i:a=" + strconv.Itoa(n)
		if p, ok := impl.ParseProgram(text); !ok || p.Body[0].N != n {
			t.Errorf("ParseProgram(%q) = %v, %v", text, p, ok)
		}
	}
}
