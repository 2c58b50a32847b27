package tests

import (
	"fmt"
	"slices"
	"strings"
	"testing"

	"loop.example/borrowcheck/impl"
)

// shown is the text of a program that was changed, or "no" if there is none, where it has to be the zero value.
func shown(t *testing.T, q impl.Program, ok bool) string {
	t.Helper()
	if ok {
		return impl.FormatProgram(q)
	}
	if q.Types != nil || q.Body != nil {
		t.Errorf("a program is returned together with false: %v", q)
	}
	return "no"
}

// atStmt are the changes of a statement of the body.
var atStmt = map[string]func(p impl.Program, k int) (impl.Program, bool){
	"swap": impl.SwapStmts, "forward": impl.ForwardLoad, "dead": impl.DropDead, "unroll": impl.UnrollLoop,
}

func TestChangesOfAStatement(t *testing.T) {
	for _, c := range []struct {
		change, text string
		k            int
		want         string
	}{
		{"swap", "ii:a=1;b=2", 0, "ii:b=2;a=1"},
		{"swap", "iii:a=1;b=2;c=3", 1, "iii:a=1;c=3;b=2"},
		{"swap", "ii:a=1;b=2", 1, "no"},
		{"swap", "i:a=1;a=2", 0, "no"},
		{"swap", "i:a=1", 0, "no"},
		{"swap", "i:", 0, "no"},
		{"swap", "i:loop{a=1;a=2}", 0, "no"},
		// A number has no Y, which is 0 and not the variable a.
		{"swap", "ii:b=1;a=2", 0, "ii:a=2;b=1"},
		{"swap", "iib:c=box 1;a=2", 0, "iib:a=2;c=box 1"},
		{"swap", "iib:drop c;a=2", 0, "iib:a=2;drop c"},
		{"swap", "ibb:a=*b;drop c", 0, "ibb:drop c;a=*b"},
		{"swap", "ibrbm:c=&b;e=&mut d", 0, "ibrbm:e=&mut d;c=&b"},
		{"swap", "iibb:*c=a;b=*d", 0, "iibb:b=*d;*c=a"},
		// Each place at which the two can have a variable in common.
		{"swap", "ib:*b=a;a=3", 0, "no"},
		{"swap", "ii:a=3;b=a", 0, "no"},
		{"swap", "ii:b=a;a=3", 0, "no"},
		{"swap", "iii:a=c;b=c", 0, "no"},
		{"swap", "iibb:*c=a;b=*c", 0, "no"},
		{"swap", "brr:b=&a;c=&a", 0, "no"},
		{"swap", "brm:b=&a;c=&mut a", 0, "no"},
		{"swap", "b:drop a;drop a", 0, "no"},
		// Neither may have statements in it, though they have no variable in common.
		{"swap", "i:a=1;if{}{}", 0, "no"},
		{"swap", "i:if{}{};a=1", 0, "no"},
		{"swap", "i:a=1;loop{}", 0, "no"},
		{"swap", "i:loop{};a=1", 0, "no"},
		{"swap", ":loop{};if{}{}", 0, "no"},
		{"swap", "iii:if{a=1}{};b=2;c=3;loop{}", 1, "iii:if{a=1}{};c=3;b=2;loop{}"},
		// Nothing else is asked for: both statements can be about the same cell, and be refused in the other order.
		{"swap", "ibr:b=box 1;c=&b;a=*c;drop b", 2, "ibr:b=box 1;c=&b;drop b;a=*c"},
		{"swap", "ibimm:b=box 1;c=2;d=&mut b;e=&mut d;a=*e;*d=c", 4, "ibimm:b=box 1;c=2;d=&mut b;e=&mut d;*d=c;a=*e"},

		{"forward", "iib:a=4;c=box 1;*c=a;b=*c", 2, "iib:a=4;c=box 1;*c=a;b=a"},
		{"forward", "iibm:a=4;c=box 1;d=&mut c;*d=a;b=*d", 3, "iibm:a=4;c=box 1;d=&mut c;*d=a;b=a"},
		{"forward", "iib:*c=b;a=*c;a=1", 0, "iib:*c=b;a=b;a=1"},
		{"forward", "iim:if{}{};*c=a;b=*c;loop{b=*c}", 1, "iim:if{}{};*c=a;b=a;loop{b=*c}"},
		{"forward", "iib:*c=a;b=*c;b=*c", 0, "iib:*c=a;b=a;b=*c"},
		{"forward", "iib:*c=a;b=*c;b=*c", 1, "no"},
		// A load into the variable that was stored.
		{"forward", "ib:a=4;b=box 1;*b=a;a=*b", 2, "no"},
		{"forward", "im:*b=a;a=*b", 0, "no"},
		// Other variables than the one through which the number was stored, even one that reaches the same cell.
		{"forward", "iibb:*c=a;b=*d", 0, "no"},
		{"forward", "iibr:a=1;c=box 1;d=&c;*c=a;b=*d", 3, "no"},
		{"forward", "iibm:a=1;c=box 1;d=&mut c;*d=a;b=*c", 3, "no"},
		// Other statements than a store with a load right behind it.
		{"forward", "iib:b=*c;*c=a", 0, "no"},
		{"forward", "iib:*c=a;a=1;b=*c", 0, "no"},
		{"forward", "iib:*c=a;a=1;b=*c", 1, "no"},
		{"forward", "iib:*c=a;*c=b", 0, "no"},
		{"forward", "iib:*c=a;b=a", 0, "no"},
		{"forward", "iib:*c=a;drop c", 0, "no"},
		{"forward", "iibr:*c=a;d=&c", 0, "no"},
		{"forward", "iibm:*c=a;d=&mut c", 0, "no"},
		{"forward", "iibb:*c=a;d=c", 0, "no"},
		{"forward", "iib:drop c;b=*c", 0, "no"},
		{"forward", "iib:c=box 1;b=*c", 0, "no"},
		{"forward", "iibb:c=d;b=*c", 0, "no"},
		{"forward", "iibm:d=&mut c;b=*d", 0, "no"},
		{"forward", "iib:a=*c;b=*c", 0, "no"},
		{"forward", "iib:*c=a;loop{b=*c}", 0, "no"},
		{"forward", "iib:loop{*c=a;b=*c}", 0, "no"},
		{"forward", "iib:loop{*c=a};b=*c", 0, "no"},
		{"forward", "iib:*c=a", 0, "no"},
		{"forward", "iib:", 0, "no"},

		{"dead", "i:a=1", 0, "i:"},
		{"dead", "i:a=1;a=2", 0, "i:a=2"},
		{"dead", "i:a=1;a=2", 1, "i:a=1"},
		{"dead", "ii:a=1;b=a", 0, "no"},
		{"dead", "ii:a=1;b=a", 1, "ii:a=1"},
		{"dead", "ii:a=1;b=a;a=2", 2, "ii:a=1;b=a"},
		// Each kind of statement, where nothing is live.
		{"dead", "ib:a=*b", 0, "ib:"},
		{"dead", "ir:a=*b", 0, "ir:"},
		{"dead", "br:b=&a", 0, "br:"},
		{"dead", "bm:b=&mut a", 0, "bm:"},
		{"dead", "ii:a=b", 0, "ii:"},
		{"dead", "rr:a=b", 0, "rr:"},
		{"dead", "mm:a=b", 0, "no"},
		{"dead", "bb:a=b", 0, "no"},
		{"dead", "b:a=box 1", 0, "no"},
		{"dead", "ib:*b=a", 0, "no"},
		{"dead", "b:drop a", 0, "no"},
		{"dead", ":if{}{}", 0, "no"},
		{"dead", ":loop{}", 0, "no"},
		{"dead", "i:if{a=1}{}", 0, "no"},
		{"dead", "i:loop{a=1}", 0, "no"},
		{"dead", "i:", 0, "no"},
		// Uses of each kind behind it.
		{"dead", "ibr:b=box 1;c=&b;a=*c", 1, "no"},
		{"dead", "ibr:b=box 1;c=&b;a=*c", 2, "ibr:b=box 1;c=&b"},
		{"dead", "ibrr:b=box 1;c=&b;d=c", 1, "no"},
		{"dead", "ibrr:b=box 1;c=&b;d=c", 2, "ibrr:b=box 1;c=&b"},
		{"dead", "bmm:a=box 1;b=&mut a;c=b", 1, "no"},
		{"dead", "ibm:a=1;b=box 1;c=&mut b;*c=a", 0, "no"},
		{"dead", "ibm:a=1;b=box 1;c=&mut b;*c=a", 2, "no"},
		// On one way, on all of them, and in a loop.
		{"dead", "ii:a=1;if{b=a}{}", 0, "no"},
		{"dead", "ii:a=1;if{}{b=a}", 0, "no"},
		{"dead", "ii:a=1;if{a=2}{};b=a", 0, "no"},
		{"dead", "ii:a=1;if{a=2}{a=3};b=a", 0, "ii:if{a=2}{a=3};b=a"},
		{"dead", "ii:a=1;loop{b=a;a=2}", 0, "no"},
		{"dead", "ii:a=1;loop{a=2;b=a}", 0, "ii:loop{a=2;b=a}"},
		{"dead", "ii:a=1;loop{a=2};b=a", 0, "no"},
		// The point of a statement has another number, if some in front of it have several points.
		{"dead", "ii:loop{};a=1;b=a", 1, "no"},
		{"dead", "ii:if{}{};a=1;b=a", 1, "no"},
		{"dead", "ii:if{a=1}{loop{a=2}};b=a;a=3;b=a", 1, "ii:if{a=1}{loop{a=2}};a=3;b=a"},
		{"dead", "ii:if{a=1}{loop{a=2}};b=a;a=3;b=a", 2, "no"},
		{"dead", "ii:if{a=1}{loop{a=2}};b=a;a=3;b=a", 3, "ii:if{a=1}{loop{a=2}};b=a;a=3"},

		{"unroll", "ib:b=box 1;loop{a=*b;a=2}", 1, "ib:b=box 1;if{a=*b;a=2;loop{a=*b;a=2}}{}"},
		{"unroll", "i:a=1;loop{a=2};a=3", 1, "i:a=1;if{a=2;loop{a=2}}{};a=3"},
		{"unroll", ":loop{}", 0, ":if{loop{}}{}"},
		{"unroll", "i:loop{loop{a=1};if{}{a=2}}", 0, "i:if{loop{a=1};if{}{a=2};loop{loop{a=1};if{}{a=2}}}{}"},
		{"unroll", "i:loop{a=1};loop{a=2}", 0, "i:if{a=1;loop{a=1}}{};loop{a=2}"},
		{"unroll", "i:loop{a=1};loop{a=2}", 1, "i:loop{a=1};if{a=2;loop{a=2}}{}"},
		{"unroll", "i:if{loop{a=1}}{}", 0, "no"},
		{"unroll", "i:if{a=1}{}", 0, "no"},
		{"unroll", "i:a=1", 0, "no"},
		{"unroll", "b:drop a", 0, "no"},
		{"unroll", ":", 0, "no"},
		// A loop that is too deep when it is unrolled.
		{"unroll", ":loop{loop{loop{}}}", 0, ":if{loop{loop{}};loop{loop{loop{}}}}{}"},
		{"unroll", ":loop{loop{loop{loop{}}}}", 0, "no"},
		{"unroll", "i:loop{if{}{loop{if{}{a=1}}}}", 0, "no"},
		{"unroll", "i:loop{if{}{loop{a=1}}}", 0, "i:if{if{}{loop{a=1}};loop{if{}{loop{a=1}}}}{}"},
		{"unroll", ":loop{};loop{loop{loop{loop{}}}}", 0, ":if{loop{}}{};loop{loop{loop{loop{}}}}"},
	} {
		p := parsed(t, c.text)
		q, ok := atStmt[c.change](p, c.k)
		if got := shown(t, q, ok); got != c.want {
			t.Errorf("%s of %s at %d: %s, want %s", c.change, c.text, c.k, got, c.want)
		}
		if after := impl.FormatProgram(p); after != c.text {
			t.Errorf("%s of %s: an argument changed: %s", c.change, c.text, after)
		}
	}
}

func TestAddDrop(t *testing.T) {
	for _, c := range []struct {
		text string
		k, v int
		want string
	}{
		{"b:a=box 1", 1, 0, "b:a=box 1;drop a"},
		{"b:a=box 1", 0, 0, "no"},
		{"b:a=box 1", 2, 0, "no"},
		{"b:", 0, 0, "no"},
		{"b:a=box 1;a=box 2", 1, 0, "b:a=box 1;drop a;a=box 2"},
		{"b:a=box 1;a=box 2", 2, 0, "b:a=box 1;a=box 2;drop a"},
		{"bb:a=box 1;b=box 2", 2, 1, "bb:a=box 1;b=box 2;drop b"},
		{"bb:a=box 1;b=box 2", 1, 1, "no"},
		// A box that is dropped twice, or moved and dropped.
		{"b:a=box 1;drop a", 1, 0, "no"},
		{"b:a=box 1;drop a", 2, 0, "no"},
		{"b:a=box 1;drop a;a=box 2", 2, 0, "no"},
		{"b:a=box 1;drop a;a=box 2", 3, 0, "b:a=box 1;drop a;a=box 2;drop a"},
		{"bb:a=box 1;b=a", 1, 0, "no"},
		{"bb:a=box 1;b=a", 2, 0, "no"},
		{"bb:a=box 1;b=a", 2, 1, "bb:a=box 1;b=a;drop b"},
		// What is used behind it, through the box or through a reference to its cell.
		{"ib:b=box 1;a=*b", 1, 1, "no"},
		{"ib:b=box 1;a=*b", 2, 1, "ib:b=box 1;a=*b;drop b"},
		{"ibr:b=box 1;c=&b;a=*c", 2, 1, "no"},
		{"ibr:b=box 1;c=&b;a=*c", 3, 1, "ibr:b=box 1;c=&b;a=*c;drop b"},
		{"ibr:b=box 1;c=&b", 2, 1, "ibr:b=box 1;c=&b;drop b"},
		{"ibmm:a=1;b=box 1;c=&mut b;d=c;*d=a", 4, 1, "no"},
		{"ibmm:a=1;b=box 1;c=&mut b;d=c;*d=a", 5, 1, "ibmm:a=1;b=box 1;c=&mut b;d=c;*d=a;drop b"},
		// Other types than that of boxes.
		{"ibrm:a=1;b=box 1;d=&mut b;c=&d", 4, 0, "no"},
		{"ibrm:a=1;b=box 1;d=&mut b;c=&d", 4, 1, "ibrm:a=1;b=box 1;d=&mut b;c=&d;drop b"},
		{"ibrm:a=1;b=box 1;d=&mut b;c=&d", 4, 2, "no"},
		{"ibrm:a=1;b=box 1;d=&mut b;c=&d", 4, 3, "no"},
		// A box that has a value on some way only, or on all of them.
		{"b:if{a=box 1}{}", 1, 0, "no"},
		{"b:if{a=box 1}{a=box 2}", 1, 0, "b:if{a=box 1}{a=box 2};drop a"},
		{"b:a=box 1;if{drop a}{}", 2, 0, "no"},
		{"b:a=box 1;if{drop a}{}", 1, 0, "no"},
		{"b:loop{a=box 1}", 1, 0, "no"},
		{"b:loop{a=box 1}", 0, 0, "no"},
		// The first point of a loop is its choice, to which it comes back, whatever is in front of it.
		{"b:a=box 1;loop{a=box 2}", 1, 0, "b:a=box 1;drop a;loop{a=box 2}"},
		{"b:a=box 1;loop{a=box 2}", 2, 0, "b:a=box 1;loop{a=box 2};drop a"},
		{"b:a=box 1;loop{a=box 2;drop a}", 1, 0, "no"},
		{"b:a=box 1;loop{drop a;a=box 2}", 1, 0, "no"},
		{"b:a=box 1;loop{drop a;a=box 2}", 2, 0, "b:a=box 1;loop{drop a;a=box 2};drop a"},
		{"b:loop{};a=box 1;if{}{};loop{}", 1, 0, "no"},
		{"b:loop{};a=box 1;if{}{};loop{}", 2, 0, "b:loop{};a=box 1;drop a;if{}{};loop{}"},
		{"b:loop{};a=box 1;if{}{};loop{}", 3, 0, "b:loop{};a=box 1;if{}{};drop a;loop{}"},
		{"b:loop{};a=box 1;if{}{};loop{}", 4, 0, "b:loop{};a=box 1;if{}{};loop{};drop a"},
		// Issues elsewhere, in front of the drop or behind it.
		{"iib:a=b;c=box 1", 2, 2, "no"},
		{"iib:c=box 1;a=b", 1, 2, "no"},
		{"iibr:c=box 1;d=&c;drop c;c=box 2;a=*d", 5, 2, "no"},
	} {
		p := parsed(t, c.text)
		q, ok := impl.AddDrop(p, c.k, c.v)
		if got := shown(t, q, ok); got != c.want {
			t.Errorf("AddDrop(%s, %d, %d) = %s, want %s", c.text, c.k, c.v, got, c.want)
		}
	}
}

func TestSequenceOf(t *testing.T) {
	for _, c := range []struct{ p, q, want string }{
		{":", ":", ":"},
		{"i:", "i:", "i:"},
		{"i:a=1", "i:", "i:a=1"},
		{"i:", "i:a=1", "i:a=1"},
		{"i:a=1", "i:a=2;a=3", "i:a=1;a=2;a=3"},
		{"ib:b=box 1;loop{a=*b;a=2}", "ib:drop b", "ib:b=box 1;loop{a=*b;a=2};drop b"},
		{":loop{loop{loop{loop{}}}}", ":if{}{};loop{loop{loop{loop{}}}}", ":loop{loop{loop{loop{}}}};if{}{};loop{loop{loop{loop{}}}}"},
		// It need not be accepted, nor need the two programs.
		{"ib:drop b", "ib:a=*b", "ib:drop b;a=*b"},
		// Other types, more of them, less of them, and in another order.
		{"i:a=1", "b:a=box 1", "no"},
		{"i:a=1", "ii:a=1", "no"},
		{"ii:a=1", "i:a=1", "no"},
		{"ib:a=1", "bi:b=1", "no"},
		{":", "i:", "no"},
		{"i:", ":", "no"},
		{"r:", "m:", "no"},
	} {
		q, ok := impl.SequenceOf(parsed(t, c.p), parsed(t, c.q))
		if got := shown(t, q, ok); got != c.want {
			t.Errorf("SequenceOf(%s, %s) = %s, want %s", c.p, c.q, got, c.want)
		}
	}
}

func TestRenameVars(t *testing.T) {
	for _, c := range []struct {
		text  string
		names []int
		want  string
	}{
		{":", nil, ":"},
		{":", []int{}, ":"},
		{":if{}{};loop{}", nil, ":if{}{};loop{}"},
		{"i:a=1", []int{0}, "i:a=1"},
		{"ib:b=box 1;a=*b", []int{0, 1}, "ib:b=box 1;a=*b"},
		// names leads from the old variable to the new one, not back.
		{"ibr:b=box 1;c=&b;a=*c;drop b", []int{1, 2, 0}, "rib:c=box 1;a=&c;b=*a;drop c"},
		{"ibr:b=box 1;c=&b;a=*c;drop b", []int{2, 0, 1}, "bri:a=box 1;b=&a;c=*b;drop a"},
		{"iibbrm:e=&c;f=&mut d;*f=a;b=*e;c=d;a=b", []int{5, 4, 3, 2, 1, 0}, "mrbbii:b=&d;a=&mut c;*a=f;e=*b;d=c;f=e"},
		// What stands for no variable stays zero, also where 0 gets another name.
		{"ii:b=7", []int{1, 0}, "ii:a=7"},
		{"ib:b=box 7;drop b", []int{1, 0}, "bi:a=box 7;drop a"},
		{"ii:if{a=1}{b=2;loop{a=b}};loop{if{b=a}{}}", []int{1, 0}, "ii:if{b=1}{a=2;loop{b=a}};loop{if{a=b}{}}"},
		// The variables change their types with their numbers, though some are not used.
		{"ibrm:", []int{3, 1, 0, 2}, "rbmi:"},
		{"ibrm:a=0", []int{3, 1, 0, 2}, "rbmi:d=0"},
		// Lists that are no permutation.
		{":", []int{0}, "no"},
		{"i:a=1", nil, "no"},
		{"i:a=1", []int{1}, "no"},
		{"i:a=1", []int{-1}, "no"},
		{"i:a=1", []int{0, 1}, "no"},
		{"i:a=1", []int{0, 0}, "no"},
		{"ii:a=1", []int{0}, "no"},
		{"ii:a=1", []int{0, 0}, "no"},
		{"ii:a=1", []int{1, 1}, "no"},
		{"ii:a=1", []int{1, 2}, "no"},
		{"ii:a=1", []int{0, 2}, "no"},
		{"ii:a=1", []int{-1, 0}, "no"},
		{"ii:a=1", []int{0, 1, 2}, "no"},
		{"iii:a=1", []int{0, 1, 64}, "no"},
		{"iii:a=1", []int{2, 2, -1}, "no"},
		{"iii:a=1", []int{0, 1, -1 << 63}, "no"},
		{"iii:a=1", []int{1<<63 - 1, 1, 0}, "no"},
		{"iii:a=1", []int{0, 1, 1 << 32}, "no"},
		{"iiiiii:a=1", []int{0, 1, 2, 3, 4, 4}, "no"},
		{"iiiiii:a=1", []int{0, 1, 2, 3, 4, 6}, "no"},
		{"iiiiii:a=1", []int{0, 1, 2, 3, 4, 5, 5}, "no"},
	} {
		p, names := parsed(t, c.text), slices.Clone(c.names)
		q, ok := impl.RenameVars(p, names)
		if got := shown(t, q, ok); got != c.want {
			t.Errorf("RenameVars(%s, %v) = %s, want %s", c.text, c.names, got, c.want)
		}
		if impl.FormatProgram(p) != c.text || !slices.Equal(names, c.names) {
			t.Errorf("RenameVars(%s, %v) has changed an argument", c.text, c.names)
		}
	}
}

func TestVarsApart(t *testing.T) {
	several := either([]impl.Stmt{simple(impl.OpDrop, 5, 0, 0)}, []impl.Stmt{loop(simple(impl.OpMove, 2, 1, 0))})
	for _, c := range []struct {
		a, b impl.Stmt
		want bool
	}{
		{simple(impl.OpInt, 1, 0, 3), simple(impl.OpInt, 0, 0, 3), true},
		{simple(impl.OpInt, 1, 0, 3), simple(impl.OpInt, 1, 0, 4), false},
		{simple(impl.OpMove, 1, 2, 0), simple(impl.OpMove, 3, 4, 0), true},
		{simple(impl.OpMove, 1, 2, 0), simple(impl.OpMove, 3, 1, 0), false},
		{simple(impl.OpMove, 1, 2, 0), simple(impl.OpMove, 2, 3, 0), false},
		{simple(impl.OpMove, 1, 2, 0), simple(impl.OpMove, 3, 2, 0), false},
		{simple(impl.OpMove, 1, 2, 0), simple(impl.OpMove, 1, 3, 0), false},
		{several, simple(impl.OpDrop, 0, 5, 0), true},
		{several, simple(impl.OpLoad, 0, 5, 0), false},
		{several, simple(impl.OpLoad, 3, 4, 0), true},
		{several, simple(impl.OpStore, 2, 0, 0), false},
		{several, simple(impl.OpStore, 0, 1, 0), false},
		{several, several, false},
		{either(nil, nil), either(nil, nil), true},
		{either(nil, nil), loop(several), true},
		{loop(), simple(impl.OpInt, 0, 0, 0), true},
		// Statements that are not valid.
		{impl.Stmt{}, impl.Stmt{}, false},
		{impl.Stmt{}, simple(impl.OpInt, 1, 0, 0), true},
		{simple(-5, 3, 2, 0), simple(impl.OpMove, 3, 2, 0), false},
		{simple(-5, 3, 2, 0), simple(impl.OpMove, 1, 2, 0), true},
		{simple(11, 3, 2, 0), simple(impl.OpMove, 3, 2, 0), true},
		{simple(impl.OpIf, 3, 2, 0), simple(impl.OpMove, 3, 2, 0), true},
		{simple(impl.OpMove, 6, 7, 0), simple(impl.OpMove, 6, 7, 0), true},
		{simple(impl.OpMove, -1, 64, 0), simple(impl.OpMove, 64, -1, 0), true},
		{simple(impl.OpMove, 1<<62, 2, 0), simple(impl.OpMove, 1<<62, 1, 0), true},
		{impl.Stmt{Op: impl.OpInt, X: 1, Else: []impl.Stmt{simple(impl.OpInt, 4, 0, 0)}}, simple(impl.OpInt, 4, 0, 0), false},
		{endless(simple(impl.OpMove, 2, 5, 0))[0], endless(simple(impl.OpMove, 4, 3, 0))[0], true},
		{endless(simple(impl.OpMove, 2, 5, 0))[0], endless(simple(impl.OpMove, 5, 3, 0))[0], false},
		{doubled(simple(impl.OpMove, 2, 5, 0)), deep(simple(impl.OpMove, 4, 3, 0)), true},
		{doubled(simple(impl.OpMove, 2, 5, 0)), deep(simple(impl.OpMove, 4, 2, 0)), false},
	} {
		if impl.VarsApart(c.a, c.b) != c.want || impl.VarsApart(c.b, c.a) != c.want {
			t.Errorf("VarsApart of a statement with the variables %v and one with %v is not %v", impl.VarsOf(c.a), impl.VarsOf(c.b), c.want)
		}
	}
}

// words hides the letters of texts that stand for no variable.
var words = strings.NewReplacer("box", "BOX", "drop", "DROP", "if", "IF")

// varLetters are the variables of the text of a statement, some of them several times.
func varLetters(text string) string {
	return strings.Map(func(c rune) rune {
		if c >= 'a' && c <= 'f' {
			return c
		}
		return -1
	}, words.Replace(text))
}

func renamedText(text string, names []int) string {
	types, body, _ := strings.Cut(text, ":")
	letters := make([]byte, len(types))
	for v := range types {
		letters[names[v]] = types[v]
	}
	body = strings.Map(func(c rune) rune {
		if c >= 'a' && c <= 'f' {
			return rune('a' + names[c-'a'])
		}
		return c
	}, words.Replace(body))
	return string(letters) + ":" + strings.ToLower(body)
}

// split is a program with the texts of its types and of the statements of its body, with the first points of these
// and of what is behind them, and with all that its variables can have.
type split struct {
	p      impl.Program
	types  string
	body   []string
	points []impl.Point
	first  []int
	valued map[valued]bool
}

func splitProgram(p impl.Program) split {
	types, _, _ := strings.Cut(impl.FormatProgram(p), ":")
	s := split{p: p, types: types, points: impl.PointsOf(p), first: []int{0}, valued: allValued(p)}
	for k, stmt := range p.Body {
		_, text, _ := strings.Cut(impl.FormatProgram(impl.Program{Types: p.Types, Body: []impl.Stmt{stmt}}), ":")
		s.body = append(s.body, text)
		s.first = append(s.first, s.first[k]+pointsIn(stmt))
	}
	return s
}

// with is the text of the program with other statements instead of some, if it is the text of a program.
func (s split) with(k, count int, others ...string) string {
	text := s.types + ":" + strings.Join(slices.Concat(s.body[:k], others, s.body[k+count:]), ";")
	if _, ok := impl.ParseProgram(text); !ok {
		return "no"
	}
	return text
}

func (s split) swap(k int) string {
	if k < 0 || k+1 >= len(s.body) {
		return "no"
	}
	a, b := s.body[k], s.body[k+1]
	if strings.Contains(a+b, "{") || strings.ContainsAny(varLetters(a), varLetters(b)) {
		return "no"
	}
	return s.with(k, 2, b, a)
}

func (s split) forward(k int) string {
	if k < 0 || k+1 >= len(s.body) || s.body[k][0] != '*' {
		return "no"
	}
	cell, stored, _ := strings.Cut(s.body[k], "=")
	to, from, _ := strings.Cut(s.body[k+1], "=")
	if from != cell || to == stored {
		return "no"
	}
	return s.with(k+1, 1, to+"="+stored)
}

func (s split) dead(k int) string {
	if k < 0 || k >= len(s.body) || strings.Contains(s.body[k], "{") {
		return "no"
	}
	x, value, sets := strings.Cut(s.body[k], "=")
	if !sets || x[0] == '*' || strings.HasPrefix(value, "box") {
		return "no"
	}
	v := int(x[0] - 'a')
	if varLetters(value) == value && strings.Contains("bm", s.types[v:v+1]) || usedBehind(s.p, s.points, s.first[k], v) {
		return "no"
	}
	return s.with(k, 1)
}

func (s split) unroll(k int) string {
	if k < 0 || k >= len(s.body) || !strings.HasPrefix(s.body[k], "loop") {
		return "no"
	}
	once := strings.TrimSuffix(strings.TrimPrefix(s.body[k], "loop{"), "}")
	if once != "" {
		once += ";"
	}
	return s.with(k, 1, "if{"+once+s.body[k]+"}{}")
}

func (s split) addDrop(k, v int) string {
	if k < 0 || k > len(s.body) || v < 0 || v >= len(s.types) || s.types[v] != 'b' {
		return "no"
	}
	for w := range s.valued {
		if w.at == s.first[k] && !w.has[v] {
			return "no"
		}
	}
	text := s.with(k, 0, "drop "+string(rune('a'+v)))
	if p, ok := impl.ParseProgram(text); !ok || len(impl.CheckProgram(p)) > 0 {
		return "no"
	}
	return text
}

// storing returns valid programs whose variables have values, with and without repair, in which what is stored is often loaded.
func storing(count int) []impl.Program {
	d := &dice{state: 61}
	types := []int{impl.TypeInt, impl.TypeBox, impl.TypeInt, impl.TypeBox, impl.TypeMut, impl.TypeRef}
	all := fitting(types)
	var programs []impl.Program
	for len(programs) < count {
		body := startOf(types)
		for range 1 + d.upTo(6) {
			cell, box, from, to := []int{1, 3, 4, 4}[d.upTo(4)], 1+d.upTo(2)*2, d.upTo(2)*2, d.upTo(2)*2
			switch d.upTo(5) {
			case 0, 1:
				body = append(body, simple(impl.OpStore, cell, from, 0), simple(impl.OpLoad, to, cell, 0))
			case 2:
				body = append(body, all[d.upTo(len(all))], simple(impl.OpInt, from, 0, d.upTo(10)))
			case 3:
				body = append(body, loop(d.dense(all, 3, 1)...), simple(impl.OpStore, cell, from, 0))
			default:
				body = append(body, simple(impl.OpLoad, from, box, 0), simple(impl.OpBorrow, 4, box, 0))
			}
		}
		if p := (impl.Program{Types: types, Body: body}); impl.ProgramValid(p) {
			repaired, _ := impl.RepairProgram(p)
			programs = append(programs, p, repaired)
		}
	}
	return programs
}

// changedPrograms are valid programs, many of which are accepted.
func changedPrograms(t *testing.T) []impl.Program {
	programs := append(mixedPrograms(100), storing(300)...)
	for _, p := range borrowing(120) {
		repaired, _ := impl.RepairProgram(p)
		programs = append(programs, p, repaired)
	}
	small := smallPrograms(t)
	for n := 5; n < len(small); n += 23 {
		programs = append(programs, small[n])
	}
	return append(programs, grown(30, impl.Accepts)...)
}

func TestChangesOfManyPrograms(t *testing.T) {
	changes, refused := map[string]int{}, map[string]int{}
	for _, p := range changedPrograms(t) {
		s, text := splitProgram(p), impl.FormatProgram(p)
		check := func(change string, k int, got, want string) {
			if got != want {
				t.Fatalf("%s of %s at %d: %s, want %s", change, text, k, got, want)
			}
			if got == "no" {
				refused[change]++
			} else {
				changes[change]++
			}
		}
		models := map[string]func(k int) string{"swap": s.swap, "forward": s.forward, "dead": s.dead, "unroll": s.unroll}
		for k := -1; k <= len(p.Body)+1; k++ {
			for change, f := range atStmt {
				q, ok := f(p, k)
				check(change, k, shown(t, q, ok), models[change](k))
			}
			for v := -1; v <= len(p.Types); v++ {
				q, ok := impl.AddDrop(p, k, v)
				check("drop", k, shown(t, q, ok), s.addDrop(k, v))
			}
			if k >= 0 && k+1 < len(p.Body) {
				if apart := !strings.ContainsAny(varLetters(s.body[k]), varLetters(s.body[k+1])); impl.VarsApart(p.Body[k], p.Body[k+1]) != apart {
					t.Fatalf("VarsApart of %s and %s is not %v", s.body[k], s.body[k+1], apart)
				}
			}
		}
		if after := impl.FormatProgram(p); after != text {
			t.Fatalf("an argument changed: %s", text)
		}
	}
	for _, change := range []string{"swap", "forward", "dead", "unroll", "drop"} {
		if changes[change] < 200 || refused[change] < 200 {
			t.Errorf("%s: %d changes, and %d that are refused", change, changes[change], refused[change])
		}
	}
}

// permutations returns all lists of the numbers below n.
func permutations(n int) [][]int {
	if n == 0 {
		return [][]int{nil}
	}
	var all [][]int
	for _, list := range permutations(n - 1) {
		for i := range n {
			all = append(all, slices.Insert(slices.Clone(list), i, n-1))
		}
	}
	return all
}

// Each program is renamed by some permutation, and each permutation renames some program; the inverse one renames it back.
func TestRenamingsOfManyPrograms(t *testing.T) {
	d := &dice{state: 67}
	rename := func(p impl.Program, names []int) {
		text := impl.FormatProgram(p)
		q, ok := impl.RenameVars(p, names)
		if got, want := shown(t, q, ok), renamedText(text, names); got != want {
			t.Fatalf("RenameVars(%s, %v) = %s, want %s", text, names, got, want)
		}
		back := make([]int, len(names))
		for v, name := range names {
			back[name] = v
		}
		if r, ok := impl.RenameVars(q, back); !ok || !impl.ProgramSame(p, r) || impl.FormatProgram(p) != text {
			t.Fatalf("RenameVars(%s, %v) is not renamed back", text, names)
		}
	}
	programs := changedPrograms(t)
	for _, p := range programs {
		all := permutations(len(p.Types))
		rename(p, all[d.upTo(len(all))])
	}
	for n := range impl.MaxVars + 1 {
		i := slices.IndexFunc(programs, func(p impl.Program) bool { return len(p.Types) == n && len(impl.PointsOf(p)) > 3 })
		for _, names := range permutations(n) {
			rename(programs[i], names)
		}
	}
}

// Of all lists of three numbers from -1 to 3, six are permutations.
func TestNamesThatAreNoPermutation(t *testing.T) {
	p := parsed(t, "ibr:b=box 1;c=&b;a=*c")
	renamings := 0
	for n := range 5 * 5 * 5 {
		names := []int{n%5 - 1, n/5%5 - 1, n/25 - 1}
		q, ok := impl.RenameVars(p, names)
		sorted := slices.Sorted(slices.Values(names))
		if ok != slices.Equal(sorted, []int{0, 1, 2}) || (shown(t, q, ok) == "no") == ok {
			t.Errorf("RenameVars(%v) = %v, %v", names, q, ok)
		}
		if ok {
			renamings++
		}
	}
	if renamings != 6 {
		t.Errorf("%d permutations", renamings)
	}
}

func TestSequencesOfManyPrograms(t *testing.T) {
	d := &dice{state: 71}
	programs := changedPrograms(t)
	joined, refused := 0, 0
	for _, p := range programs {
		for range 4 {
			q := programs[d.upTo(len(programs))]
			a, b := splitProgram(p), splitProgram(q)
			want := a.with(len(a.body), 0, b.body...)
			if a.types != b.types {
				want = "no"
			}
			r, ok := impl.SequenceOf(p, q)
			if got := shown(t, r, ok); got != want {
				t.Fatalf("SequenceOf(%s, %s) = %s, want %s", impl.FormatProgram(p), impl.FormatProgram(q), got, want)
			}
			if ok {
				joined++
			} else {
				refused++
			}
		}
	}
	if joined < 200 || refused < 200 {
		t.Errorf("%d sequences, and %d that are refused", joined, refused)
	}
}

// bothRun runs a program and a changed one with the same choices.
func bothRun(t *testing.T, p, q impl.Program, choices []int) (before, after result) {
	t.Helper()
	return ran(t, p, choices, 150), ran(t, q, choices, 150)
}

// loadsBefore returns how many loads a run passes before it comes to a point.
func loadsBefore(p impl.Program, choices []int, at int) int {
	points, loads := impl.PointsOf(p), 0
	for _, passed := range wholeRun(p, choices) {
		if passed == at {
			break
		}
		if points[passed].Op == impl.OpLoad {
			loads++
		}
	}
	return loads
}

// withoutLoad returns the numbers that a run loads without the one that it loads at a point that it passes once.
func withoutLoad(p impl.Program, choices []int, at int, read []int) []int {
	i := loadsBefore(p, choices, at)
	if i >= len(read) || impl.PointsOf(p)[at].Op != impl.OpLoad {
		return read
	}
	return slices.Concat(read[:i], read[i+1:])
}

// sameReached reports whether two variables have the same number, or reach the same cell, by whichever tag.
func sameReached(a, b impl.Slot) bool {
	return a.Set == b.Set && a.Num == b.Num && a.Ptr.Cell == b.Ptr.Cell
}

// eachChange visits the changes of each statement of many programs, with some choices for runs.
func eachChange(t *testing.T, change string, visit func(p impl.Program, k int, q impl.Program, choices []int)) {
	d := &dice{state: 73}
	for _, p := range changedPrograms(t) {
		for k := range p.Body {
			q, ok := atStmt[change](p, k)
			if !ok {
				continue
			}
			for range 2 {
				visit(p, k, q, d.choices(8))
			}
		}
	}
}

// A renamed program does all that the program does, with other variables, and is accepted if that is.
func TestRunsOfRenamedPrograms(t *testing.T) {
	d := &dice{state: 79}
	accepted, issues := 0, 0
	for _, p := range changedPrograms(t) {
		all := permutations(len(p.Types))
		names, choices := all[d.upTo(len(all))], d.choices(8)
		q, ok := impl.RenameVars(p, names)
		if !ok || impl.Accepts(p) != impl.Accepts(q) {
			t.Fatalf("%s is accepted: %v; %s is not the same", impl.FormatProgram(p), impl.Accepts(p), impl.FormatProgram(q))
		}
		want := impl.CheckProgram(p)
		for i, x := range want {
			if x.Kind == impl.IssueUnset {
				want[i].With = names[x.With]
			}
			if !slices.Contains(impl.CheckProgram(q), want[i]) {
				t.Fatalf("%s has not the issue %v", impl.FormatProgram(q), want[i])
			}
		}
		before, after := bothRun(t, p, q, choices)
		slots := make([]impl.Slot, len(names))
		for v, name := range names {
			slots[name] = before.slots[v]
		}
		before.slots = slots
		if !before.same(after) || len(impl.CheckProgram(q)) != len(want) {
			t.Fatalf("%s with %v: %v, and %s: %v", impl.FormatProgram(p), choices, before, impl.FormatProgram(q), after)
		}
		if issues += len(want); len(want) == 0 {
			accepted++
		}
	}
	if accepted < 200 || issues < 200 {
		t.Errorf("%d programs are accepted, and there are %d issues", accepted, issues)
	}
}

// Where a load is replaced, a run does all that it did, but for this load, also if it goes wrong.
func TestRunsOfForwardedLoads(t *testing.T) {
	done, wrong, accepted := 0, 0, 0
	eachChange(t, "forward", func(p impl.Program, k int, q impl.Program, choices []int) {
		before, after := bothRun(t, p, q, choices)
		before.read = withoutLoad(p, choices, splitProgram(p).first[k+1], before.read)
		if !before.same(after) || impl.Accepts(p) && !impl.Accepts(q) {
			t.Fatalf("%s with %v: %v, and %s: %v", impl.FormatProgram(p), choices, before, impl.FormatProgram(q), after)
		}
		if impl.Accepts(p) {
			accepted++
		}
		if after.code == impl.RunDone {
			done++
		} else {
			wrong++
		}
	})
	if accepted < 100 || done < 100 || wrong < 100 {
		t.Errorf("%d runs of accepted programs; %d are done, and %d are not", accepted, done, wrong)
	}
}

// Where a statement whose value is not used is removed, a run loads what it did before, but for what that loads.
func TestRunsWithoutDeadStatements(t *testing.T) {
	done, wrong, accepted := 0, 0, 0
	eachChange(t, "dead", func(p impl.Program, k int, q impl.Program, choices []int) {
		before, after := bothRun(t, p, q, choices)
		if impl.Accepts(p) && !impl.Accepts(q) {
			t.Fatalf("%s is accepted, and %s is not", impl.FormatProgram(p), impl.FormatProgram(q))
		}
		if before.code == impl.RunCut || after.code == impl.RunCut {
			return
		}
		read := withoutLoad(p, choices, splitProgram(p).first[k], before.read)
		same := len(after.read) >= len(read) && slices.Equal(after.read[:len(read)], read)
		if before.code == impl.RunDone {
			same = same && after.code == impl.RunDone && len(after.read) == len(read) && after.made == before.made && after.freed == before.freed
			for v := range p.Types {
				same = same && (v == p.Body[k].X || sameReached(before.slots[v], after.slots[v]))
			}
			done++
		} else {
			wrong++
		}
		if impl.Accepts(p) {
			accepted++
		}
		if !same {
			t.Fatalf("%s with %v: %v, and %s: %v", impl.FormatProgram(p), choices, before, impl.FormatProgram(q), after)
		}
	})
	if accepted < 200 || done < 200 || wrong < 200 {
		t.Errorf("%d runs of accepted programs; %d are done, and %d go wrong", accepted, done, wrong)
	}
}

// An unrolled loop does all that the loop does, with the same choices.
func TestRunsOfUnrolledLoops(t *testing.T) {
	done, wrong, accepted, long := 0, 0, 0, 0
	eachChange(t, "unroll", func(p impl.Program, k int, q impl.Program, choices []int) {
		before, after := bothRun(t, p, q, choices)
		if impl.Accepts(p) && !impl.Accepts(q) {
			t.Fatalf("%s is accepted, and %s is not", impl.FormatProgram(p), impl.FormatProgram(q))
		}
		if before.code == impl.RunCut || after.code == impl.RunCut {
			return
		}
		if a, b := impl.PointsOf(p)[before.at], impl.PointsOf(q)[after.at]; impl.PointText(a) != impl.PointText(b) {
			t.Fatalf("%s with %v ends at %s, and %s at %s", impl.FormatProgram(p), choices, impl.PointText(a), impl.FormatProgram(q), impl.PointText(b))
		}
		before.at = after.at
		if !before.same(after) {
			t.Fatalf("%s with %v: %v, and %s: %v", impl.FormatProgram(p), choices, before, impl.FormatProgram(q), after)
		}
		if impl.Accepts(p) {
			accepted++
		}
		if after.code == impl.RunDone {
			done++
		} else {
			wrong++
		}
		if len(wholeRun(p, choices)) > len(wholeRun(p, nil))+4 {
			long++
		}
	})
	if accepted < 100 || done < 100 || wrong < 100 || long < 100 {
		t.Errorf("%d runs of accepted programs; %d are done, %d go wrong, and %d are long", accepted, done, wrong, long)
	}
}

// The order of two statements apart does not matter to a run, if the program is accepted with both orders: it loads the same numbers.
func TestRunsOfSwappedStatements(t *testing.T) {
	accepted, refused, loads := 0, 0, 0
	eachChange(t, "swap", func(p impl.Program, k int, q impl.Program, choices []int) {
		if !impl.Accepts(p) {
			return
		}
		if !impl.Accepts(q) {
			refused++
			return
		}
		before, after := bothRun(t, p, q, choices)
		if p.Body[k].Op == impl.OpLoad && p.Body[k+1].Op == impl.OpLoad && before.code == impl.RunDone {
			i := loadsBefore(p, choices, splitProgram(p).first[k])
			before.read[i], before.read[i+1] = before.read[i+1], before.read[i]
			loads++
		}
		if before.code != after.code || !slices.Equal(before.read, after.read) || before.made != after.made || before.freed != after.freed {
			t.Fatalf("%s with %v: %v, and %s: %v", impl.FormatProgram(p), choices, before, impl.FormatProgram(q), after)
		}
		for v := range p.Types {
			if before.slots[v].Set != after.slots[v].Set || before.slots[v].Num != after.slots[v].Num {
				t.Fatalf("%s with %v: %v, and %s: %v", impl.FormatProgram(p), choices, before, impl.FormatProgram(q), after)
			}
		}
		accepted++
	})
	if accepted < 500 || refused < 20 || loads < 20 {
		t.Errorf("%d are accepted, %d refused, and %d are loads", accepted, refused, loads)
	}
}

// A program with a further drop is accepted, and its runs load the same numbers, and leave no other cells.
func TestRunsWithAddedDrops(t *testing.T) {
	d := &dice{state: 83}
	drops := 0
	for _, p := range changedPrograms(t) {
		for k := range len(p.Body) + 1 {
			for v := range p.Types {
				q, ok := impl.AddDrop(p, k, v)
				if !ok {
					continue
				}
				choices := d.choices(8)
				before, after := bothRun(t, p, q, choices)
				if !impl.Accepts(q) || !impl.Accepts(p) {
					t.Fatalf("%s is accepted: %v; %s: %v", impl.FormatProgram(p), impl.Accepts(p), impl.FormatProgram(q), impl.Accepts(q))
				}
				if before.code == impl.RunCut || after.code == impl.RunCut {
					continue
				}
				if drops++; before.code != impl.RunDone || after.code != impl.RunDone || !slices.Equal(before.read, after.read) || before.made != after.made || before.freed != after.freed {
					t.Fatalf("%s with %v: %v, and %s: %v", impl.FormatProgram(p), choices, before, impl.FormatProgram(q), after)
				}
			}
		}
	}
	if drops < 500 {
		t.Errorf("only %d drops", drops)
	}
}

// A run of two programs, one after the other, loads what a run of the first one loads, and then, if both are accepted,
// what a run of the second one loads with the choices that are left.
func TestRunsOfSequences(t *testing.T) {
	d := &dice{state: 89}
	programs := changedPrograms(t)
	accepted, others := 0, 0
	for range 30000 {
		p, q, choices := programs[d.upTo(len(programs))], programs[d.upTo(len(programs))], d.choices(8)
		s, ok := impl.SequenceOf(p, q)
		if !ok {
			continue
		}
		first, all := bothRun(t, p, s, choices)
		if first.code == impl.RunCut || all.code == impl.RunCut {
			continue
		}
		read := first.read
		if impl.Accepts(p) && impl.Accepts(q) {
			left := choicesBehind(p, choices)
			second := ran(t, q, left, 150)
			read = slices.Concat(read, second.read)
			if !impl.Accepts(s) || all.code != impl.RunDone || len(all.read) != len(read) || all.made != first.made+second.made {
				t.Fatalf("%s with %v: %v, and then %v", impl.FormatProgram(s), choices, all, second)
			}
			accepted++
		} else {
			others++
		}
		if len(all.read) < len(read) || !slices.Equal(all.read[:len(read)], read) {
			t.Fatalf("%s with %v loads %v, and first %v", impl.FormatProgram(s), choices, all.read, read)
		}
	}
	if accepted < 200 || others < 200 {
		t.Errorf("%d sequences of accepted programs, and %d others", accepted, others)
	}
}

// choicesBehind returns the choices that a run leaves.
func choicesBehind(p impl.Program, choices []int) []int {
	points, left := impl.PointsOf(p), choices
	for _, at := range wholeRun(p, choices) {
		if len(points[at].Next) == 2 && len(left) > 0 {
			left = left[1:]
		}
	}
	return left
}

// noChange fails if a function returns a program where it must return none.
func noChange(t *testing.T, what string, q impl.Program, ok bool) {
	t.Helper()
	if ok || q.Types != nil || q.Body != nil {
		t.Errorf("%s = %v, %v", what, q, ok)
	}
}

func TestChangesOfInvalidPrograms(t *testing.T) {
	broken := simple(impl.OpMove, 0, 0, 0)
	list := []impl.Stmt{simple(impl.OpBox, 2, 0, 1), simple(impl.OpInt, 0, 0, 4), simple(impl.OpStore, 2, 0, 0), simple(impl.OpLoad, 1, 2, 0), loop(), simple(impl.OpInt, 1, 0, 1)}
	programs := invalidPrograms()
	for i := range len(list) + 1 {
		programs = append(programs, impl.Program{Types: []int{1, 1, 2}, Body: slices.Insert(slices.Clone(list), i, broken)})
	}
	programs = append(programs,
		impl.Program{Types: []int{1, 1, 2}, Body: append(slices.Clone(list), loop(loop(broken)))},
		impl.Program{Types: []int{1, 1, 2}, Body: append(slices.Clone(list), ints(25)...)},
		impl.Program{Types: []int{1, 1, 2}, Body: append(slices.Clone(list), nested(5))},
		impl.Program{Types: []int{1, 1, 2, 0}, Body: list},
		impl.Program{Types: []int{1, 1, 2, 5}, Body: list},
		impl.Program{Types: []int{1, 1, 2, 1, 1, 1, 1}, Body: list},
		impl.Program{Types: []int{1, 1}, Body: list},
		impl.Program{Types: []int{1, 1, 2}, Body: append(slices.Clone(list), endless(loop())...)},
		impl.Program{Types: []int{1, 1, 2}, Body: append(slices.Clone(list), deep(loop()))},
	)
	for i, p := range programs {
		what := fmt.Sprint("of the invalid program ", i)
		names := make([]int, len(p.Types))
		for v := range names {
			names[v] = len(names) - 1 - v
		}
		for _, list := range [][]int{nil, {0}, names} {
			q, ok := impl.RenameVars(p, list)
			noChange(t, "RenameVars "+what, q, ok)
		}
		for k := -1; k <= len(p.Body)+1 && k < 40; k++ {
			for change, f := range atStmt {
				q, ok := f(p, k)
				noChange(t, change+" "+what, q, ok)
			}
			for v := -1; v < 8; v++ {
				q, ok := impl.AddDrop(p, k, v)
				noChange(t, "AddDrop "+what, q, ok)
			}
		}
		empty := impl.Program{Types: p.Types}
		for _, pair := range [][2]impl.Program{{p, p}, {p, empty}, {empty, p}, {p, {}}, {{}, p}} {
			q, ok := impl.SequenceOf(pair[0], pair[1])
			noChange(t, "SequenceOf "+what, q, ok)
		}
	}
	// Without what is not valid, there are such changes.
	p := impl.Program{Types: []int{1, 1, 2}, Body: list}
	for change, k := range map[string]int{"swap": 0, "forward": 2, "dead": 3, "unroll": 4} {
		if q, ok := atStmt[change](p, k); !ok || !impl.ProgramValid(q) {
			t.Errorf("%s: %v, %v", change, q, ok)
		}
	}
	if _, ok := impl.AddDrop(p, 6, 2); !ok {
		t.Error("AddDrop is refused")
	}
}

func TestChangesOutOfBounds(t *testing.T) {
	p := parsed(t, "iib:c=box 1;a=1;*c=a;b=*c;loop{};a=2;b=3")
	for _, k := range append([]int{7, 8, 9, 10, 11, impl.MaxStmts}, farIndices...) {
		for change, f := range atStmt {
			q, ok := f(p, k)
			noChange(t, fmt.Sprint(change, " at ", k), q, ok)
		}
		for v := range p.Types {
			if q, ok := impl.AddDrop(p, k, v); k != 7 || v != 2 {
				noChange(t, fmt.Sprint("AddDrop at ", k, " of ", v), q, ok)
			}
		}
	}
	for _, v := range append([]int{3, 4, 5, 6}, farIndices...) {
		for k := range len(p.Body) + 1 {
			q, ok := impl.AddDrop(p, k, v)
			noChange(t, fmt.Sprint("AddDrop at ", k, " of ", v), q, ok)
		}
	}
	// The last statement has none behind it.
	for change, f := range atStmt {
		if q, ok := f(p, 6); change != "dead" {
			noChange(t, change+" of the last statement", q, ok)
		}
	}
}

// Changes that make a program longer, up to the limit and beyond it.
func TestChangesAtTheLimit(t *testing.T) {
	box := impl.Program{Types: []int{1, 2}, Body: append(ints(28), simple(impl.OpBox, 1, 0, 1))}
	if q, ok := impl.AddDrop(box, 29, 1); !ok || impl.CountStmts(q) != impl.MaxStmts {
		t.Errorf("AddDrop = %v, %v", q, ok)
	}
	box.Body = append(ints(29), simple(impl.OpBox, 1, 0, 1))
	q, ok := impl.AddDrop(box, 30, 1)
	noChange(t, "AddDrop to 30 statements", q, ok)
	for _, c := range []struct {
		others, inner int
		want          bool
	}{
		{0, 14, true}, {0, 15, false}, {1, 13, true}, {1, 14, false}, {28, 0, true}, {29, 0, false}, {26, 1, true}, {27, 1, false},
	} {
		p := impl.Program{Types: []int{1}, Body: append(ints(c.others), loop(ints(c.inner)...))}
		q, ok := impl.UnrollLoop(p, c.others)
		if ok != c.want || ok && impl.CountStmts(q) != c.others+2+2*c.inner {
			t.Errorf("a loop with %d statements behind %d others: %v, %v", c.inner, c.others, q, ok)
		}
		if !ok {
			noChange(t, "UnrollLoop", q, ok)
		}
	}
	for n := range impl.MaxStmts + 1 {
		p, rest := impl.Program{Types: []int{1}, Body: ints(n)}, impl.Program{Types: []int{1}, Body: ints(impl.MaxStmts - n)}
		q, ok := impl.SequenceOf(p, rest)
		if !ok || impl.CountStmts(q) != impl.MaxStmts {
			t.Errorf("%d and %d statements: %v, %v", n, 30-n, q, ok)
		}
		if rest.Body = append(rest.Body, ints(1)...); impl.ProgramValid(rest) {
			q, ok = impl.SequenceOf(p, rest)
			noChange(t, "SequenceOf with 31 statements", q, ok)
		}
	}
	full := impl.Program{Types: []int{1, 1}, Body: append(ints(29), simple(impl.OpInt, 1, 0, 2))}
	if q, ok := impl.SwapStmts(full, 28); !ok || q.Body[28].X != 1 || q.Body[29].X != 0 {
		t.Errorf("SwapStmts = %v, %v", q, ok)
	}
	if q, ok := impl.DropDead(full, 29); !ok || len(q.Body) != 29 {
		t.Errorf("DropDead = %v, %v", q, ok)
	}
	if q, ok := impl.RenameVars(full, []int{1, 0}); !ok || len(q.Body) != 30 || q.Body[29].X != 0 {
		t.Errorf("RenameVars = %v, %v", q, ok)
	}
}

// someChanges makes one change of each kind of the same program.
func someChanges(p impl.Program) []impl.Program {
	var all []impl.Program
	add := func(q impl.Program, ok bool) {
		if ok {
			all = append(all, q)
		}
	}
	add(impl.RenameVars(p, []int{1, 0, 2}))
	add(impl.SwapStmts(p, 0))
	add(impl.ForwardLoad(p, 2))
	add(impl.DropDead(p, 3))
	add(impl.AddDrop(p, len(p.Body), 2))
	add(impl.UnrollLoop(p, 4))
	add(impl.SequenceOf(p, p))
	add(impl.SequenceOf(p, impl.Program{Types: p.Types}))
	add(impl.SequenceOf(impl.Program{Types: p.Types}, p))
	return all
}

func changedTexts(programs []impl.Program) []string {
	var texts []string
	for _, p := range programs {
		texts = append(texts, impl.FormatProgram(p))
	}
	return texts
}

func TestChangesShareNoMemory(t *testing.T) {
	text := "iib:c=box 1;a=4;*c=a;b=*c;loop{if{a=1;a=2}{b=3}};if{a=5}{}"
	p := parsed(t, text)
	first, want := someChanges(p), changedTexts(someChanges(p))
	if len(first) != 9 {
		t.Fatalf("only %d changes: %q", len(first), want)
	}
	for i, q := range first {
		others := append(someChanges(p), first[i+1:]...)
		scribble(q)
		if got := changedTexts(others); !slices.Equal(got, append(slices.Clone(want), want[i+1:]...)) {
			t.Errorf("two results share memory: %q", got)
		}
		if got := impl.FormatProgram(p); got != text {
			t.Fatalf("the result %d shares memory with an argument: %s", i, got)
		}
	}
	// Each list of a result has memory of its own, the two copies of a loop and of a program included.
	unrolled, _ := impl.UnrollLoop(p, 4)
	scribbleList(unrolled.Body[4].Then[0].Then)
	unrolled.Body[4].Then[0].Then = nil
	if got := impl.FormatProgram(unrolled); got != "iib:c=box 1;a=4;*c=a;b=*c;if{if{}{b=3};loop{if{a=1;a=2}{b=3}}}{};if{a=5}{}" {
		t.Errorf("the lists of an unrolled loop share memory: %s", got)
	}
	twice, _ := impl.SequenceOf(p, p)
	scribbleList(twice.Body[:6:6])
	if got := impl.FormatProgram(impl.Program{Types: twice.Types, Body: twice.Body[6:]}); got != text {
		t.Errorf("the lists of a sequence share memory: %s", got)
	}
}

// The lists of an argument may share memory, and what is behind their length is neither read nor changed.
func TestChangesKeepArguments(t *testing.T) {
	junk := simple(99, 99, 99, 99)
	list := []impl.Stmt{simple(impl.OpInt, 0, 0, 1), junk, junk, junk}
	body := []impl.Stmt{simple(impl.OpBox, 2, 0, 1), simple(impl.OpInt, 0, 0, 4), simple(impl.OpStore, 2, 0, 0), simple(impl.OpLoad, 1, 2, 0),
		loop(list[:1]...), either(list[:1], list[:1]), junk, junk, junk, junk, junk, junk, junk}
	types, names := []int{1, 1, 2, 99, 99}, []int{1, 0, 2, 99}
	p := impl.Program{Types: types[:3], Body: body[:6]}
	before := fmt.Sprint(types, names, body, list)
	all := someChanges(p)
	renamed, _ := impl.RenameVars(p, names[:3])
	all = append(all, renamed)
	if len(all) != 10 {
		t.Fatalf("only %d changes: %q", len(all), changedTexts(all))
	}
	for i, q := range all {
		last := &q.Body[len(q.Body)-1]
		if last.Op != impl.OpIf {
			last = &q.Body[len(q.Body)-2]
		}
		last.Then[0].N = 7
		if got := impl.FormatProgram(q); strings.Count(got, "=7") != 1 {
			t.Errorf("the lists of the result %d share memory: %s", i, got)
		}
		scribble(q)
	}
	if after := fmt.Sprint(types, names, body, list); after != before {
		t.Errorf("an argument changed: %s", after)
	}
}
