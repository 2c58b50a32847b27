package tests

import (
	"fmt"
	"slices"
	"strconv"
	"strings"
	"testing"

	"loop.example/borrowcheck/impl"
)

// cells reads a memory from the texts of its cells, each with its Next in front, as in "3:5 0u 1u 2".
func cells(t *testing.T, texts ...string) []impl.Cell {
	t.Helper()
	number := func(text string) int {
		n, err := strconv.Atoi(text)
		if err != nil {
			t.Fatal(err)
		}
		return n
	}
	var m []impl.Cell
	for _, text := range texts {
		next, rest, _ := strings.Cut(text, ":")
		words := strings.Split(rest, " ")
		val, freed := strings.CutSuffix(words[0], "!")
		c := impl.Cell{Val: number(val), Alive: !freed, Next: number(next)}
		for _, word := range words[1:] {
			id, unique := strings.CutSuffix(word, "u")
			c.Stack = append(c.Stack, impl.Tag{Id: number(id), Unique: unique})
		}
		m = append(m, c)
	}
	return m
}

// cellTexts writes a memory in the way in which cells reads it.
func cellTexts(m []impl.Cell) []string {
	var texts []string
	for _, c := range m {
		text := fmt.Sprint(c.Next, ":", c.Val)
		if !c.Alive {
			text += "!"
		}
		for _, tag := range c.Stack {
			text += fmt.Sprint(" ", tag.Id)
			if tag.Unique {
				text += "u"
			}
		}
		texts = append(texts, text)
	}
	return texts
}

// The accesses by a pointer, as numbers.
const (
	reads = iota
	writes
	shares
	borrows
	frees
	allAccesses
)

// outcome is what an access returns; what its function does not return is the zero value.
type outcome struct {
	cells  []impl.Cell
	number int
	made   impl.Pointer
	code   int
}

func (o outcome) String() string { return fmt.Sprint(cellTexts(o.cells), o.number, o.made, o.code) }

func accessed(op int, m []impl.Cell, x impl.Pointer, val int) (o outcome) {
	switch op {
	case reads:
		o.cells, o.number, o.code = impl.ReadCell(m, x)
	case writes:
		o.cells, o.code = impl.WriteCell(m, x, val)
	case shares:
		o.cells, o.made, o.code = impl.ShareCell(m, x)
	case borrows:
		o.cells, o.made, o.code = impl.BorrowCell(m, x)
	case frees:
		o.cells, o.code = impl.FreeCell(m, x)
	}
	return o
}

func pointer(cell, tag int) impl.Pointer { return impl.Pointer{Cell: cell, Tag: tag} }

func TestAccesses(t *testing.T) {
	for _, c := range []struct {
		op    int
		cell  string
		tag   int
		after string
		code  int
	}{
		{reads, "1:5 0u", 0, "1:5 0u", 0},
		{reads, "3:5 0u 1u 2", 0, "3:5 0u 2", 0},
		{reads, "3:5 0u 1u 2", 1, "3:5 0u 1u 2", 0},
		{reads, "3:5 0u 1u 2", 2, "3:5 0u 1u 2", 0},
		{reads, "9:5 0u 1u 2u 3 4u 5 6u", 0, "9:5 0u 3 5", 0},
		{reads, "9:5 0u 1u 2u 3 4u 5 6u", 2, "9:5 0u 1u 2u 3 5", 0},
		{reads, "9:5 0u 1u 2u 3 4u 5 6u", 3, "9:5 0u 1u 2u 3 5", 0},
		{reads, "9:5 0u 1u 2u 3 4u 5 6u", 6, "9:5 0u 1u 2u 3 4u 5 6u", 0},
		{reads, "9:5 7u 1 2u 0", 1, "9:5 7u 1 0", 0},
		{reads, "3:5 0u 2", 1, "3:5 0u 2", 2},
		{reads, "3:5 0u 2", 3, "3:5 0u 2", 2},
		{reads, "3:5! 0u 1u", 0, "3:5! 0u 1u", 1},
		{reads, "3:5! 0u 1u", 2, "3:5! 0u 1u", 1},
		{writes, "1:5 0u", 0, "1:7 0u", 0},
		{writes, "3:5 0u 1u 2", 0, "3:7 0u", 0},
		{writes, "3:5 0u 1u 2", 1, "3:7 0u 1u", 0},
		{writes, "3:5 0u 1u 2", 2, "3:5 0u 1u 2", 3},
		{writes, "4:5 0u 1 2u 3", 1, "4:5 0u 1 2u 3", 3},
		{writes, "4:5 0u 1 2u 3", 2, "4:7 0u 1 2u", 0},
		{writes, "4:5 0u 1 2u 3", 5, "4:5 0u 1 2u 3", 2},
		{writes, "4:5! 0u 1 2u 3", 1, "4:5! 0u 1 2u 3", 1},
		{writes, "4:7 0u 1", 0, "4:7 0u", 0},
		{shares, "1:5 0u", 0, "2:5 0u 1", 0},
		{shares, "3:5 0u 1u 2", 0, "4:5 0u 2 3", 0},
		{shares, "3:5 0u 1u 2", 2, "4:5 0u 1u 2 3", 0},
		{shares, "4:5 0u 1 2u 3", 1, "5:5 0u 1 3 4", 0},
		{shares, "8:5 0u 2u", 2, "9:5 0u 2u 8", 0},
		{shares, "8:5 0u 2u", 1, "8:5 0u 2u", 2},
		{shares, "8:5! 0u 2u", 2, "8:5! 0u 2u", 1},
		{borrows, "1:5 0u", 0, "2:5 0u 1u", 0},
		{borrows, "3:5 0u 1u 2", 0, "4:5 0u 3u", 0},
		{borrows, "3:5 0u 1u 2", 1, "4:5 0u 1u 3u", 0},
		{borrows, "3:5 0u 1u 2", 2, "3:5 0u 1u 2", 3},
		{borrows, "4:5 0u 1 2u 3", 1, "4:5 0u 1 2u 3", 3},
		{borrows, "8:5 0u 2u", 8, "8:5 0u 2u", 2},
		{borrows, "8:5! 0u 2", 2, "8:5! 0u 2", 1},
		{frees, "1:5 0u", 0, "1:5! 0u", 0},
		{frees, "3:5 0u 1u 2", 0, "3:5! 0u", 0},
		{frees, "3:5 0u 1u 2", 1, "3:5! 0u 1u", 0},
		{frees, "3:5 0u 1u 2", 2, "3:5 0u 1u 2", 3},
		{frees, "3:5 0u 1u 2", 3, "3:5 0u 1u 2", 2},
		{frees, "3:5! 0u", 0, "3:5! 0u", 1},
	} {
		m := cells(t, c.cell)
		want := outcome{cells: cells(t, c.after), code: c.code}
		if c.code == impl.CellOk && c.op == reads {
			want.number = m[0].Val
		}
		if c.code == impl.CellOk && (c.op == shares || c.op == borrows) {
			want.made.Tag = m[0].Next
		}
		if got := accessed(c.op, m, pointer(0, c.tag), 7); !got.same(want) {
			t.Errorf("access %d of %s by %d: %v, want %v", c.op, c.cell, c.tag, got, want)
		}
	}
}

func TestNewCell(t *testing.T) {
	var m []impl.Cell
	for i := range impl.MaxCells {
		after, x, ok := impl.NewCell(m, i%10)
		want := append(slices.Clone(m), cells(t, fmt.Sprint("1:", i%10, " 0u"))...)
		if !ok || x != pointer(i, 0) || !slices.Equal(cellTexts(after), cellTexts(want)) {
			t.Fatalf("NewCell = %v, %v, %v", cellTexts(after), x, ok)
		}
		if !impl.CellsValid(after) || len(impl.AliveCells(after)) != i+1 {
			t.Fatalf("the memory with %d cells is wrong", i+1)
		}
		m = after
	}
	if after, x, ok := impl.NewCell(m, 1); ok || len(after) != 0 || x != (impl.Pointer{}) {
		t.Errorf("NewCell of a full memory = %d cells, %v, %v", len(after), x, ok)
	}
	for _, val := range []int{-1 << 63, -1, 10, 1<<63 - 1} {
		for _, before := range [][]impl.Cell{nil, m[:3]} {
			if after, x, ok := impl.NewCell(before, val); ok || len(after) != 0 || x != (impl.Pointer{}) {
				t.Errorf("NewCell with %d = %v, %v, %v", val, cellTexts(after), x, ok)
			}
		}
	}
	freed, _ := impl.FreeCell(m[:2], pointer(0, 0))
	if after, x, ok := impl.NewCell(freed, 4); !ok || x != pointer(2, 0) || impl.FormatCells(after) != "0! 0u\n1 0u\n4 0u\n" {
		t.Errorf("NewCell = %s, %v, %v", impl.FormatCells(after), x, ok)
	}
}

// A tag that was removed does not come back, and a freed cell stays freed.
func TestTagsThatAreGone(t *testing.T) {
	m := cells(t, "3:5 0u 1u 2", "1:1 0u")
	m, _, _ = impl.ReadCell(m, pointer(0, 0))
	if _, val, code := impl.ReadCell(m, pointer(0, 2)); val != 5 || code != impl.CellOk {
		t.Errorf("reading has lost a shared tag: %d, %d", val, code)
	}
	if _, code := impl.WriteCell(m, pointer(0, 1), 7); code != impl.CellLost {
		t.Errorf("reading has kept a unique tag: %d", code)
	}
	m, code := impl.WriteCell(m, pointer(0, 0), 7)
	if _, val, lost := impl.ReadCell(m, pointer(0, 2)); val != 0 || lost != impl.CellLost || code != impl.CellOk {
		t.Errorf("writing has kept a tag: %d, %d", val, lost)
	}
	m, x, _ := impl.ShareCell(m, pointer(0, 0))
	m, y, _ := impl.BorrowCell(m, pointer(0, 0))
	if x != pointer(0, 3) || y != pointer(0, 4) || impl.FormatCells(m) != "7 0u 4u\n1 0u\n" {
		t.Errorf("%v, %v, %s", x, y, impl.FormatCells(m))
	}
	m, first := impl.FreeCell(m, y)
	m, second := impl.FreeCell(m, y)
	m, lost := impl.FreeCell(m, x)
	if first != impl.CellOk || second != impl.CellFreed || lost != impl.CellFreed || impl.FormatCells(m) != "7! 0u 4u\n1 0u\n" {
		t.Errorf("%d, %d, %d, %s", first, second, lost, impl.FormatCells(m))
	}
	if got := impl.AliveCells(m); !slices.Equal(got, []int{1}) {
		t.Errorf("AliveCells = %v", got)
	}
}

func TestFormatCells(t *testing.T) {
	for want, m := range map[string][]impl.Cell{
		"":                               nil,
		"0 0u\n":                         cells(t, "1:0 0u"),
		"9! 0u\n":                        cells(t, "1:9! 0u"),
		"5 0u 1u 2\n3 999u 0\n0! 4u 3\n": cells(t, "3:5 0u 1u 2", "1000:3 999u 0", "5:0! 4u 3"),
	} {
		if got := impl.FormatCells(m); got != want {
			t.Errorf("FormatCells = %q, want %q", got, want)
		}
	}
}

func TestAliveCells(t *testing.T) {
	m := cells(t, "1:0! 0u", "1:1 0u", "1:2! 0u", "1:3! 0u", "1:4 0u", "1:5 0u")
	if got := impl.AliveCells(m); !slices.Equal(got, []int{1, 4, 5}) {
		t.Errorf("AliveCells = %v", got)
	}
	if len(impl.AliveCells(nil)) != 0 || len(impl.AliveCells(m[2:4])) != 0 {
		t.Error("AliveCells finds a cell where there is none")
	}
}

// stackBy returns the stack of a cell after it is read or written by a tag, and the code.
func stackBy(c impl.Cell, id int, write bool) ([]impl.Tag, int) {
	at := slices.IndexFunc(c.Stack, func(tag impl.Tag) bool { return tag.Id == id })
	switch {
	case !c.Alive:
		return nil, 1
	case at < 0:
		return nil, 2
	case write && !c.Stack[at].Unique:
		return nil, 3
	}
	var kept []impl.Tag
	for i, tag := range c.Stack {
		if i <= at || !write && !tag.Unique {
			kept = append(kept, tag)
		}
	}
	return kept, 0
}

// modelOfAccess returns what an access to a valid memory has to return.
func modelOfAccess(op int, m []impl.Cell, x impl.Pointer, val int) outcome {
	if x.Cell < 0 || x.Cell >= len(m) || op == writes && (val < 0 || val > 9) {
		return outcome{cells: m, code: 4}
	}
	c := m[x.Cell]
	stack, code := stackBy(c, x.Tag, op != reads && op != shares)
	lends := op == shares || op == borrows
	if code == 0 && lends && (len(stack) == 200 || c.Next == 1000) {
		code = 4
	}
	if code != 0 {
		return outcome{cells: m, code: code}
	}
	o := outcome{cells: slices.Clone(m)}
	switch {
	case op == reads:
		o.number = c.Val
	case op == writes:
		c.Val = val
	case op == frees:
		c.Alive = false
	case lends:
		o.made = impl.Pointer{Cell: x.Cell, Tag: c.Next}
		stack = append(stack, impl.Tag{Id: c.Next, Unique: op == borrows})
		c.Next++
	}
	c.Stack = stack
	o.cells[x.Cell] = c
	return o
}

// roomy copies a memory so that each of its lists has something behind its length.
func roomy(m []impl.Cell) []impl.Cell {
	junk := impl.Tag{Id: 77, Unique: true}
	copied := make([]impl.Cell, 0, len(m)+2)
	for _, c := range m {
		c.Stack = append(slices.Clone(c.Stack), junk, junk)[:len(c.Stack)]
		copied = append(copied, c)
	}
	other := impl.Cell{Val: 77, Stack: []impl.Tag{junk}}
	return append(copied, other, other)[:len(m)]
}

// allOf copies a memory with all that is behind the lengths of its lists.
func allOf(m []impl.Cell) []impl.Cell {
	all := slices.Clone(m[:cap(m)])
	for i, c := range all {
		all[i].Stack = slices.Clone(c.Stack[:cap(c.Stack)])
	}
	return all
}

func sameCells(a, b []impl.Cell) bool {
	return slices.EqualFunc(a, b, func(x, y impl.Cell) bool {
		return x.Val == y.Val && x.Alive == y.Alive && x.Next == y.Next && slices.Equal(x.Stack, y.Stack)
	})
}

func (o outcome) same(w outcome) bool {
	return sameCells(o.cells, w.cells) && o.number == w.number && o.made == w.made && o.code == w.code
}

// scribbleCells overwrites the memory of a result, the unused one included, and reports whether its lists share none.
func scribbleCells(m []impl.Cell) bool {
	for i, c := range m {
		stack := c.Stack[:cap(c.Stack)]
		for k := range stack {
			stack[k] = impl.Tag{Id: -5 - i}
		}
	}
	apart := true
	for i, c := range m {
		for _, tag := range c.Stack {
			apart = apart && tag.Id == -5-i
		}
	}
	m = m[:cap(m)]
	for i := range m {
		m[i] = impl.Cell{Val: -5}
	}
	return apart
}

// checkAccess compares an access with the model, and reports whether arguments are kept and results share no memory.
func checkAccess(t *testing.T, op int, m []impl.Cell, x impl.Pointer, val int) outcome {
	t.Helper()
	return checkOutcome(t, op, m, x, val, modelOfAccess(op, m, x, val))
}

func checkOutcome(t *testing.T, op int, m []impl.Cell, x impl.Pointer, val int, want outcome) outcome {
	t.Helper()
	argument := roomy(m)
	before := allOf(argument)
	got, again := accessed(op, argument, x, val), accessed(op, argument, x, val)
	if !got.same(want) {
		t.Fatalf("access %d of %v by %v with %d: %v, want %v", op, cellTexts(m), x, val, got, want)
	}
	apart := scribbleCells(again.cells)
	if !apart || !got.same(want) || !sameCells(allOf(argument), before) {
		t.Fatalf("access %d of %v by %v: memory is shared, or an argument changed", op, cellTexts(m), x)
	}
	return got
}

// eachStack visits all stacks of up to most different tags with Ids below next, the first of which is unique.
func eachStack(stack []impl.Tag, next, most int, visit func(stack []impl.Tag)) {
	if len(stack) > 0 {
		visit(stack)
	}
	if len(stack) == most {
		return
	}
	for id := range next {
		if slices.ContainsFunc(stack, func(tag impl.Tag) bool { return tag.Id == id }) {
			continue
		}
		for _, unique := range []bool{true, false} {
			if unique || len(stack) > 0 {
				eachStack(append(slices.Clone(stack), impl.Tag{Id: id, Unique: unique}), next, most, visit)
			}
		}
	}
}

func TestAccessesOfAllSmallStacks(t *testing.T) {
	stacks := 0
	eachStack(nil, 4, 4, func(stack []impl.Tag) {
		stacks++
		for _, alive := range []bool{true, false} {
			m := []impl.Cell{{Val: 3, Alive: alive, Next: 4, Stack: stack}}
			if !impl.CellsValid(m) {
				t.Fatalf("CellsValid(%v) is false", m)
			}
			for op := range allAccesses {
				for tag := -1; tag <= 4; tag++ {
					checkAccess(t, op, m, pointer(0, tag), 8)
				}
			}
		}
	})
	if stacks != 4+24+96+192 {
		t.Errorf("%d stacks", stacks)
	}
}

// checkPromise says what reading keeps and what writing does not keep, without the model.
func checkPromise(t *testing.T, op int, m []impl.Cell, x impl.Pointer, o outcome) {
	t.Helper()
	if o.code != impl.CellOk {
		return
	}
	was, is := m[x.Cell], o.cells[x.Cell]
	if op == reads || op == shares {
		for _, tag := range was.Stack {
			if _, val, code := impl.ReadCell(o.cells, pointer(x.Cell, tag.Id)); !tag.Unique && (code != impl.CellOk || val != was.Val) {
				t.Fatalf("reading %v by %v loses the shared tag %d", was, x, tag.Id)
			}
		}
		return
	}
	last := is.Stack[len(is.Stack)-1]
	if op == borrows {
		last = is.Stack[len(is.Stack)-2]
	}
	if last.Id != x.Tag || !last.Unique {
		t.Fatalf("writing %v by %v keeps %v", was, x, is)
	}
}

// somePointer mostly leads to a cell by a tag of its stack.
func (d *dice) somePointer(m []impl.Cell) impl.Pointer {
	x := pointer(d.upTo(len(m)+1), d.upTo(10))
	if x.Cell < len(m) && d.upTo(8) > 0 {
		stack := m[x.Cell].Stack
		x.Tag = stack[d.upTo(len(stack))].Id
	}
	return x
}

func TestManyAccesses(t *testing.T) {
	var codes [allAccesses][5]int
	for start := range 40 {
		d := &dice{state: uint64(start)}
		var m []impl.Cell
		for range 120 {
			if len(m) == 0 || d.upTo(25) == 0 {
				after, x, ok := impl.NewCell(roomy(m), d.upTo(10))
				if !ok || x != pointer(len(m), 0) {
					t.Fatalf("NewCell = %v, %v", x, ok)
				}
				m = after
			}
			op := d.upTo(allAccesses - 1)
			switch d.upTo(30) {
			case 0:
				op = frees
			case 1, 2, 3, 4, 5, 6, 7, 8:
				op = shares
			}
			x := d.somePointer(m)
			o := checkAccess(t, op, m, x, d.upTo(12)-1)
			checkPromise(t, op, m, x, o)
			if !impl.CellsValid(o.cells) {
				t.Fatalf("an access makes %v", cellTexts(o.cells))
			}
			codes[op][o.code]++
			m = o.cells
		}
	}
	for op, counts := range codes {
		for code, n := range counts {
			if readonly := code == impl.CellReadonly && (op == reads || op == shares); readonly != (n == 0) {
				t.Errorf("access %d returns %d in %d cases", op, code, n)
			}
		}
	}
}

func TestCellsValidOfSmallCells(t *testing.T) {
	valid := 0
	for n := range 5 * 5 * 5 {
		ids := []int{n%5 - 1, n/5%5 - 1, n/25 - 1}
		for bits := range 8 {
			for size := range 4 {
				for next := -1; next <= 4; next++ {
					c := impl.Cell{Next: next}
					want := next >= 1 && size > 0 && bits&1 == 1
					for i, id := range ids[:size] {
						c.Stack = append(c.Stack, impl.Tag{Id: id, Unique: bits>>i&1 == 1})
						want = want && id >= 0 && id < next && !slices.Contains(ids[:i], id)
					}
					if got := impl.CellsValid([]impl.Cell{c}); got != want {
						t.Fatalf("CellsValid(%v) = %v", c, got)
					}
					if want {
						valid++
					}
				}
			}
		}
	}
	if valid == 0 {
		t.Error("no cell is valid")
	}
}

// tall returns a stack of this height; its Ids go up from 0.
func tall(height int, unique func(i int) bool) []impl.Tag {
	var stack []impl.Tag
	for i := range height {
		stack = append(stack, impl.Tag{Id: i, Unique: unique(i)})
	}
	return stack
}

func onlyFirst(i int) bool { return i == 0 }

func always(i int) bool { return true }

func TestLimitsOfCells(t *testing.T) {
	full := impl.Cell{Val: 1, Alive: true, Next: impl.MaxStack, Stack: tall(impl.MaxStack, onlyFirst)}
	unique := impl.Cell{Val: 1, Alive: true, Next: impl.MaxStack, Stack: tall(impl.MaxStack, always)}
	almost := impl.Cell{Val: 1, Alive: true, Next: impl.MaxStack, Stack: tall(impl.MaxStack-1, onlyFirst)}
	used := impl.Cell{Val: 1, Alive: true, Next: impl.MaxTags, Stack: []impl.Tag{{Id: 0, Unique: true}, {Id: impl.MaxTags - 1, Unique: true}}}
	unused := impl.Cell{Val: 1, Alive: true, Next: impl.MaxTags - 1, Stack: used.Stack[:1]}
	freed, gone := full, used
	freed.Alive, gone.Alive = false, false
	m := []impl.Cell{full, unique, almost, used, unused, freed, gone}
	if !impl.CellsValid(m) {
		t.Fatal("CellsValid is false for what is at the limits")
	}
	for _, c := range []struct{ op, cell, tag, code int }{
		{shares, 0, 0, 4}, {shares, 0, 199, 4}, {borrows, 0, 0, 0},
		{borrows, 0, 1, 3}, {shares, 0, 200, 2}, {borrows, 0, -1, 2},
		{shares, 1, 199, 4}, {borrows, 1, 199, 4}, {shares, 1, 198, 0}, {borrows, 1, 198, 0}, {shares, 1, 0, 0},
		{shares, 2, 0, 0}, {shares, 2, 198, 0}, {borrows, 2, 0, 0}, {shares, 2, 199, 2},
		{shares, 3, 0, 4}, {borrows, 3, 0, 4}, {borrows, 3, 999, 4}, {shares, 3, 500, 2}, {reads, 3, 0, 0}, {writes, 3, 0, 0}, {frees, 3, 999, 0},
		{shares, 4, 0, 0}, {borrows, 4, 0, 0},
		{shares, 5, 0, 1}, {borrows, 5, 0, 1}, {shares, 6, 0, 1}, {borrows, 6, 7, 1},
		{reads, 0, 199, 0}, {writes, 0, 199, 3}, {writes, 0, 0, 0}, {frees, 0, 0, 0}, {reads, 1, 0, 0},
	} {
		if o := checkAccess(t, c.op, m, pointer(c.cell, c.tag), 9); o.code != c.code {
			t.Errorf("access %d to the cell %d by %d has the code %d, want %d", c.op, c.cell, c.tag, o.code, c.code)
		}
	}
	many := slices.Repeat(m[:1], impl.MaxCells)
	if !impl.CellsValid(many) || len(impl.AliveCells(many)) != impl.MaxCells || strings.Count(impl.FormatCells(many), "1 0u 1 2 3 4") != impl.MaxCells {
		t.Error("a full memory is wrong")
	}
	if o := accessed(borrows, many, pointer(impl.MaxCells-1, 0), 0); o.code != impl.CellOk || o.made != pointer(impl.MaxCells-1, impl.MaxStack) {
		t.Errorf("BorrowCell = %d, %v", o.code, o.made)
	}
	if o := accessed(reads, many, pointer(impl.MaxCells, 0), 0); o.code != impl.CellInvalid || len(o.cells) != impl.MaxCells {
		t.Errorf("ReadCell = %d with %d cells", o.code, len(o.cells))
	}
	if impl.MaxCells != 200 || impl.MaxStack != 200 || impl.MaxTags != 1000 {
		t.Error("a limit is wrong")
	}
}

// Every cell can have MaxTags tags in all.
func TestAllTagsOfACell(t *testing.T) {
	m, x, _ := impl.NewCell(nil, 3)
	for id := 1; id < impl.MaxTags; id++ {
		after, made, code := impl.BorrowCell(m, x)
		if code != impl.CellOk || made != pointer(0, id) {
			t.Fatalf("BorrowCell = %v, %d", made, code)
		}
		m = after
	}
	if got := cellTexts(m); !slices.Equal(got, []string{"1000:3 0u 999u"}) {
		t.Errorf("the memory is %v", got)
	}
	for _, op := range []int{shares, borrows} {
		checkOutcome(t, op, m, x, 0, outcome{cells: m, code: 4})
	}
}

func TestNumbersOutOfBounds(t *testing.T) {
	m := cells(t, "3:5 0u 1", "1:4! 0u")
	for _, val := range []int{-1 << 63, -1, 10, 1<<63 - 1} {
		for _, x := range []impl.Pointer{pointer(0, 0), pointer(0, 1), pointer(0, 2), pointer(1, 0), pointer(2, 0)} {
			checkOutcome(t, writes, m, x, val, outcome{cells: m, code: 4})
		}
	}
	for _, val := range []int{0, 9} {
		if o := checkAccess(t, writes, m, pointer(0, 0), val); o.code != impl.CellOk || o.cells[0].Val != val {
			t.Errorf("WriteCell = %v", o)
		}
	}
}

func TestPointersThatLeadNowhere(t *testing.T) {
	m := cells(t, "3:5 0u 1u 2", "1:4! 0u")
	for op := range allAccesses {
		for _, i := range append([]int{2}, farIndices...) {
			checkOutcome(t, op, m, pointer(i, 0), 6, outcome{cells: m, code: 4})
			checkOutcome(t, op, nil, pointer(i, 0), 6, outcome{code: 4})
		}
		for _, tag := range append([]int{3}, farIndices...) {
			checkOutcome(t, op, m, pointer(0, tag), 6, outcome{cells: m, code: 2})
			checkOutcome(t, op, m, pointer(1, tag), 6, outcome{cells: m, code: 1})
		}
		checkOutcome(t, op, nil, pointer(0, 0), 6, outcome{code: 4})
	}
}

// brokenMemories are memories that are not valid, each for one reason.
func brokenMemories(t *testing.T) map[string][]impl.Cell {
	broken := map[string][]impl.Cell{}
	for _, n := range []int{-1 << 63, -1, 10, 1<<63 - 1} {
		broken[fmt.Sprint("with the number ", n)] = []impl.Cell{{Val: n, Alive: true, Next: 1, Stack: tall(1, always)}}
	}
	for _, n := range []int{-1 << 63, -1, 0, 1001, 1<<63 - 1} {
		broken[fmt.Sprint("with ", n, " as Next")] = []impl.Cell{{Alive: true, Next: n, Stack: tall(1, always)}}
	}
	for _, text := range []string{
		"1:5", "1:5 0", "2:5 0 1u", "1:5 1u", "2:5 0u 2", "2:5 0u -1", "2:5 -1u 0", "9:5 0u 0", "9:5 0u 1 2u 1",
		"1000:5 0u 1000", "9:5 0u 9223372036854775807", "9:5 -9223372036854775808u", "9:5 0u 4294967297", "1:5! 0", "0:0",
	} {
		broken[text] = cells(t, text)
	}
	broken["a tall stack"] = []impl.Cell{{Alive: true, Next: 1000, Stack: tall(impl.MaxStack+1, always)}}
	broken["a huge stack"] = []impl.Cell{{Alive: true, Next: 1000, Stack: tall(20000, always)}}
	broken["many cells"] = slices.Repeat(cells(t, "1:5 0u"), impl.MaxCells+1)
	return broken
}

func TestMemoriesThatAreNotValid(t *testing.T) {
	good := cells(t, "1:3 0u", "1:4! 0u")
	for name, bad := range brokenMemories(t) {
		for _, m := range [][]impl.Cell{bad, slices.Concat(good, bad), slices.Concat(bad, good)} {
			if impl.CellsValid(m) {
				t.Fatalf("the memory %s is valid", name)
			}
			if after, x, ok := impl.NewCell(m, 1); ok || len(after) != 0 || x != (impl.Pointer{}) {
				t.Errorf("the memory %s: NewCell = %d cells, %v, %v", name, len(after), x, ok)
			}
			if s, alive := impl.FormatCells(m), impl.AliveCells(m); s != "" || len(alive) != 0 {
				t.Errorf("the memory %s: FormatCells = %q, AliveCells = %v", name, s, alive)
			}
			for op := range allAccesses {
				for cell := -1; cell <= 3; cell++ {
					checkOutcome(t, op, m, pointer(cell, 0), 1, outcome{cells: m, code: 4})
				}
			}
		}
	}
}

func TestCellsShareNoMemory(t *testing.T) {
	m := cells(t, "3:5 0u 1u 2", "4:4! 0u 3")
	argument := roomy(m)
	before := allOf(argument)
	after, _, _ := impl.NewCell(argument, 1)
	again, _, _ := impl.NewCell(argument, 1)
	text := impl.FormatCells(argument)
	alive := impl.AliveCells(argument)
	if !scribbleCells(again) || !slices.Equal(cellTexts(after), append(cellTexts(m), "1:1 0u")) {
		t.Errorf("NewCell = %v", cellTexts(after))
	}
	alive[0] = 7
	if got := impl.AliveCells(argument); !slices.Equal(got, []int{0}) || text != "5 0u 1u 2\n4! 0u 3\n" || !impl.CellsValid(argument) {
		t.Errorf("AliveCells = %v, FormatCells = %q", got, text)
	}
	if !sameCells(allOf(argument), before) {
		t.Error("an argument changed")
	}
	// The cells of an argument may share their stacks; those of a result do not.
	shared := []impl.Cell{m[0], m[0], m[0]}
	for op := range allAccesses {
		for tag := range 4 {
			o := accessed(op, shared, pointer(1, tag), 8)
			if !scribbleCells(o.cells) || !slices.Equal(cellTexts(shared), slices.Repeat([]string{"3:5 0u 1u 2"}, 3)) {
				t.Errorf("the cells of a result of the access %d share memory", op)
			}
		}
	}
}

func TestCodes(t *testing.T) {
	got := []int{impl.CellOk, impl.CellFreed, impl.CellLost, impl.CellReadonly, impl.CellInvalid}
	if want := []int{0, 1, 2, 3, 4}; !slices.Equal(got, want) {
		t.Errorf("codes = %v, want %v", got, want)
	}
}
