package tests

import (
	"fmt"
	"slices"
	"strings"
	"testing"

	"loop.example/borrowcheck/impl"
)

// result is all that the functions of the machine return for a run.
type result struct {
	code, at    int
	slots       []impl.Slot
	cells       []impl.Cell
	read        []int
	made, freed int
}

func (r result) String() string {
	return fmt.Sprint(endNames[r.code], " ", r.at, " ", r.slots, " ", cellTexts(r.cells), " ", r.read, " ", r.made, " ", r.freed)
}

func (r result) same(w result) bool {
	return r.code == w.code && r.at == w.at && slices.Equal(r.slots, w.slots) && sameCells(r.cells, w.cells) &&
		slices.Equal(r.read, w.read) && r.made == w.made && r.freed == w.freed
}

var endNames = []string{"done", "cut", "unset", "freed", "lost", "invalid"}

// slotTexts writes the slots that have a value: the number of a number, and the cell and the tag of a pointer.
func slotTexts(types []int, slots []impl.Slot) string {
	var texts []string
	for v, s := range slots {
		text := fmt.Sprint(string(rune('a'+v)), "=")
		switch {
		case s == impl.Slot{}:
			continue
		case types[v] == impl.TypeInt && s == impl.Slot{Set: true, Num: s.Num}:
			text += fmt.Sprint(s.Num)
		case types[v] != impl.TypeInt && s == impl.Slot{Set: true, Ptr: s.Ptr}:
			text += fmt.Sprint(s.Ptr.Cell, ".", s.Ptr.Tag)
		default:
			text += fmt.Sprintf("%+v", s)
		}
		texts = append(texts, text)
	}
	return strings.Join(texts, " ")
}

// ran returns what the functions of the machine return, which has to agree.
func ran(t *testing.T, p impl.Program, choices []int, most int) result {
	t.Helper()
	var r result
	var codes [4]int
	r.code, r.at = impl.RunProgram(p, choices, most)
	r.slots, codes[0] = impl.FinalSlots(p, choices, most)
	r.cells, codes[1] = impl.FinalCells(p, choices, most)
	r.read, codes[2] = impl.NumbersRead(p, choices, most)
	r.made, r.freed, codes[3] = impl.CellsMade(p, choices, most)
	if codes != [4]int{r.code, r.code, r.code, r.code} {
		t.Fatalf("%s with %v and %d points ends in different ways: %v", impl.FormatProgram(p), choices, most, codes)
	}
	return r
}

// runCases are runs with their ends, the slots with a value, and the lines of the memory, at the end.
var runCases = []struct {
	text         string
	choices      []int
	most         int
	end          string
	slots, cells string
	read         []int
}{
	{":", nil, 0, "done 0", "", "", nil},
	{":if{}{};loop{}", []int{0, 0, 0}, 50, "done 4", "", "", nil},
	{"i:a=1", nil, 50, "done 1", "a=1", "", nil},
	{"ii:a=0;b=a;a=9", nil, 50, "done 3", "a=9 b=0", "", nil},
	// The example of the chapter, and the ways in which a cell is used that is gone.
	{"ibr:b=box 1;c=&b;drop b;a=*c", nil, 50, "freed 3", "c=0.1", "1! 0u", nil},
	{"ibr:b=box 1;c=&b;b=box 2;a=*c", nil, 50, "freed 3", "b=1.0 c=0.1", "1! 0u;2 0u", nil},
	{"ibm:a=3;b=box 1;c=&mut b;drop b;*c=a", nil, 50, "freed 4", "a=3 c=0.1", "1! 0u", nil},
	{"bmr:a=box 1;b=&mut a;drop a;c=&b", nil, 50, "freed 3", "b=0.1", "1! 0u", nil},
	{"bmm:a=box 1;b=&mut a;drop a;c=&mut b", nil, 50, "freed 3", "b=0.1", "1! 0u", nil},
	{"ibbr:b=box 1;c=box 2;d=&c;c=b;a=*c;a=*d", nil, 50, "freed 5", "a=1 c=0.0 d=1.1", "1 0u;2! 0u", []int{1}},
	// A pointer that was lost, by a write or by a read.
	{"ibmm:a=3;b=box 1;c=&mut b;d=&mut c;*c=a;*d=a", nil, 50, "lost 5", "a=3 b=0.0 c=0.1 d=0.2", "3 0u 1u", nil},
	{"ibmr:a=3;b=box 1;c=&mut b;d=&b;*c=a;a=*d", nil, 50, "lost 4", "a=3 b=0.0 c=0.1 d=0.2", "1 0u 2", nil},
	{"ibr:a=3;b=box 1;c=&b;*b=a;a=*c", nil, 50, "lost 4", "a=3 b=0.0 c=0.1", "3 0u", nil},
	{"ibm:b=box 1;c=&mut b;a=*b;a=*c", nil, 50, "lost 3", "a=1 b=0.0 c=0.1", "1 0u", []int{1}},
	{"bmmr:a=box 1;b=&mut a;c=&mut a;d=&b", nil, 50, "lost 3", "a=0.0 b=0.1 c=0.2", "1 0u 2u", nil},
	{"bmmm:a=box 1;b=&mut a;c=&mut a;d=&mut b", nil, 50, "lost 3", "a=0.0 b=0.1 c=0.2", "1 0u 2u", nil},
	// A number that cannot be loaded is not there, and what has a value keeps it.
	{"ibr:a=7;b=box 1;c=&b;*b=a;a=2;a=*c", nil, 50, "lost 5", "a=2 b=0.0 c=0.1", "7 0u", nil},
	{"bmr:a=box 1;b=&mut a;c=&a;drop a;c=&b", nil, 50, "freed 4", "b=0.1 c=0.2", "1! 0u", nil},
	// What has no value, and what had one that was taken.
	{"ii:a=b", nil, 50, "unset 0", "", "", nil},
	{"bb:a=b", nil, 50, "unset 0", "", "", nil},
	{"rr:a=b", nil, 50, "unset 0", "", "", nil},
	{"mm:a=b", nil, 50, "unset 0", "", "", nil},
	{"br:b=&a", nil, 50, "unset 0", "", "", nil},
	{"bm:b=&mut a", nil, 50, "unset 0", "", "", nil},
	{"ib:a=2;a=*b", nil, 50, "unset 1", "a=2", "", nil},
	{"ib:a=2;*b=a", nil, 50, "unset 1", "a=2", "", nil},
	{"ib:b=box 2;*b=a", nil, 50, "unset 1", "b=0.0", "2 0u", nil},
	{"b:drop a", nil, 50, "unset 0", "", "", nil},
	{"b:a=box 3;drop a;drop a", nil, 50, "unset 2", "", "3! 0u", nil},
	{"ibb:b=box 1;c=b;a=*b", nil, 50, "unset 2", "c=0.0", "1 0u", nil},
	{"ibmm:b=box 1;c=&mut b;d=c;a=*d;a=*c", nil, 50, "unset 4", "a=1 b=0.0 d=0.1", "1 0u 1u", []int{1}},
	{"ib:if{b=box 1}{};a=*b", []int{1}, 50, "unset 3", "", "", nil},
	{"ib:if{b=box 1}{};a=*b", []int{0}, 50, "done 4", "a=1", "1! 0u", []int{1}},
	// The value of a box is gone before a later use, but not that of a shared reference that was read.
	{"ibb:b=box 1;c=box 2;b=c;b=c", nil, 50, "unset 3", "b=1.0", "1! 0u;2 0u", nil},
	{"ibrr:b=box 1;c=&b;d=c;a=*c;a=*d", nil, 50, "done 5", "a=1 c=0.1 d=0.1", "1! 0u", []int{1, 1}},
	{"bmm:a=box 1;b=&mut a;c=&mut a;c=b;b=c", nil, 50, "done 5", "b=0.1", "1! 0u", nil},
	// A box that gets another value frees what it had.
	{"b:a=box 4;a=box 5", nil, 50, "done 2", "", "4! 0u;5! 0u", nil},
	{"b:a=box 4;a=box 5", nil, 1, "cut 0", "a=0.0", "4 0u", nil},
	{"bb:a=box 4;b=box 5;a=b;b=box 6", nil, 3, "cut 2", "a=1.0", "4! 0u;5 0u", nil},
	{"bb:a=box 4;b=box 5;a=b;b=box 6", nil, 4, "done 4", "", "4! 0u;5! 0u;6! 0u", nil},
	{"bb:a=box 4;b=a;b=box 5", nil, 2, "cut 1", "b=0.0", "4 0u", nil},
	{"bbm:a=box 4;c=&mut a;b=box 5;a=b", nil, 4, "done 4", "c=0.1", "4! 0u;5! 0u", nil},
	{"bm:a=box 4;b=&mut a;b=&mut a;a=box 5", nil, 3, "cut 2", "a=0.0 b=0.2", "4 0u 2u", nil},
	{"ib:b=box 4;drop b;b=box 5;a=*b", nil, 50, "done 4", "a=5", "4! 0u;5! 0u", []int{5}},
	// Other variables that get another value free nothing.
	{"bbr:a=box 1;b=box 2;c=&a;c=&b;c=&a", nil, 5, "done 5", "c=0.2", "1! 0u;2! 0u", nil},
	{"ibr:b=box 1;c=&b;c=&b;a=*c", nil, 3, "cut 2", "b=0.0 c=0.2", "1 0u 1 2", nil},
	// Boxes that are left at the end are freed, and references keep what they have.
	{"bibbr:a=box 1;c=box 2;d=box 3;e=&c;d=c", nil, 50, "done 5", "e=1.1", "1! 0u;2! 0u;3! 0u", nil},
	{"ibmm:a=3;b=box 1;c=&mut b;d=&mut c;*d=a;*c=a;drop b", nil, 50, "done 7", "a=3 c=0.1 d=0.2", "3! 0u", nil},
	// Loans of loans, and what writing and reading leave of them.
	{"ibmr:a=3;b=box 1;c=&mut b;d=&c;a=*d;*c=a", nil, 6, "done 6", "a=1 c=0.1 d=0.2", "1! 0u", []int{1}},
	{"ibmr:a=3;b=box 1;c=&mut b;d=&c;a=*d;*c=a", nil, 5, "cut 4", "a=1 b=0.0 c=0.1 d=0.2", "1 0u 1u 2", []int{1}},
	{"ibmr:a=3;b=box 1;c=&mut b;*c=a;d=&b", nil, 4, "cut 3", "a=3 b=0.0 c=0.1", "3 0u 1u", nil},
	// Choices lead into loops and branches; a run that is cut off ends at the last point, or at 0.
	{"ib:b=box 4;loop{a=*b}", []int{0, 0, 1}, 50, "done 4", "a=4", "4! 0u", []int{4, 4}},
	{"ib:b=box 4;loop{a=*b}", []int{0, 0, 1}, 6, "cut 2", "a=4 b=0.0", "4 0u", []int{4, 4}},
	{"ib:b=box 4;loop{a=*b}", []int{0, 0, 1}, 8, "done 4", "a=4", "4! 0u", []int{4, 4}},
	{"ib:b=box 4;loop{a=*b}", []int{0, 0, 1}, 7, "cut 3", "a=4 b=0.0", "4 0u", []int{4, 4}},
	{"ib:b=box 4;loop{a=*b}", []int{-3, 0, 0}, 50, "done 4", "", "4! 0u", nil},
	{"ib:b=box 4;loop{a=*b}", []int{-2}, 50, "done 4", "a=4", "4! 0u", []int{4}},
	{"ib:b=box 4;loop{a=*b}", nil, 0, "cut 0", "", "", nil},
	{"ib:b=box 4;loop{drop b};b=box 5", []int{0, 0}, 50, "unset 2", "", "4! 0u", nil},
	{"ib:b=box 4;loop{drop b};b=box 5", []int{0, 0}, 5, "cut 1", "", "4! 0u", nil},
	{"ib:if{a=1}{a=2}", []int{0}, 50, "done 4", "a=1", "", nil},
	{"ib:if{a=1}{a=2}", nil, 50, "done 4", "a=2", "", nil},
	// A run that goes wrong at its last point, or behind it.
	{"ib:a=1;a=*b;a=2", nil, 2, "unset 1", "a=1", "", nil},
	{"ib:a=1;a=*b;a=2", nil, 1, "cut 0", "a=1", "", nil},
}

func TestRuns(t *testing.T) {
	for _, c := range runCases {
		p := parsed(t, c.text)
		r := ran(t, p, c.choices, c.most)
		end := fmt.Sprint(endNames[r.code], " ", r.at)
		lines := strings.TrimSuffix(impl.FormatCells(r.cells), "\n")
		if cells := strings.ReplaceAll(lines, "\n", ";"); end != c.end || cells != c.cells {
			t.Errorf("%s with %v and %d points: %s with the cells %q, want %s with %q", c.text, c.choices, c.most, end, cells, c.end, c.cells)
		}
		if got := slotTexts(p.Types, r.slots); got != c.slots || len(r.slots) != len(p.Types) || !slices.Equal(r.read, c.read) {
			t.Errorf("%s with %v and %d points: slots %q, read %v, want %q, %v", c.text, c.choices, c.most, got, r.read, c.slots, c.read)
		}
		if alive := len(impl.AliveCells(r.cells)); r.made != len(r.cells) || r.freed != len(r.cells)-alive {
			t.Errorf("%s with %v and %d points: CellsMade = %d, %d", c.text, c.choices, c.most, r.made, r.freed)
		}
	}
}

// goesOn is the code of a run that has not ended.
const goesOn = -1

// modelMachine executes points by their texts, on the model of the accesses.
type modelMachine struct {
	types []int
	slots []impl.Slot
	cells []impl.Cell
	read  []int
}

// access makes an access by the pointer of a variable, and returns how the run ends by it.
func (m *modelMachine) access(op, v, val int) (outcome, int) {
	o := modelOfAccess(op, m.cells, m.slots[v].Ptr, val)
	m.cells = o.cells
	return o, []int{goesOn, impl.RunFreed, impl.RunLost, impl.RunLost, impl.RunLost}[o.code]
}

func (m *modelMachine) put(v int, s impl.Slot) int {
	code := goesOn
	if m.types[v] == impl.TypeBox && m.slots[v].Set {
		_, code = m.access(frees, v, 0)
	}
	m.slots[v] = s
	return code
}

func (m *modelMachine) lend(x impl.Point, op int) int {
	o, code := m.access(op, x.Y, 0)
	if code == goesOn {
		m.slots[x.X] = impl.Slot{Set: true, Ptr: o.made}
	}
	return code
}

func (m *modelMachine) load(x impl.Point) int {
	o, code := m.access(reads, x.Y, 0)
	if code == goesOn {
		m.read = append(m.read, o.number)
		m.slots[x.X] = impl.Slot{Set: true, Num: o.number}
	}
	return code
}

func (m *modelMachine) box(x impl.Point) int {
	stack := []impl.Tag{{Id: 0, Unique: true}}
	m.cells = append(slices.Clone(m.cells), impl.Cell{Val: x.N, Alive: true, Next: 1, Stack: stack})
	return m.put(x.X, impl.Slot{Set: true, Ptr: impl.Pointer{Cell: len(m.cells) - 1}})
}

func (m *modelMachine) move(x impl.Point) int {
	s := m.slots[x.Y]
	if kind := m.types[x.Y]; kind == impl.TypeBox || kind == impl.TypeMut {
		m.slots[x.Y] = impl.Slot{}
	}
	return m.put(x.X, s)
}

func (m *modelMachine) end() int {
	for v, kind := range m.types {
		if kind == impl.TypeBox {
			m.put(v, impl.Slot{})
		}
	}
	return impl.RunDone
}

// point returns how the run ends at a point, or goesOn.
func (m *modelMachine) point(x impl.Point) int {
	text := impl.PointText(x)
	for v := range m.types {
		if useAt(impl.Program{Types: m.types}, x, v) != impl.UseNone && !m.slots[v].Set {
			return impl.RunUnset
		}
	}
	_, value, sets := strings.Cut(text, "=")
	switch {
	case text == "end":
		return m.end()
	case strings.HasPrefix(text, "drop"):
		return m.put(x.X, impl.Slot{})
	case strings.HasPrefix(text, "*"):
		_, code := m.access(writes, x.X, m.slots[x.Y].Num)
		return code
	case !sets:
		return goesOn
	case strings.HasPrefix(value, "box"):
		return m.box(x)
	case strings.HasPrefix(value, "&mut"):
		return m.lend(x, borrows)
	case strings.HasPrefix(value, "&"):
		return m.lend(x, shares)
	case strings.HasPrefix(value, "*"):
		return m.load(x)
	case value >= "0" && value <= "9":
		return m.put(x.X, impl.Slot{Set: true, Num: x.N})
	}
	return m.move(x)
}

// cutPath returns the points of a run that the machine is to execute.
func cutPath(p impl.Program, choices []int, most int) []int {
	path := wholeRun(p, choices)
	if len(path) > most+1 {
		return path[:most]
	}
	return path
}

func modelOfRun(p impl.Program, choices []int, most int) result {
	points := impl.PointsOf(p)
	m := &modelMachine{types: p.Types, slots: make([]impl.Slot, len(p.Types))}
	r := result{code: impl.RunCut}
	for _, at := range cutPath(p, choices, most) {
		r.at = at
		if code := m.point(points[at]); code != goesOn {
			r.code = code
			break
		}
	}
	r.slots, r.cells, r.read, r.made = m.slots, m.cells, m.read, len(m.cells)
	for _, c := range m.cells {
		if !c.Alive {
			r.freed++
		}
	}
	return r
}

// startOf returns statements that give each variable a value, if the variable 1 is a box.
func startOf(types []int) []impl.Stmt {
	list := []impl.Stmt{simple(impl.OpBox, 1, 0, 5)}
	for v, kind := range types {
		switch {
		case v == 1:
		case kind == impl.TypeInt:
			list = append(list, simple(impl.OpInt, v, 0, 7))
		case kind == impl.TypeBox:
			list = append(list, simple(impl.OpBox, v, 0, v))
		case kind == impl.TypeRef:
			list = append(list, simple(impl.OpShare, v, 1, 0))
		case kind == impl.TypeMut:
			list = append(list, simple(impl.OpBorrow, v, 1, 0))
		}
	}
	return list
}

// machinePrograms are valid programs whose runs end in all ways.
func machinePrograms(t *testing.T) []impl.Program {
	programs := append(mixedPrograms(150), smallPrograms(t)...)
	for _, p := range borrowing(600) {
		repaired, _ := impl.RepairProgram(p)
		programs = append(programs, p, repaired)
		p.Body = append(startOf(p.Types), p.Body...)
		if impl.ProgramValid(p) {
			programs = append(programs, p)
		}
	}
	for _, c := range runCases {
		programs = append(programs, parsed(t, c.text))
	}
	return programs
}

func TestRunsOfManyPrograms(t *testing.T) {
	d := &dice{state: 19}
	var ends [5]int
	for _, p := range machinePrograms(t) {
		text := impl.FormatProgram(p)
		for range 3 {
			choices := d.choices(30)
			before := slices.Clone(choices)
			for _, most := range []int{d.upTo(20), 150} {
				got, want := ran(t, p, choices, most), modelOfRun(p, choices, most)
				if !got.same(want) {
					t.Fatalf("%s with %v and %d points: %v, want %v", text, choices, most, got, want)
				}
				if !impl.CellsValid(got.cells) {
					t.Fatalf("%s with %v and %d points: the memory is not valid", text, choices, most)
				}
				ends[got.code]++
			}
			if !slices.Equal(choices, before) || impl.FormatProgram(p) != text {
				t.Fatalf("an argument changed: %s, %v", text, choices)
			}
		}
	}
	for code, n := range ends {
		if n < 500 {
			t.Errorf("only %d runs end with %s", n, endNames[code])
		}
	}
}

// endAt tells, from the slots and the memory before a point, how the run has to end at it.
func endAt(p impl.Program, x impl.Point, slots []impl.Slot, m []impl.Cell) int {
	for v := range p.Types {
		if useAt(p, x, v) != impl.UseNone && !slots[v].Set {
			return impl.RunUnset
		}
	}
	for v := range p.Types {
		if useAt(p, x, v) != impl.UseReach {
			continue
		}
		c := m[slots[v].Ptr.Cell]
		if !c.Alive {
			return impl.RunFreed
		}
		if !slices.ContainsFunc(c.Stack, func(tag impl.Tag) bool { return tag.Id == slots[v].Ptr.Tag }) {
			return impl.RunLost
		}
	}
	if x.Op == impl.OpEnd {
		return impl.RunDone
	}
	return goesOn
}

// A run ends at the first point that uses what has no value, is gone or was lost, and at no other one in front of the last.
func TestWhatRunsUse(t *testing.T) {
	d := &dice{state: 23}
	var ends [5]int
	for _, p := range machinePrograms(t) {
		points := impl.PointsOf(p)
		choices, most := d.choices(16), d.upTo(60)
		path := cutPath(p, choices, most)
		code, last := impl.RunCut, 0
		for i, at := range path {
			slots, _ := impl.FinalSlots(p, choices, i)
			cells, _ := impl.FinalCells(p, choices, i)
			last = at
			if end := endAt(p, points[at], slots, cells); end != goesOn {
				code = end
				break
			}
		}
		if end, at := impl.RunProgram(p, choices, most); end != code || at != last {
			t.Fatalf("%s with %v ends with %s at %d, want %s at %d", impl.FormatProgram(p), choices, endNames[end], at, endNames[code], last)
		}
		ends[code]++
	}
	for code, n := range ends {
		if n < 50 {
			t.Errorf("only %d runs end with %s", n, endNames[code])
		}
	}
}

// A run of an accepted program does not go wrong.
func TestMachineOfAcceptedPrograms(t *testing.T) {
	d := &dice{state: 29}
	count := 0
	for _, p := range machinePrograms(t) {
		if !impl.Accepts(p) {
			continue
		}
		choices := d.choices(16)
		if code, at := impl.RunProgram(p, choices, 150); code != impl.RunDone && code != impl.RunCut {
			t.Fatalf("%s with %v ends with %s at %d", impl.FormatProgram(p), choices, endNames[code], at)
		}
		count++
	}
	if count < 500 {
		t.Errorf("only %d programs are accepted", count)
	}
}

func TestLimitOfRuns(t *testing.T) {
	for _, c := range []struct {
		text     string
		choices  []int
		most     int
		code, at int
		numbers  int
	}{
		// A run of 151 points is whole, and one of 152 is cut off behind 150.
		{"iib:c=box 1;b=1;loop{a=*c}", make([]int, 49), 150, impl.RunDone, 5, 49},
		{"iib:c=box 1;b=1;loop{a=*c}", make([]int, 49), 149, impl.RunCut, 4, 49},
		{"iib:c=box 1;b=1;loop{a=*c};b=2", make([]int, 49), 150, impl.RunCut, 2, 49},
		{"iib:c=box 1;b=1;loop{a=*c};b=2", make([]int, 1000), 150, impl.RunCut, 2, 49},
		{"ib:b=box 1;loop{a=*b}", make([]int, 50), 150, impl.RunCut, 2, 50},
		{":loop{}", make([]int, 74), 150, impl.RunDone, 2, 0},
		{":loop{}", make([]int, 75), 150, impl.RunCut, 1, 0},
		{":loop{}", make([]int, 100000), 150, impl.RunCut, 1, 0},
		{":loop{}", make([]int, 100000), 1, impl.RunCut, 0, 0},
		{":loop{}", make([]int, 100000), 0, impl.RunCut, 0, 0},
	} {
		r := ran(t, parsed(t, c.text), c.choices, c.most)
		if r.code != c.code || r.at != c.at || len(r.read) != c.numbers {
			t.Errorf("%s with %d loops and %d points: %s %d, %d numbers", c.text, len(c.choices), c.most, endNames[r.code], r.at, len(r.read))
		}
	}
}

// A loop with as many statements as there can be makes the most cells, and the tallest stack.
func TestMostCellsAndTags(t *testing.T) {
	choices := make([]int, 20)
	boxes := impl.Program{Types: []int{2}, Body: []impl.Stmt{loop(slices.Repeat([]impl.Stmt{simple(impl.OpBox, 0, 0, 3)}, 29)...)}}
	if n, freed, code := impl.CellsMade(boxes, choices, 150); n != 141 || freed != 140 || code != impl.RunCut {
		t.Errorf("CellsMade = %d, %d, %d", n, freed, code)
	}
	if n, freed, code := impl.CellsMade(boxes, choices[:4], 150); n != 116 || freed != 116 || code != impl.RunDone {
		t.Errorf("CellsMade = %d, %d, %d", n, freed, code)
	}
	for _, pair := range [][]impl.Stmt{
		{simple(impl.OpShare, 1, 0, 0), simple(impl.OpShare, 2, 1, 0)},
		{simple(impl.OpBorrow, 3, 4, 0), simple(impl.OpBorrow, 4, 3, 0)},
	} {
		list := []impl.Stmt{simple(impl.OpBox, 0, 0, 3), simple(impl.OpBorrow, 4, 0, 0), loop(slices.Repeat(pair, 13)...)}
		p := impl.Program{Types: []int{2, 3, 3, 4, 4}, Body: list}
		got := ran(t, p, choices, 150)
		if want := modelOfRun(p, choices, 150); got.code != impl.RunCut || !got.same(want) {
			t.Errorf("%s: %v, want %v", impl.FormatProgram(p), got, want)
		}
		if got.cells[0].Next < 130 || len(got.cells[0].Stack) < 130 {
			t.Errorf("%s: only %d tags", impl.FormatProgram(p), len(got.cells[0].Stack))
		}
	}
}

func TestRunsThatAreNotThere(t *testing.T) {
	broken := impl.Program{Types: []int{1, 2}, Body: []impl.Stmt{simple(impl.OpInt, 0, 0, 1), simple(impl.OpDrop, 0, 0, 0)}}
	for i, p := range append(invalidPrograms(), broken) {
		for _, most := range []int{-1, 0, 1, 50, 150, 151} {
			if r := ran(t, p, []int{0, 1}, most); !r.same(result{code: impl.RunInvalid}) {
				t.Errorf("the invalid program %d with %d points: %v", i, most, r)
			}
		}
	}
	for _, text := range []string{":", "i:a=1", "ibr:b=box 1;c=&b;drop b;a=*c"} {
		for _, most := range []int{-1 << 63, -150, -1, 151, 152, 1000, 1001, 1 << 32, 1<<63 - 1} {
			if r := ran(t, parsed(t, text), nil, most); !r.same(result{code: impl.RunInvalid}) {
				t.Errorf("%s with %d points: %v", text, most, r)
			}
		}
	}
}

func TestRunsShareNoMemory(t *testing.T) {
	text := "ibrm:b=box 4;loop{a=*b;d=&mut b;c=&d;b=box 5;c=&b}"
	p := parsed(t, text)
	choices := []int{0, 0, 0, 0, 0, 0}
	for most := range 20 {
		r, again := ran(t, p, choices[:2], most), ran(t, p, choices[:2], most)
		for i := range again.slots[:cap(again.slots)] {
			again.slots[:cap(again.slots)][i] = impl.Slot{Num: 99}
		}
		for i := range again.read[:cap(again.read)] {
			again.read[:cap(again.read)][i] = 99
		}
		apart := scribbleCells(again.cells)
		if want := modelOfRun(p, choices[:2], most); !apart || !r.same(want) || !ran(t, p, choices[:2], most).same(want) {
			t.Errorf("with %d points: memory is shared: %v, want %v", most, r, want)
		}
	}
	if got := impl.FormatProgram(p); got != text || slices.Max(choices) != 0 {
		t.Errorf("an argument changed: %s, %v", got, choices)
	}
}

func TestEnds(t *testing.T) {
	got := []int{impl.RunDone, impl.RunCut, impl.RunUnset, impl.RunFreed, impl.RunLost, impl.RunInvalid}
	if want := []int{0, 1, 2, 3, 4, 5}; !slices.Equal(got, want) {
		t.Errorf("ends = %v, want %v", got, want)
	}
}
