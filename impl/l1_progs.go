package impl

import (
	"slices"
	"strconv"
	"strings"
)

// Stmt is a statement.
type Stmt struct {
	Op   int
	X    int
	Y    int
	N    int
	Then []Stmt
	Else []Stmt
}

// Program has the types of its variables, and its statements.
type Program struct {
	Types []int
	Body  []Stmt
}

// Types of variables, operations, and limits.
const (
	TypeInt   = 1
	TypeBox   = 2
	TypeRef   = 3
	TypeMut   = 4
	OpInt     = 1
	OpBox     = 2
	OpMove    = 3
	OpShare   = 4
	OpBorrow  = 5
	OpLoad    = 6
	OpStore   = 7
	OpDrop    = 8
	OpIf      = 9
	OpLoop    = 10
	MaxVars   = 6
	MaxStmts  = 30
	MaxNested = 4
	MaxNumber = 9
)

// maxText is the number of bytes of the longest text that is parsed.
const maxText = 600

// typeLetters has the letter of each type, in their order from TypeInt on.
const typeLetters = "ibrm"

// StmtValid reports whether s is a statement for variables of some types.
func StmtValid(types []int, s Stmt) bool {
	return ProgramValid(Program{Types: types, Body: []Stmt{s}})
}

// ProgramValid reports whether p is valid.
func ProgramValid(p Program) bool {
	_, ok := countValid(p)
	return ok
}

// ProgramSame reports whether a and b are equal.
func ProgramSame(a Program, b Program) bool {
	return slices.Equal(a.Types, b.Types) && sameStmts(a.Body, b.Body)
}

// FormatProgram returns the text of a program.
func FormatProgram(p Program) string {
	if !ProgramValid(p) {
		return ""
	}
	text := ""
	for _, t := range p.Types {
		text += varType(t).letter()
	}
	return text + ":" + listText(p.Body)
}

// ParseProgram parses the text of a program.
func ParseProgram(text string) (Program, bool) {
	if len(text) > maxText {
		return Program{}, false
	}
	r := reader{rest: text}
	types := r.types()
	p := Program{Types: types, Body: r.list()}
	if r.failed || r.rest != "" || !ProgramValid(p) {
		return Program{}, false
	}
	return p, true
}

// CountStmts returns the number of statements of a program.
func CountStmts(p Program) int {
	count, _ := countValid(p)
	return count
}

// VarsOf returns the variables that a statement has, its parts included.
func VarsOf(s Stmt) []int {
	var has [MaxVars]bool
	eachPart(s, func(part *Stmt) {
		if hasX(part.Op) && isVar(part.X) {
			has[part.X] = true
		}
		if hasY(part.Op) && isVar(part.Y) {
			has[part.Y] = true
		}
	})
	var vars []int
	for v, ok := range has {
		if ok {
			vars = append(vars, v)
		}
	}
	return vars
}

// IsReference reports whether a type is that of references.
func IsReference(t int) bool { return varType(t).isReference() }

// hasX reports whether X of a statement stands for a variable. What is no kind
// of statement counts, too, if it is less than the kinds with lists.
func hasX(op int) bool { return op < OpIf }

func hasY(op int) bool { return op >= OpMove && op <= OpStore }

func isVar(v int) bool { return v >= 0 && v < MaxVars }

func isNumber(n int) bool { return n >= 0 && n <= MaxNumber }

// varType is the type of a variable, or 0 where there is no variable.
type varType int

func (t varType) isReference() bool { return t == TypeRef || t == TypeMut }

func (t varType) reachesCell() bool { return t == TypeBox || t.isReference() }

func (t varType) writesCell() bool { return t == TypeBox || t == TypeMut }

func (t varType) letter() string { return typeLetters[t-1 : t] }

// scope has the types of the variables of a program.
type scope []varType

// scopeOf returns false if these are not the types of a valid program.
func scopeOf(types []int) (scope, bool) {
	if len(types) > MaxVars {
		return nil, false
	}
	var vars scope
	for _, t := range types {
		if t < TypeInt || t > TypeMut {
			return nil, false
		}
		vars = append(vars, varType(t))
	}
	return vars, true
}

func (vars scope) typeOf(v int) varType {
	if v < 0 || v >= len(vars) {
		return 0
	}
	return vars[v]
}

// statement is a statement with the fields of its kind only. All of its
// methods are unexported, which seals it: the kinds below are the only ones.
type statement interface {
	fits(vars scope) bool
	text() string
	plain() Stmt
}

type setInt struct{ x, n int }

type setBox struct{ x, n int }

type move struct{ x, y int }

type share struct{ x, y int }

type borrow struct{ x, y int }

type load struct{ x, y int }

type store struct{ x, y int }

type drop struct{ x int }

type choice struct{ yes, no []Stmt }

type repeat struct{ again []Stmt }

// kindOf looks at no fields but those of the kind; that the others are zero
// is for the caller to check where it matters.
func kindOf(s Stmt) (statement, bool) {
	switch s.Op {
	case OpInt:
		return setInt{s.X, s.N}, true
	case OpBox:
		return setBox{s.X, s.N}, true
	case OpMove:
		return move{s.X, s.Y}, true
	case OpShare:
		return share{s.X, s.Y}, true
	case OpBorrow:
		return borrow{s.X, s.Y}, true
	case OpLoad:
		return load{s.X, s.Y}, true
	case OpStore:
		return store{s.X, s.Y}, true
	case OpDrop:
		return drop{s.X}, true
	case OpIf:
		return choice{s.Then, s.Else}, true
	case OpLoop:
		return repeat{s.Then}, true
	}
	return nil, false
}

func (k setInt) fits(vars scope) bool {
	return vars.typeOf(k.x) == TypeInt && isNumber(k.n)
}

func (k setBox) fits(vars scope) bool {
	return vars.typeOf(k.x) == TypeBox && isNumber(k.n)
}

func (k move) fits(vars scope) bool {
	t := vars.typeOf(k.x)
	return t != 0 && vars.typeOf(k.y) == t && k.x != k.y
}

func (k share) fits(vars scope) bool {
	return vars.typeOf(k.x) == TypeRef && vars.typeOf(k.y).reachesCell() && k.x != k.y
}

func (k borrow) fits(vars scope) bool {
	return vars.typeOf(k.x) == TypeMut && vars.typeOf(k.y).writesCell() && k.x != k.y
}

func (k load) fits(vars scope) bool {
	return vars.typeOf(k.x) == TypeInt && vars.typeOf(k.y).reachesCell()
}

func (k store) fits(vars scope) bool {
	return vars.typeOf(k.x).writesCell() && vars.typeOf(k.y) == TypeInt
}

func (k drop) fits(vars scope) bool { return vars.typeOf(k.x) == TypeBox }

func (k choice) fits(vars scope) bool { return true }

func (k repeat) fits(vars scope) bool { return true }

func (k setInt) text() string { return varText(k.x) + "=" + strconv.Itoa(k.n) }

func (k setBox) text() string { return varText(k.x) + "=box " + strconv.Itoa(k.n) }

func (k move) text() string { return varText(k.x) + "=" + varText(k.y) }

func (k share) text() string { return varText(k.x) + "=&" + varText(k.y) }

func (k borrow) text() string { return varText(k.x) + "=&mut " + varText(k.y) }

func (k load) text() string { return varText(k.x) + "=*" + varText(k.y) }

func (k store) text() string { return "*" + varText(k.x) + "=" + varText(k.y) }

func (k drop) text() string { return "drop " + varText(k.x) }

func (k choice) text() string { return "if{" + listText(k.yes) + "}{" + listText(k.no) + "}" }

func (k repeat) text() string { return "loop{" + listText(k.again) + "}" }

func (k setInt) plain() Stmt { return Stmt{Op: OpInt, X: k.x, N: k.n} }

func (k setBox) plain() Stmt { return Stmt{Op: OpBox, X: k.x, N: k.n} }

func (k move) plain() Stmt { return Stmt{Op: OpMove, X: k.x, Y: k.y} }

func (k share) plain() Stmt { return Stmt{Op: OpShare, X: k.x, Y: k.y} }

func (k borrow) plain() Stmt { return Stmt{Op: OpBorrow, X: k.x, Y: k.y} }

func (k load) plain() Stmt { return Stmt{Op: OpLoad, X: k.x, Y: k.y} }

func (k store) plain() Stmt { return Stmt{Op: OpStore, X: k.x, Y: k.y} }

func (k drop) plain() Stmt { return Stmt{Op: OpDrop, X: k.x} }

func (k choice) plain() Stmt { return Stmt{Op: OpIf, Then: k.yes, Else: k.no} }

func (k repeat) plain() Stmt { return Stmt{Op: OpLoop, Then: k.again} }

func varText(v int) string { return string(rune('a' + v)) }

func listText(list []Stmt) string {
	var texts []string
	for _, s := range list {
		if k, ok := kindOf(s); ok {
			texts = append(texts, k.text())
		}
	}
	return strings.Join(texts, ";")
}

// countValid returns the number of statements of p, or 0 and false if p is not valid.
func countValid(p Program) (int, bool) {
	vars, ok := scopeOf(p.Types)
	c := stmtChecker{vars: vars}
	if !ok || !c.listValid(p.Body, 0) {
		return 0, false
	}
	return c.count, true
}

// stmtChecker counts the statements that it has checked. It refuses the first
// one that is too many, and so ends for a list that is a part of itself, too.
type stmtChecker struct {
	vars  scope
	count int
}

func (c *stmtChecker) listValid(list []Stmt, nested int) bool {
	for _, s := range list {
		if !c.stmtValid(s, nested) {
			return false
		}
	}
	return true
}

func (c *stmtChecker) stmtValid(s Stmt, nested int) bool {
	c.count++
	if c.count > MaxStmts {
		return false
	}
	k, ok := kindOf(s)
	if !ok || !k.fits(c.vars) || !sameOutside(s, k.plain()) {
		return false
	}
	if s.Op < OpIf {
		return true
	}
	return nested < MaxNested && c.listValid(s.Then, nested+1) && c.listValid(s.Else, nested+1)
}

// sameOutside compares two statements without looking into their lists.
func sameOutside(a Stmt, b Stmt) bool {
	return a.Op == b.Op && a.X == b.X && a.Y == b.Y && a.N == b.N &&
		len(a.Then) == len(b.Then) && len(a.Else) == len(b.Else)
}

// stmtPair has two statements that stand at the same place of two programs.
type stmtPair struct{ a, b *Stmt }

// sameStmts keeps the pairs that it has met instead of calling itself: a list
// of an invalid program can be a part of itself, or stand in many places.
func sameStmts(a []Stmt, b []Stmt) bool {
	if len(a) != len(b) {
		return false
	}
	met := map[stmtPair]bool{}
	work := addPairs(nil, a, b, met)
	for len(work) > 0 {
		pair := work[len(work)-1]
		work = work[:len(work)-1]
		if !sameOutside(*pair.a, *pair.b) {
			return false
		}
		work = addPairs(work, pair.a.Then, pair.b.Then, met)
		work = addPairs(work, pair.a.Else, pair.b.Else, met)
	}
	return true
}

// addPairs is for lists of the same length.
func addPairs(work []stmtPair, a []Stmt, b []Stmt, met map[stmtPair]bool) []stmtPair {
	for i := range a {
		pair := stmtPair{&a[i], &b[i]}
		if !met[pair] {
			met[pair] = true
			work = append(work, pair)
		}
	}
	return work
}

// eachPart visits s and the statements in it, in no certain order. It visits
// each place of memory once, for the same reason as sameStmts.
func eachPart(s Stmt, visit func(part *Stmt)) {
	met := map[*Stmt]bool{}
	work := []*Stmt{&s}
	for len(work) > 0 {
		part := work[len(work)-1]
		work = work[:len(work)-1]
		visit(part)
		work = addParts(work, part.Then, met)
		work = addParts(work, part.Else, met)
	}
}

func addParts(work []*Stmt, list []Stmt, met map[*Stmt]bool) []*Stmt {
	for i := range list {
		if part := &list[i]; !met[part] {
			met[part] = true
			work = append(work, part)
		}
	}
	return work
}

// reader reads a text from its front. After a failure, it goes on with what is
// there, as each of its loops needs a further byte; its results do not count.
type reader struct {
	rest   string
	failed bool
}

func (r *reader) take(word string) bool {
	rest, ok := strings.CutPrefix(r.rest, word)
	r.rest = rest
	return ok
}

func (r *reader) expect(word string) {
	if !r.take(word) {
		r.failed = true
	}
}

// oneOf reads one of count bytes, and returns its distance from the first one.
func (r *reader) oneOf(first byte, count int) int {
	if r.rest == "" || r.rest[0] < first || int(r.rest[0]-first) >= count {
		r.failed = true
		return 0
	}
	n := int(r.rest[0] - first)
	r.rest = r.rest[1:]
	return n
}

func (r *reader) variable() int { return r.oneOf('a', MaxVars) }

func (r *reader) number() int { return r.oneOf('0', MaxNumber+1) }

func (r *reader) atNumber() bool {
	return r.rest != "" && r.rest[0] >= '0' && r.rest[0] <= '9'
}

// types reads the letters in front of the colon, and the colon.
func (r *reader) types() []int {
	letters, rest, ok := strings.Cut(r.rest, ":")
	if !ok {
		r.failed = true
	}
	r.rest = rest
	var types []int
	for i := range len(letters) {
		// What is no letter of a type becomes 0, which no valid program has.
		types = append(types, strings.IndexByte(typeLetters, letters[i])+TypeInt)
	}
	return types
}

// list reads statements to the end of the text or of the braces around them.
func (r *reader) list() []Stmt {
	if r.rest == "" || r.rest[0] == '}' {
		return nil
	}
	list := []Stmt{r.statement().plain()}
	for r.take(";") {
		list = append(list, r.statement().plain())
	}
	return list
}

func (r *reader) braces() []Stmt {
	r.expect("{")
	list := r.list()
	r.expect("}")
	return list
}

func (r *reader) statement() statement {
	switch {
	case r.take("if"):
		yes := r.braces()
		return choice{yes, r.braces()}
	case r.take("loop"):
		return repeat{r.braces()}
	case r.take("drop "):
		return drop{r.variable()}
	case r.take("*"):
		x := r.variable()
		r.expect("=")
		return store{x, r.variable()}
	}
	x := r.variable()
	r.expect("=")
	return r.valueFor(x)
}

// valueFor reads what is behind the equals sign of a statement that sets x.
func (r *reader) valueFor(x int) statement {
	switch {
	case r.take("box "):
		return setBox{x, r.number()}
	case r.take("&mut "):
		return borrow{x, r.variable()}
	case r.take("&"):
		return share{x, r.variable()}
	case r.take("*"):
		return load{x, r.variable()}
	case r.atNumber():
		return setInt{x, r.number()}
	}
	return move{x, r.variable()}
}
