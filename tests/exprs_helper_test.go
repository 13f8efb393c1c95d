package tests

import (
	"fmt"
	"math/big"
	"math/rand"
	"regexp"
	"slices"
	"strings"
	"testing"

	"loop.example/jetton/impl"
)

// The second language: words are found by forms; they are parted, from the end, at the sign that binds least, which
// makes a tree of knots; these are reckoned by math/big and by the dates of time.

// knot is a part, with those that it takes.
type knot struct {
	part impl.Part
	kids []*knot
}

// Numbers of parts, as the document has them.
const (
	opVal = iota
	opCol
	opAdd
	opSub
	opMul
	opDiv
	opEq
	opNe
	opLt
	opLe
	opGt
	opGe
	opAnd
	opOr
	opNot
	opNull
)

// opWords is how parts are written.
var opWords = map[int]string{
	opAdd: "+", opSub: "-", opMul: "*", opDiv: "/", opEq: "=", opNe: "<>", opLt: "<", opLe: "<=", opGt: ">", opGe: ">=", opAnd: "and", opOr: "or", opNot: "not",
}

// Forms of words; the longest is taken.
var (
	wordForm  = longestForm(`^('([^']|'')*'|[a-z][a-z0-9.]*|[@#][a-z0-9-]*|[0-9][0-9.]*|<=|>=|<>|[(),=+*/<>-])`)
	minusForm = longestForm(`^-[0-9][0-9.]*`)
)

func longestForm(form string) *regexp.Regexp {
	made := regexp.MustCompile(form)
	made.Longest()
	return made
}

// wantSplit is the words of a text; false, if there are none.
func wantSplit(s string) ([]string, bool) {
	var words []string
	for at := 0; at < len(s); {
		word := wordForm.FindString(s[at:])
		if at == 0 || strings.Contains(" (,", s[at-1:at]) {
			word = max(word, minusForm.FindString(s[at:]))
		}
		switch {
		case s[at] == ' ':
			at++
			continue
		case word == "":
			return nil, false
		}
		words = append(words, word)
		at += len(word)
	}
	return words, len(s) <= 400
}

// deepest is how many parentheses are open at once; -1, if they do not agree.
func deepest(words []string) int {
	open, most := 0, 0
	for _, w := range words {
		switch w {
		case "(":
			open++
		case ")":
			open--
		}
		if open < 0 {
			return -1
		}
		most = max(most, open)
	}
	if open != 0 {
		return -1
	}
	return most
}

// lastOutside is the place of the last word that is the sign of one of some parts, outside of parentheses; and the part.
func lastOutside(words []string, ops ...int) (int, int) {
	open := 0
	for at := len(words) - 1; at >= 0; at-- {
		switch words[at] {
		case ")":
			open++
		case "(":
			open--
		}
		for _, op := range ops {
			if open == 0 && words[at] == opWords[op] {
				return at, op
			}
		}
	}
	return -1, 0
}

// opKnot is a part with what it takes; none, if one of these is none.
func opKnot(op int, kids ...*knot) *knot {
	if slices.Contains(kids, nil) {
		return nil
	}
	return &knot{part: impl.Part{Op: op}, kids: kids}
}

// partedKnot parts words at the last of some signs.
func partedKnot(words []string, left, right func(words []string) *knot, ops ...int) *knot {
	at, op := lastOutside(words, ops...)
	if at < 0 {
		return right(words)
	}
	return opKnot(op, left(words[:at]), right(words[at+1:]))
}

func orKnot(words []string) *knot  { return partedKnot(words, orKnot, andKnot, opOr) }
func andKnot(words []string) *knot { return partedKnot(words, andKnot, notKnot, opAnd) }
func sumKnot(words []string) *knot { return partedKnot(words, sumKnot, termKnot, opAdd, opSub) }

func termKnot(words []string) *knot { return partedKnot(words, termKnot, firstKnot, opMul, opDiv) }

func notKnot(words []string) *knot {
	if len(words) > 0 && words[0] == "not" {
		return opKnot(opNot, notKnot(words[1:]))
	}
	return comparedKnot(words)
}

func comparedKnot(words []string) *knot {
	all := " " + strings.Join(words, " ")
	switch {
	case strings.HasSuffix(all, " is null"):
		return opKnot(opNull, sumKnot(words[:len(words)-2]))
	case strings.HasSuffix(all, " is not null"):
		return opKnot(opNot, opKnot(opNull, sumKnot(words[:len(words)-3])))
	}
	return partedKnot(words, sumKnot, sumKnot, opEq, opNe, opLt, opLe, opGt, opGe)
}

func firstKnot(words []string) *knot {
	n := len(words)
	if n >= 3 && words[0] == "(" && words[n-1] == ")" {
		return orKnot(words[1 : n-1])
	}
	if n != 1 {
		return nil
	}
	if v, ok := impl.ValueGet(words[0]); ok {
		return &knot{part: impl.Part{Op: opVal, Val: v}}
	}
	if wantColumn(words[0]) {
		return &knot{part: impl.Part{Op: opCol, Col: words[0]}}
	}
	return nil
}

func wantColumn(s string) bool {
	names := strings.Split(s, ".")
	for _, name := range names {
		if !wantName(name) {
			return false
		}
	}
	return len(names) <= 2
}

// parts is the knot and all below it, those that are taken first.
func (k *knot) parts() []impl.Part {
	var list []impl.Part
	for _, kid := range k.kids {
		list = append(list, kid.parts()...)
	}
	return append(list, k.part)
}

// wantExprGet reads an expression.
func wantExprGet(s string) ([]impl.Part, bool) {
	words, ok := wantSplit(s)
	if !ok {
		return nil, false
	}
	return wantExprWords(words)
}

// wantExprWords is the expression that words are.
func wantExprWords(words []string) ([]impl.Part, bool) {
	if deep := deepest(words); deep < 0 || deep > 20 {
		return nil, false
	}
	k := orKnot(words)
	if k == nil || len(k.parts()) > 16 {
		return nil, false
	}
	return k.parts(), true
}

// wantPartOk says whether a part is one, and has nothing that it is not to have.
func wantPartOk(p impl.Part) bool {
	switch {
	case p.Op == opVal:
		return impl.ValueOk(p.Val) && p.Col == ""
	case p.Op == opCol:
		return noValue(p.Val) && wantColumn(p.Col)
	}
	return p.Op >= opAdd && p.Op <= opNull && noValue(p.Val) && p.Col == ""
}

// lastKnot is the knot of the last part, and what is left ahead of all that it takes; none, if there is not enough.
func lastKnot(e []impl.Part) (*knot, []impl.Part) {
	if len(e) == 0 || !wantPartOk(e[len(e)-1]) {
		return nil, nil
	}
	k, rest := &knot{part: e[len(e)-1]}, e[:len(e)-1]
	n := 2
	switch k.part.Op {
	case opVal, opCol:
		n = 0
	case opNot, opNull:
		n = 1
	}
	for range n {
		var kid *knot
		if kid, rest = lastKnot(rest); kid == nil {
			return nil, nil
		}
		k.kids = append([]*knot{kid}, k.kids...)
	}
	return k, rest
}

// knotOf is an expression as a tree; none, if it is not ok.
func knotOf(e []impl.Part) *knot {
	if len(e) > 16 {
		return nil
	}
	k, rest := lastKnot(e)
	if len(rest) > 0 {
		return nil
	}
	return k
}

// text is how a knot is written, with all its parentheses.
func (k *knot) text() string {
	switch k.part.Op {
	case opVal:
		return wantPut(k.part.Val)
	case opCol:
		return k.part.Col
	case opNot:
		return fmt.Sprintf("(not %s)", k.kids[0].text())
	case opNull:
		return fmt.Sprintf("(%s is null)", k.kids[0].text())
	}
	return fmt.Sprintf("(%s %s %s)", k.kids[0].text(), opWords[k.part.Op], k.kids[1].text())
}

func wantExprPut(e []impl.Part) string {
	if k := knotOf(e); k != nil {
		return k.text()
	}
	return ""
}

// Of which kind is what a part makes: by the first's kind, and by the second's; a dot, where they do not agree.
var (
	sumKinds     = []string{"0.000.", "......", "0.2...", "0...3.", "0...4.", "......"}
	lessKinds    = []string{"0.000.", "......", "0.2...", "0..23.", "0...4.", "......"}
	productKinds = []string{"0.0...", "......", "0.2...", "......", "......", "......"}
	orderKinds   = []string{"111111", "11....", "1.1...", "1..1..", "1...1.", "1....1"}
	truthKinds   = []string{"11....", "11....", "......", "......", "......", "......"}
	notKinds     = []string{"1", "1", ".", ".", ".", "."}
	nullKinds    = []string{"1", "1", "1", "1", "1", "1"}
)

func kindsOf(op int) []string {
	switch {
	case op == opAdd:
		return sumKinds
	case op == opSub:
		return lessKinds
	case op == opMul || op == opDiv:
		return productKinds
	case op >= opEq && op <= opGe:
		return orderKinds
	case op == opAnd || op == opOr:
		return truthKinds
	case op == opNot:
		return notKinds
	}
	return nullKinds
}

// kind is the kind of a knot; -1, if kinds do not agree.
func (k *knot) kind(cols []impl.Col) int {
	switch k.part.Op {
	case opVal:
		return k.part.Val.Kind
	case opCol:
		return cols[colAt(cols, k.part.Col)].Type.Kind
	}
	kinds := []int{0, 0}
	for i, kid := range k.kids {
		if kinds[i] = kid.kind(cols); kinds[i] < 0 {
			return -1
		}
	}
	sign := kindsOf(k.part.Op)[kinds[0]][kinds[1]]
	if sign == '.' {
		return -1
	}
	return int(sign - '0')
}

func colAt(cols []impl.Col, name string) int {
	return slices.IndexFunc(cols, func(c impl.Col) bool { return c.Name == name })
}

// wantSeen says whether columns may be seen by an expression.
func wantSeen(cols []impl.Col) bool {
	names := map[string]bool{}
	for _, c := range cols {
		if !wantColumn(c.Name) || !impl.TypeOk(c.Type) {
			return false
		}
		names[c.Name] = true
	}
	return len(names) == len(cols) && len(cols) >= 1 && len(cols) <= 8
}

func wantExprKind(cols []impl.Col, e []impl.Part) (int, int) {
	k := knotOf(e)
	if k == nil || !wantSeen(cols) {
		return 0, 1
	}
	for _, p := range e {
		if p.Op == opCol && colAt(cols, p.Col) < 0 {
			return 0, 2
		}
	}
	if k.kind(cols) < 0 {
		return 0, 3
	}
	return k.kind(cols), 0
}

// wantDecs reckons with two decimals.
func wantDecs(op int, a, b impl.Dec) (impl.Value, int) {
	x, y, made := ratOf(a), ratOf(b), new(big.Rat)
	scale, mode := max(a.Scale, b.Scale), 1
	switch op {
	case opAdd:
		made.Add(x, y)
	case opSub:
		made.Sub(x, y)
	case opMul:
		made.Mul(x, y)
		scale, mode = min(a.Scale+b.Scale, 12), 7
	case opDiv:
		if y.Sign() == 0 {
			return impl.Value{}, 4
		}
		made.Quo(x, y)
		scale, mode = 6, 5
	}
	d, code := wantDec(wantRound(made, scale, mode), scale)
	if code != 0 {
		return impl.Value{}, 5
	}
	return numValue(d), 0
}

// wantDays reckons with a day or a span, and what stands behind it.
func wantDays(op int, a, b impl.Value) (impl.Value, int) {
	months, days := b.Span.Months, b.Span.Days
	if op == opSub {
		months, days = -months, -days
	}
	switch {
	case b.Kind == 3:
		return numValue(impl.Dec{Num: bigFrom(big.NewInt(int64(a.Day - b.Day)))}), 0
	case a.Kind == 3:
		n, ok := wantAdd(a.Day, impl.Span{Months: months, Days: days})
		if !ok {
			return impl.Value{}, 5
		}
		return dayValue(n), 0
	}
	months, days = a.Span.Months+months, a.Span.Days+days
	if max(months, -months) > 120000 || max(days, -days) > 4000000 {
		return impl.Value{}, 5
	}
	return spanValue(months, days), 0
}

// wantTruth is and, or and not by what is there: a truth that none can change, or none.
func wantTruth(op int, kids []impl.Value) impl.Value {
	wins, has := op == opOr, map[string]int{}
	for _, v := range kids {
		has[wantPut(v)]++
	}
	switch {
	case op == opNot && has["null"] > 0:
		return impl.Value{}
	case op == opNot:
		return boolValue(has["false"] > 0)
	case has[fmt.Sprint(wins)] > 0:
		return boolValue(wins)
	case has["null"] > 0:
		return impl.Value{}
	}
	return boolValue(!wins)
}

// wantMade is what a part makes of values.
func wantMade(op int, kids []impl.Value) (impl.Value, int) {
	switch {
	case op == opNull:
		return boolValue(kids[0].Kind == 0), 0
	case op >= opAnd:
		return wantTruth(op, kids), 0
	case kids[0].Kind == 0 || kids[1].Kind == 0:
		return impl.Value{}, 0
	case op >= opEq:
		order := wantOrder(kids[0], kids[1])
		return boolValue(slices.Contains(map[int][]int{opEq: {0}, opNe: {-1, 1}, opLt: {-1}, opLe: {-1, 0}, opGt: {1}, opGe: {0, 1}}[op], order)), 0
	case kids[0].Kind == 2:
		return wantDecs(op, kids[0].Num, kids[1].Num)
	}
	return wantDays(op, kids[0], kids[1])
}

// run is what a knot comes to, its kids one behind the other ahead of it.
func (k *knot) run(cols []impl.Col, row []impl.Value) (impl.Value, int) {
	switch k.part.Op {
	case opVal:
		return k.part.Val, 0
	case opCol:
		return row[colAt(cols, k.part.Col)], 0
	}
	var vals []impl.Value
	for _, kid := range k.kids {
		v, code := kid.run(cols, row)
		if code != 0 {
			return impl.Value{}, code
		}
		vals = append(vals, v)
	}
	return wantMade(k.part.Op, vals)
}

func wantExprRun(cols []impl.Col, row []impl.Value, e []impl.Part) (impl.Value, int) {
	_, code := wantExprKind(cols, e)
	if code == 1 || len(row) != len(cols) {
		return impl.Value{}, 1
	}
	for i, v := range row {
		if !impl.ValueFits(v, cols[i].Type) {
			return impl.Value{}, 1
		}
	}
	if code != 0 {
		return impl.Value{}, code
	}
	return knotOf(e).run(cols, row)
}

func samePart(a, b impl.Part) bool {
	return a.Op == b.Op && sameValue(a.Val, b.Val) && a.Col == b.Col
}

func sameExpr(a, b []impl.Part) bool {
	return slices.EqualFunc(a, b, samePart)
}

// mustExprGet holds what is read of a text against the second language, and is that.
func mustExprGet(t *testing.T, s string) ([]impl.Part, bool) {
	t.Helper()
	e, ok := impl.ExprGet(s)
	want, wantOk := wantExprGet(s)
	if ok != wantOk || !sameExpr(e, want) {
		t.Fatalf("ExprGet of %q: %v %v, want %v %v", s, e, ok, want, wantOk)
	}
	return e, ok
}

// exprOf is the expression of a text that is one.
func exprOf(s string) []impl.Part {
	e, ok := wantExprGet(s)
	if !ok {
		panic("no expression: " + s)
	}
	return e
}

// exprMaker makes expressions for columns.
type exprMaker struct {
	source *rand.Rand
	cols   []impl.Col
	// wrong is how seldom a part is of a kind that does not agree, or a column is not there; 0 is never.
	wrong int
	// plain leaves out all parts that can go wrong.
	plain bool
}

// kindValues is values of each kind, those at the edges too.
var kindValues = [][]string{
	{"null"},
	{"true", "false"},
	{"0", "0", "1", "2", "-1", "0.0", "1.5", "-1.50", "10.000", "99.9", "3", "0.000000000001", "999999999999999999.999999999999", "999999999999999999999999999999", "-123456789012345678.123456789012"},
	{"@0001-01-01", "@2024-02-29", "@2024-01-31", "@9999-12-31"},
	{"#0m0d", "#1m0d", "#-1m0d", "#0m1d", "#12m-31d", "#120000m4000000d", "#-120000m-4000000d"},
	{"''", "'a'", "'ab'", "'b'", "'~'", "'x'", "'it''s'"},
}

func (m exprMaker) pick(list ...int) int {
	return list[m.source.Intn(len(list))]
}

// leaf is a value or a column.
func (m exprMaker) leaf(kind int) []impl.Part {
	if m.wrong > 0 && m.source.Intn(m.wrong) == 0 {
		if m.source.Intn(3) == 0 {
			return []impl.Part{{Op: opCol, Col: []string{"q", "q.q", "t.q"}[m.source.Intn(3)]}}
		}
		kind = m.source.Intn(6)
	}
	var names []string
	for _, c := range m.cols {
		if c.Type.Kind == kind {
			names = append(names, c.Name)
		}
	}
	if len(names) > 0 && m.source.Intn(3) > 0 {
		return []impl.Part{{Op: opCol, Col: names[m.source.Intn(len(names))]}}
	}
	if m.source.Intn(8) == 0 {
		kind = 0
	}
	return []impl.Part{{Op: opVal, Val: valueOf(kindValues[kind][m.source.Intn(len(kindValues[kind]))])}}
}

// two is a part that takes two, of these kinds, in so many parts.
func (m exprMaker) two(op, a, b, size int) []impl.Part {
	left := 1 + m.source.Intn(size-2)
	return append(append(m.of(a, left), m.of(b, size-1-left)...), impl.Part{Op: op})
}

// of is an expression of a kind, of at most so many parts.
func (m exprMaker) of(kind, size int) []impl.Part {
	if size < 2 || m.source.Intn(6) == 0 {
		return m.leaf(kind)
	}
	if kind == 1 {
		return m.truth(size)
	}
	if size < 3 || m.plain {
		return m.leaf(kind)
	}
	switch kind {
	case 2:
		if m.source.Intn(6) == 0 {
			return m.two(opSub, 3, 3, size)
		}
		return m.two(m.pick(opAdd, opSub, opMul, opDiv), 2, 2, size)
	case 3, 4:
		return m.two(m.pick(opAdd, opSub), kind, 4, size)
	}
	return m.leaf(kind)
}

// truth is a truth of two parts at least.
func (m exprMaker) truth(size int) []impl.Part {
	n := m.source.Intn(10)
	switch {
	case n == 0:
		return append(m.of(1, size-1), impl.Part{Op: opNot})
	case n == 1 || size < 3:
		return append(m.of(m.pick(1, 2, 3, 4, 5), size-1), impl.Part{Op: opNull})
	case n < 6:
		kind := m.pick(1, 2, 2, 3, 4, 5)
		if len(m.cols) > 0 && m.source.Intn(2) == 0 {
			kind = m.cols[m.source.Intn(len(m.cols))].Type.Kind
		}
		return m.two(m.pick(opEq, opNe, opLt, opLe, opGt, opGe), kind, kind, size)
	}
	return m.two(m.pick(opAnd, opAnd, opOr), 1, 1, size)
}

// someCols is columns of each kind, one of them of two names; they are as many as there may be.
func someCols() []impl.Col {
	return []impl.Col{
		{Name: "b", Type: typeOf("bool")}, {Name: "n", Type: typeOf("num(5,2)")}, {Name: "d", Type: typeOf("day")}, {Name: "s", Type: typeOf("span"), Must: true},
		{Name: "t.t", Type: typeOf("text")}, {Name: "t.n", Type: typeOf("num(30,12)")}, {Name: "eightbyt.selects1", Type: typeOf("num(30,0)")}, {Name: "t", Type: typeOf("bool")},
	}
}

// someSeenRows is rows of someCols.
func someSeenRows() [][]impl.Value {
	return [][]impl.Value{
		rowOf("true", "2.50", "@2024-01-31", "#1m1d", "'x'", "1.000000000000", "7", "false"),
		rowOf("false", "0.00", "@0001-01-01", "#-1m0d", "''", "0.000000000001", "0", "true"),
		rowOf("null", "null", "null", "null", "null", "null", "null", "null"),
		rowOf("true", "-999.99", "@9999-12-31", "#120000m4000000d", "'it''s'", "-999999999999999999.999999999999", "999999999999999999999999999999", "null"),
	}
}

// badExprs is expressions that are not ok, each in one way.
func badExprs() [][]impl.Part {
	one, add, not := impl.Part{Op: opCol, Col: "a"}, impl.Part{Op: opAdd}, impl.Part{Op: opNot}
	list := [][]impl.Part{
		nil, {}, {add}, {not}, {one, add}, {add, one}, {one, one}, {one, add, one}, {one, one, one, add}, {not, one}, {one, not, one}, {one, one, add, add},
		{one, {Op: opNull}, {Op: opAnd}}, {{Op: opNull}, one}, slices.Repeat([]impl.Part{one}, 16),
		append([]impl.Part{one}, slices.Repeat([]impl.Part{not}, 16)...), append([]impl.Part{one}, slices.Repeat([]impl.Part{{Op: opNull}}, 16)...),
		append([]impl.Part{one}, slices.Repeat([]impl.Part{one, add}, 8)...), append(slices.Repeat([]impl.Part{one}, 9), slices.Repeat([]impl.Part{add}, 8)...),
		append([]impl.Part{one}, slices.Repeat([]impl.Part{not}, 2000)...),
	}
	for _, op := range append([]int{-1, 16, 17, -2, 256}, badInts...) {
		list = append(list, []impl.Part{{Op: op}}, []impl.Part{one, {Op: op}}, []impl.Part{one, one, {Op: op}}, []impl.Part{{Op: op, Col: "a"}})
	}
	for _, name := range append(badNames(), "a.", ".a", ".", "a..b", "a.b.c", "a.num", "and.a", "a.A", "A.a", "a b", "aaaaaaaaa.b", "b.aaaaaaaaa", "a.1", "1.a") {
		if !wantColumn(name) {
			list = append(list, []impl.Part{{Op: opCol, Col: name}}, []impl.Part{one, {Op: opCol, Col: name}, add})
		}
	}
	for _, v := range badValues() {
		list = append(list, []impl.Part{{Op: opVal, Val: v}}, []impl.Part{{Op: opVal, Val: v}, one, add})
	}
	for _, v := range append([]impl.Value{valueOf("true"), valueOf("false"), valueOf("0"), valueOf("1"), valueOf("@0001-01-01"), valueOf("#0m0d"), valueOf("''")}, overfull(impl.Value{})...) {
		list = append(list, []impl.Part{{Op: opCol, Col: "a", Val: v}}, []impl.Part{one, {Op: opNot, Val: v}}, []impl.Part{one, one, {Op: opAdd, Val: v}})
	}
	for op := opVal; op <= opNull; op++ {
		if op != opCol {
			list = append(list, []impl.Part{one, one, {Op: op, Col: "a"}}, []impl.Part{one, {Op: op, Col: "a"}}, []impl.Part{{Op: op, Col: "a"}})
		}
	}
	return list
}

// badSeen is columns that no expression may see.
func badSeen() [][]impl.Col {
	col := func(name string) impl.Col { return impl.Col{Name: name, Type: impl.Type{Kind: impl.KindText}} }
	list := [][]impl.Col{nil, {}, {{}}, {col("a"), col("a")}, {col("a.b"), col("a"), col("a.b")}, append(someCols(), col("ninth")), make([]impl.Col, 1000)}
	for _, name := range append(badNames(), "a.b.c", "a.", ".a", "a.num", "aaaaaaaaa.b") {
		if !wantColumn(name) {
			list = append(list, []impl.Col{col("a"), col(name)})
		}
	}
	for _, kind := range badTypes() {
		list = append(list, []impl.Col{col("b"), {Name: "a", Type: kind}})
	}
	return list
}
