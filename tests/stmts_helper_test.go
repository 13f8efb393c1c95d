package tests

import (
	"fmt"
	"math/rand"
	"regexp"
	"slices"
	"strings"
	"testing"

	"loop.example/jetton/impl"
)

// The second statements: words are cut, from the end, at the words that begin a clause, and at commas.

// Kinds of statements, as the document has them.
const (
	stTable = 1 + iota
	stGone
	stIndex
	stLess
	stInsert
	stDelete
	stUpdate
	stSelect
	stBegin
	stCommit
	stBack
)

// aggWords is how what is reckoned of groups is written.
var aggWords = []string{"", "count", "sum", "avg", "least", "most"}

func sameSet(a, b impl.Set) bool {
	return a.Col == b.Col && sameExpr(a.Expr, b.Expr)
}

func sameQuery(a, b impl.Query) bool {
	lists := slices.Equal(a.Items, b.Items) && sameExpr(a.Where, b.Where) && slices.Equal(a.Sorts, b.Sorts)
	return lists && a.From == b.From && a.Join == b.Join && a.Group == b.Group && a.Limit == b.Limit
}

func sameStmt(a, b impl.Stmt) bool {
	lists := slices.Equal(a.Cols, b.Cols) && slices.Equal(a.Keys, b.Keys) && sameRow(a.Vals, b.Vals) && slices.EqualFunc(a.Sets, b.Sets, sameSet)
	return lists && a.Kind == b.Kind && a.Name == b.Name && a.On == b.On && a.Only == b.Only && sameQuery(a.Query, b.Query)
}

// toldStmt is a statement with nothing but the parts that the document tells of its kind.
func toldStmt(st impl.Stmt) impl.Stmt {
	where := impl.Query{Where: st.Query.Where}
	switch st.Kind {
	case stTable:
		return impl.Stmt{Kind: st.Kind, Name: st.Name, Cols: st.Cols}
	case stGone:
		return impl.Stmt{Kind: st.Kind, Name: st.Name}
	case stIndex:
		return impl.Stmt{Kind: st.Kind, Name: st.Name, On: st.On, Keys: st.Keys, Only: st.Only}
	case stLess:
		return impl.Stmt{Kind: st.Kind, Name: st.Name, On: st.On}
	case stInsert:
		return impl.Stmt{Kind: st.Kind, Name: st.Name, Vals: st.Vals}
	case stDelete:
		return impl.Stmt{Kind: st.Kind, Name: st.Name, Query: where}
	case stUpdate:
		return impl.Stmt{Kind: st.Kind, Name: st.Name, Sets: st.Sets, Query: where}
	case stSelect:
		return impl.Stmt{Kind: st.Kind, Query: st.Query}
	}
	return impl.Stmt{Kind: st.Kind}
}

// areNames says whether there are some names, at most so many, each once.
func areNames(names []string, most int) bool {
	seen := map[string]bool{}
	for _, name := range names {
		seen[name] = true
		if !wantName(name) {
			return false
		}
	}
	return len(names) > 0 && len(names) <= most && len(seen) == len(names)
}

func wantQueryOk(q impl.Query) bool {
	cols := namesOf(impl.Query{Items: q.Items, Sorts: q.Sorts, Group: q.Group})
	for _, col := range cols {
		if !wantColumn(col) {
			return false
		}
	}
	j := q.Join
	joined := j.Table == "" || wantName(j.Table) && wantName(j.Mine) && wantName(j.Its)
	return wantFormed(q) && wantName(q.From) && joined
}

// wantStmtOk says whether a statement is ok.
func wantStmtOk(st impl.Stmt) bool {
	if st.Kind < stTable || st.Kind > stBack || !sameStmt(st, toldStmt(st)) {
		return false
	}
	if st.Kind < stSelect && !wantName(st.Name) || (st.Kind == stIndex || st.Kind == stLess) && !wantName(st.On) {
		return false
	}
	ok := true
	switch st.Kind {
	case stTable:
		ok = wantColsOk(st.Cols)
	case stIndex:
		var names []string
		for _, k := range st.Keys {
			names = append(names, k.Col)
		}
		ok = areNames(names, 2)
	case stInsert:
		ok = len(st.Vals) >= 1 && len(st.Vals) <= 4
		for _, v := range st.Vals {
			ok = ok && impl.ValueOk(v)
		}
	case stUpdate:
		var names []string
		for _, s := range st.Sets {
			names = append(names, s.Col)
			ok = ok && knotOf(s.Expr) != nil
		}
		ok = ok && areNames(names, 2)
	case stSelect:
		ok = wantQueryOk(st.Query)
	}
	ok = ok && (len(st.Query.Where) == 0 || knotOf(st.Query.Where) != nil)
	return ok && len(wantStmtText(st)) <= 400
}

// told is each of a list as it is written, with commas between.
func told[A any](list []A, put func(A) string) string {
	var texts []string
	for _, each := range list {
		texts = append(texts, put(each))
	}
	return strings.Join(texts, ", ")
}

// ifSo is a text where it is so.
func ifSo(is bool, text string) string {
	return map[bool]string{true: text}[is]
}

func toldSort(s impl.Sort) string {
	return s.Col + ifSo(s.Down, " down")
}

func toldItem(i impl.Item) string {
	switch i.Agg {
	case 0:
		return i.Col
	case 1:
		return "count"
	}
	return fmt.Sprintf("%s(%s)", aggWords[i.Agg], i.Col)
}

// wantQueryText is how a query that is in form is written.
func wantQueryText(q impl.Query) string {
	text := fmt.Sprintf("select %s from %s", told(q.Items, toldItem), q.From)
	if len(q.Items) == 0 {
		text = "select * from " + q.From
	}
	if j := q.Join; j.Table != "" {
		text += fmt.Sprintf("%s join %s on %s = %s.%s", ifSo(j.Outer, " outer"), j.Table, j.Mine, j.Table, j.Its)
	}
	text += ifSo(len(q.Where) > 0, " where "+wantExprPut(q.Where))
	text += ifSo(q.Group != "", " group by "+q.Group)
	text += ifSo(len(q.Sorts) > 0, " order by "+told(q.Sorts, toldSort))
	return text + ifSo(q.Limit != -1, fmt.Sprint(" limit ", q.Limit))
}

// wantStmtText is how a statement is written that is ok, but perhaps too long.
func wantStmtText(st impl.Stmt) string {
	where := ifSo(len(st.Query.Where) > 0, " where "+wantExprPut(st.Query.Where))
	switch st.Kind {
	case stTable:
		return fmt.Sprintf("table %s (%s)", st.Name, told(st.Cols, func(c impl.Col) string { return c.Name + " " + wantType(c.Type) + ifSo(c.Must, " must") }))
	case stGone:
		return "drop table " + st.Name
	case stIndex:
		return fmt.Sprintf("index %s on %s (%s)%s", st.Name, st.On, told(st.Keys, toldSort), ifSo(st.Only, " only"))
	case stLess:
		return fmt.Sprintf("drop index %s on %s", st.Name, st.On)
	case stInsert:
		return fmt.Sprintf("insert %s (%s)", st.Name, told(st.Vals, wantPut))
	case stDelete:
		return "delete " + st.Name + where
	case stUpdate:
		return fmt.Sprintf("update %s set %s%s", st.Name, told(st.Sets, func(s impl.Set) string { return s.Col + " = " + wantExprPut(s.Expr) }), where)
	case stSelect:
		return wantQueryText(st.Query)
	}
	return []string{"begin", "commit", "rollback"}[st.Kind-stBegin]
}

func wantStmtPut(st impl.Stmt) string {
	if !wantStmtOk(st) {
		return ""
	}
	return wantStmtText(st)
}

// cutLast is the words ahead of the last that is a word, those behind it, and whether there is one.
func cutLast(words []string, word string) ([]string, []string, bool) {
	for at := len(words) - 1; at >= 0; at-- {
		if words[at] == word {
			return words[:at], words[at+1:], true
		}
	}
	return words, nil, false
}

// atCommas is words cut at all commas that stand outside of parentheses.
func atCommas(words []string) [][]string {
	list, open := [][]string{nil}, 0
	for _, w := range words {
		switch w {
		case "(":
			open++
		case ")":
			open--
		}
		if w == "," && open == 0 {
			list = append(list, nil)
			continue
		}
		list[len(list)-1] = append(list[len(list)-1], w)
	}
	return list
}

// inParentheses is the words between the first and the last, if these are parentheses.
func inParentheses(words []string) ([]string, bool) {
	n := len(words)
	if n < 2 || words[0] != "(" || words[n-1] != ")" {
		return nil, false
	}
	return words[1 : n-1], true
}

// isShort says whether words are some, and at most so many.
func isShort(words []string, most int) bool {
	return len(words) >= 1 && len(words) <= most
}

// readSorts is columns with down behind them, or not.
func readSorts(words []string) ([]impl.Sort, bool) {
	var list []impl.Sort
	for _, each := range atCommas(words) {
		if !isShort(each, 2) || len(each) == 2 && each[1] != "down" {
			return nil, false
		}
		list = append(list, impl.Sort{Col: each[0], Down: len(each) == 2})
	}
	return list, true
}

// readWhere cuts off what is asked of each row.
func readWhere(words []string) ([]string, []impl.Part, bool) {
	words, where, is := cutLast(words, "where")
	if !is {
		return words, nil, true
	}
	e, ok := wantExprWords(where)
	return words, e, ok
}

var (
	countForm = regexp.MustCompile(`^(0|[1-9][0-9]{0,3})$`)
	aggForm   = regexp.MustCompile(`^(sum|avg|least|most) \( ([a-z0-9.]+) \)$`)
	joinForm  = regexp.MustCompile(`^([a-z0-9]+)( outer)? join ([a-z0-9]+) on ([a-z0-9]+) = ([a-z0-9]+)\.([a-z0-9]+)$`)
	colForm   = regexp.MustCompile(`^([a-z0-9]+) (bool|day|span|text|num \( [0-9]+ , [0-9]+ \))( must)?$`)
	fixedForm = regexp.MustCompile(`^(begin|commit|rollback|drop (table) ([a-z0-9]+)|drop (index) ([a-z0-9]+) on ([a-z0-9]+))$`)
)

func readItems(words []string) ([]impl.Item, bool) {
	if slices.Equal(words, []string{"*"}) {
		return nil, true
	}
	var list []impl.Item
	for _, each := range atCommas(words) {
		text := strings.Join(each, " ")
		if found := aggForm.FindStringSubmatch(text); found != nil {
			list = append(list, impl.Item{Agg: slices.Index(aggWords, found[1]), Col: found[2]})
		} else if text == "count" {
			list = append(list, impl.Item{Agg: 1})
		} else {
			list = append(list, impl.Item{Col: text})
		}
	}
	return list, true
}

// readQuery reads a query behind its first word, from the end.
func readQuery(words []string) (impl.Query, bool) {
	q := impl.Query{Limit: -1}
	words, limit, is := cutLast(words, "limit")
	if is {
		if len(limit) != 1 || !countForm.MatchString(limit[0]) {
			return q, false
		}
		q.Limit = atoi(limit[0])
	}
	words, order, is := cutLast(words, "order")
	if is {
		sorts, ok := []impl.Sort(nil), len(order) > 1 && order[0] == "by"
		if ok {
			sorts, ok = readSorts(order[1:])
		}
		if !ok {
			return q, false
		}
		q.Sorts = sorts
	}
	words, group, is := cutLast(words, "group")
	if is {
		if len(group) != 2 || group[0] != "by" || group[1] == "" {
			return q, false
		}
		q.Group = group[1]
	}
	words, where, ok := readWhere(words)
	if !ok {
		return q, false
	}
	q.Where = where
	items, from, is := cutLast(words, "from")
	if !is {
		return q, false
	}
	q.From = strings.Join(from, " ")
	if found := joinForm.FindStringSubmatch(q.From); found != nil {
		if found[3] != found[5] {
			return q, false
		}
		q.From, q.Join = found[1], impl.Join{Table: found[3], Mine: found[4], Its: found[6], Outer: found[2] != ""}
	}
	q.Items, ok = readItems(items)
	return q, ok
}

func readTable(words []string) (impl.Stmt, bool) {
	inside, ok := inParentheses(words[2:])
	st := impl.Stmt{Kind: stTable, Name: words[1]}
	for _, each := range atCommas(inside) {
		found := colForm.FindStringSubmatch(strings.Join(each, " "))
		if found == nil {
			return st, false
		}
		kind, is := impl.TypeGet(strings.ReplaceAll(found[2], " ", ""))
		ok = ok && is
		st.Cols = append(st.Cols, impl.Col{Name: found[1], Type: kind, Must: found[3] != ""})
	}
	return st, ok
}

func readIndex(words []string) (impl.Stmt, bool) {
	st := impl.Stmt{Kind: stIndex, Name: words[1]}
	if words[len(words)-1] == "only" {
		st.Only, words = true, words[:len(words)-1]
	}
	if len(words) < 5 || words[2] != "on" {
		return st, false
	}
	inside, ok := inParentheses(words[4:])
	st.On = words[3]
	keys, is := readSorts(inside)
	st.Keys = keys
	return st, ok && is
}

func readInsert(words []string) (impl.Stmt, bool) {
	inside, ok := inParentheses(words[2:])
	st := impl.Stmt{Kind: stInsert, Name: words[1]}
	for _, each := range atCommas(inside) {
		if len(each) != 1 {
			return st, false
		}
		v, is := impl.ValueGet(each[0])
		ok = ok && is
		st.Vals = append(st.Vals, v)
	}
	return st, ok
}

func readUpdate(words []string) (impl.Stmt, bool) {
	words, where, ok := readWhere(words)
	if !ok || len(words) < 3 || words[2] != "set" {
		return impl.Stmt{}, false
	}
	st := impl.Stmt{Kind: stUpdate, Name: words[1], Query: impl.Query{Where: where}}
	for _, each := range atCommas(words[3:]) {
		if len(each) < 3 || each[1] != "=" {
			return st, false
		}
		e, is := wantExprWords(each[2:])
		ok = ok && is
		st.Sets = append(st.Sets, impl.Set{Col: each[0], Expr: e})
	}
	return st, ok
}

// readStmt reads a statement, as far as there is one.
func readStmt(words []string) (impl.Stmt, bool) {
	if found := fixedForm.FindStringSubmatch(strings.Join(words, " ")); found != nil {
		switch {
		case found[2] != "":
			return impl.Stmt{Kind: stGone, Name: found[3]}, true
		case found[4] != "":
			return impl.Stmt{Kind: stLess, Name: found[5], On: found[6]}, true
		}
		return impl.Stmt{Kind: stBegin + slices.Index([]string{"begin", "commit", "rollback"}, found[1])}, true
	}
	if len(words) < 2 {
		return impl.Stmt{}, false
	}
	switch words[0] {
	case "table":
		return readTable(words)
	case "index":
		return readIndex(words)
	case "insert":
		return readInsert(words)
	case "delete":
		words, where, ok := readWhere(words)
		return impl.Stmt{Kind: stDelete, Name: strings.Join(words[1:], " "), Query: impl.Query{Where: where}}, ok
	case "update":
		return readUpdate(words)
	case "select":
		q, ok := readQuery(words[1:])
		return impl.Stmt{Kind: stSelect, Query: q}, ok
	}
	return impl.Stmt{}, false
}

// wantStmtGet reads a statement.
func wantStmtGet(s string) (impl.Stmt, bool) {
	words, ok := wantSplit(s)
	if !ok {
		return impl.Stmt{}, false
	}
	st, ok := readStmt(words)
	if !ok || !wantStmtOk(st) {
		return impl.Stmt{}, false
	}
	return st, true
}

// mustStmtGet holds what is read of a text against the second statements, and to P114; it is that.
func mustStmtGet(t *testing.T, s string) (impl.Stmt, bool) {
	t.Helper()
	st, ok := impl.StmtGet(s)
	want, wantOk := wantStmtGet(s)
	if ok != wantOk || !sameStmt(st, want) {
		t.Fatalf("StmtGet of %q: %v %+v, want %v %+v", s, ok, st, wantOk, want)
	}
	if ok {
		mustStmt(t, st)
	}
	return st, ok
}

// mustStmt holds all that is said of a statement against the second statements, and to P115.
func mustStmt(t *testing.T, st impl.Stmt) string {
	t.Helper()
	text, ok := impl.StmtPut(st), impl.StmtOk(st)
	if wantOk, want := wantStmtOk(st), wantStmtPut(st); ok != wantOk || text != want {
		t.Fatalf("statement %+v: %v %q, want %v %q", st, ok, text, wantOk, want)
	}
	if !ok {
		return text
	}
	again, is := impl.StmtGet(text)
	if !is || !sameStmt(again, st) || len(text) > 400 {
		t.Fatalf("StmtGet of StmtPut %q: %v %+v, want %+v", text, is, again, st)
	}
	return text
}

// stmtOf is the statement of a text that is one.
func stmtOf(s string) impl.Stmt {
	st, ok := wantStmtGet(s)
	if !ok {
		panic("no statement: " + s)
	}
	return st
}

// stmtMaker makes statements to a base.
type stmtMaker struct {
	source *rand.Rand
	base   impl.Base
	// wrong is how seldom something of a statement is wrong; 0 is never.
	wrong int
}

func (m stmtMaker) isWrong() bool {
	return m.wrong > 0 && m.source.Intn(m.wrong) == 0
}

// pick is one of some texts; seldom it is one that is not there.
func (m stmtMaker) pick(list ...string) string {
	if len(list) == 0 || m.isWrong() {
		return "q"
	}
	return list[m.source.Intn(len(list))]
}

// table is a table of the base; nothing, if there is none.
func (m stmtMaker) table() impl.Table {
	if len(m.base.Tables) == 0 {
		return impl.Table{Name: "q"}
	}
	return m.base.Tables[m.source.Intn(len(m.base.Tables))]
}

// value is a value that comes into a column; seldom it is none, too much, or of another kind.
func (m stmtMaker) value(c impl.Col) impl.Value {
	switch {
	case m.isWrong():
		kind := kindValues[m.source.Intn(6)]
		return valueOf(kind[m.source.Intn(len(kind))])
	case m.source.Intn(8) == 0 && !c.Must:
		return impl.Value{}
	case c.Type.Kind == 2 && m.source.Intn(4) > 0:
		return valueOf([]string{"1", "2", "0.5", "1.05", "-1.25", "7", "3.14159", "10", "99.94"}[m.source.Intn(9)])
	}
	kind := kindValues[c.Type.Kind]
	return valueOf(kind[m.source.Intn(len(kind))])
}

// expr is an expression for a column.
func (m stmtMaker) expr(cols []impl.Col, c impl.Col, size int) []impl.Part {
	if c.Type.Kind == 2 && m.source.Intn(2) == 0 {
		return exprOf(c.Name + []string{" + 1", " * 2", " / 3", " - 0.5", " + 0.05", " / 0"}[m.source.Intn(6)])
	}
	return exprMaker{source: m.source, cols: cols, wrong: 3 * m.wrong, plain: m.source.Intn(3) == 0}.of(c.Type.Kind, 1+m.source.Intn(size))
}

func (m stmtMaker) where(t impl.Table) []impl.Part {
	if len(t.Cols) == 0 || m.source.Intn(4) == 0 {
		return nil
	}
	return queryMaker{source: m.source, base: m.base, wrong: 3 * m.wrong}.where(t, t.Cols)
}

func (m stmtMaker) insert(t impl.Table) impl.Stmt {
	st := impl.Stmt{Kind: stInsert, Name: m.pick(t.Name), Vals: []impl.Value{{}}}
	for i, c := range t.Cols {
		st.Vals = append(st.Vals[:i], m.value(c))
	}
	if len(st.Vals) > 1 && m.isWrong() {
		st.Vals = st.Vals[1:]
	}
	return st
}

func (m stmtMaker) update(t impl.Table) impl.Stmt {
	st := impl.Stmt{Kind: stUpdate, Name: m.pick(t.Name), Query: impl.Query{Where: m.where(t)}}
	if len(t.Cols) == 0 {
		st.Sets = []impl.Set{{Col: "a", Expr: exprOf("1")}}
		return st
	}
	for _, at := range m.source.Perm(len(t.Cols))[:min(len(t.Cols), 1+m.source.Intn(2))] {
		st.Sets = append(st.Sets, impl.Set{Col: t.Cols[at].Name, Expr: m.expr(t.Cols, t.Cols[at], 6)})
	}
	if m.isWrong() {
		st.Sets[0].Col = "q"
	}
	return st
}

func (m stmtMaker) index(t impl.Table) impl.Stmt {
	st := impl.Stmt{Kind: stIndex, Name: []string{"i", "j", "longname"}[m.source.Intn(3)], On: m.pick(t.Name), Only: m.source.Intn(3) == 0}
	if len(t.Cols) == 0 {
		st.Keys = []impl.Sort{{Col: "a"}}
		return st
	}
	for _, at := range m.source.Perm(len(t.Cols))[:min(len(t.Cols), 1+m.source.Intn(2))] {
		st.Keys = append(st.Keys, impl.Sort{Col: t.Cols[at].Name, Down: m.source.Intn(2) == 0})
	}
	if m.isWrong() {
		st.Keys[0].Col = "q"
	}
	return st
}

// stmt is any statement but those of many in one, more often one that puts rows in.
func (m stmtMaker) stmt() impl.Stmt {
	t := m.table()
	switch n := m.source.Intn(40); {
	case n < 3 || len(m.base.Tables) == 0 && n < 20:
		return impl.Stmt{Kind: stTable, Name: tableNames[m.source.Intn(4)], Cols: madeCols(m.source)}
	case n < 4:
		return impl.Stmt{Kind: stGone, Name: m.pick(t.Name)}
	case n < 7:
		return m.index(t)
	case n < 8:
		var names []string
		for _, x := range t.Indexes {
			names = append(names, x.Name)
		}
		return impl.Stmt{Kind: stLess, Name: m.pick(names...), On: m.pick(t.Name)}
	case n < 12:
		return impl.Stmt{Kind: stDelete, Name: m.pick(t.Name), Query: impl.Query{Where: m.where(t)}}
	case n < 20:
		return m.update(t)
	case n < 26 && len(m.base.Tables) > 0:
		return impl.Stmt{Kind: stSelect, Query: queryMaker{source: m.source, base: m.base, wrong: 2 * m.wrong, joins: true, groups: true, sorts: true}.query()}
	}
	return m.insert(t)
}

// text is a statement as it is written, seldom one that is none.
func (m stmtMaker) text() string {
	for {
		if text := wantStmtPut(m.stmt()); text != "" || m.isWrong() {
			return text
		}
	}
}

// spoilt is a text with some of its bytes or words changed.
func spoilt(source *rand.Rand, s string) string {
	words := []string{"and", "as", "begin", "by", "count", "down", "drop", "from", "group", "index", "join", "limit", "must", "num", "on", "only", "order", "outer", "select", "set", "sum", "table", "where", "(", ")", ",", "=", "*", "-", "-1", "0", "9999", "10000", "a", "t", "t.a", "'x'", "@2024-01-31", "null", "  ", "'", ".", "\t", "\n"}
	for range 1 + source.Intn(2) {
		parts := strings.SplitAfter(s, " ")
		at := source.Intn(len(parts))
		switch source.Intn(8) {
		case 0:
			parts = slices.Delete(parts, at, at+1)
		case 1:
			parts = slices.Insert(parts, at, parts[at])
		case 2:
			parts[at] = words[source.Intn(len(words))] + " "
		case 3:
			parts = slices.Insert(parts, at, words[source.Intn(len(words))]+" ")
		case 4:
			parts[at] = strings.TrimSuffix(parts[at], " ")
		case 5:
			parts[at] += "  "
		case 6:
			place := source.Intn(len(s) + 1)
			s = s[:place] + words[source.Intn(len(words))] + s[place:]
			continue
		case 7:
			if len(s) > 0 {
				place := source.Intn(len(s))
				s = s[:place] + s[place+1:]
			}
			continue
		}
		s = strings.Join(parts, "")
	}
	return s
}
