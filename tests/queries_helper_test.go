package tests

import (
	"fmt"
	"math/rand"
	"slices"
	"strings"
	"testing"

	"loop.example/jetton/impl"
)

// The second answers: rows in lists, held against each other one by one; groups are those of rows in order.

// seenOf is the columns that a query sees; its tables must be there.
func seenOf(b impl.Base, q impl.Query) []impl.Col {
	cols := slices.Clone(b.Tables[tableAt(b, q.From)].Cols)
	if q.Join.Table != "" {
		for _, c := range b.Tables[tableAt(b, q.Join.Table)].Cols {
			cols = append(cols, impl.Col{Name: q.Join.Table + "." + c.Name, Type: c.Type, Must: c.Must})
		}
	}
	return cols
}

func wantGrouped(q impl.Query) bool {
	grouped := q.Group != ""
	for _, i := range q.Items {
		grouped = grouped || i.Agg != 0
	}
	return grouped
}

// wantFormed says whether a query is in form, the base apart.
func wantFormed(q impl.Query) bool {
	for _, i := range q.Items {
		if i.Agg < 0 || i.Agg > 5 || i.Agg == 1 && i.Col != "" || i.Agg != 1 && i.Col == "" {
			return false
		}
	}
	noJoin := q.Join.Table == "" && (q.Join.Mine != "" || q.Join.Its != "" || q.Join.Outer)
	if noJoin || len(q.Items) > 4 || len(q.Sorts) > 2 || q.Limit < -1 || q.Limit > 9999 {
		return false
	}
	return len(q.Where) == 0 || knotOf(q.Where) != nil
}

// namesOf is all columns that a query names, but those of its join.
func namesOf(q impl.Query) []string {
	var names []string
	for _, i := range q.Items {
		if i.Agg != 1 {
			names = append(names, i.Col)
		}
	}
	for _, s := range q.Sorts {
		names = append(names, s.Col)
	}
	if q.Group != "" {
		names = append(names, q.Group)
	}
	for _, p := range q.Where {
		if p.Op == opCol {
			names = append(names, p.Col)
		}
	}
	return names
}

func wantQueryCode(b impl.Base, q impl.Query) int {
	if !wantBaseOk(b) || !wantFormed(q) {
		return 1
	}
	from, table := tableAt(b, q.From), tableAt(b, q.Join.Table)
	if from < 0 || q.Join.Table != "" && table < 0 {
		return 2
	}
	if q.Join.Table != "" {
		mine, its := colAt(b.Tables[from].Cols, q.Join.Mine), colAt(b.Tables[table].Cols, q.Join.Its)
		if mine < 0 || its < 0 {
			return 3
		}
		if b.Tables[from].Cols[mine].Type.Kind != b.Tables[table].Cols[its].Type.Kind {
			return 4
		}
	}
	cols := seenOf(b, q)
	for _, name := range namesOf(q) {
		if colAt(cols, name) < 0 {
			return 3
		}
	}
	for _, i := range q.Items {
		if (i.Agg == 2 || i.Agg == 3) && cols[colAt(cols, i.Col)].Type.Kind != 2 {
			return 4
		}
	}
	if len(q.Where) > 0 && !slices.Contains([]int{0, 1}, knotOf(q.Where).kind(cols)) {
		return 4
	}
	if !wantGrouped(q) {
		return 0
	}
	bad := len(q.Items) == 0 || len(q.Sorts) > 0
	for _, i := range q.Items {
		bad = bad || i.Agg == 0 && i.Col != q.Group
	}
	if bad {
		return 5
	}
	return 0
}

// wantMet is all rows of which it is asked: those of From, or each with those that it meets.
func wantMet(b impl.Base, q impl.Query) []impl.Row {
	rows := wantBaseRows(b, q.From)
	if q.Join.Table == "" {
		return rows
	}
	table := b.Tables[tableAt(b, q.Join.Table)]
	mine, its := colAt(b.Tables[tableAt(b, q.From)].Cols, q.Join.Mine), colAt(table.Cols, q.Join.Its)
	others := wantBaseRows(b, q.Join.Table)
	var list []impl.Row
	for _, r := range rows {
		met := false
		for _, s := range others {
			if r.Vals[mine].Kind != 0 && s.Vals[its].Kind != 0 && wantOrder(r.Vals[mine], s.Vals[its]) == 0 {
				list = append(list, impl.Row{Num: r.Num, Vals: append(slices.Clone(r.Vals), s.Vals...)})
				met = true
			}
		}
		if !met && q.Join.Outer {
			list = append(list, impl.Row{Num: r.Num, Vals: append(slices.Clone(r.Vals), make([]impl.Value, len(table.Cols))...)})
		}
	}
	return list
}

// wantTrue is those rows of which Where is true; or the code of the first of which it goes wrong.
func wantTrue(cols []impl.Col, rows []impl.Row, where []impl.Part) ([]impl.Row, int) {
	if len(where) == 0 {
		return rows, 0
	}
	var list []impl.Row
	k := knotOf(where)
	for _, r := range rows {
		v, code := k.run(cols, r.Vals)
		if code != 0 {
			return nil, code + 2
		}
		if v.Kind == 1 && v.Yes {
			list = append(list, r)
		}
	}
	return list, 0
}

// wantReckoned is what an item is of rows; false, if it is too much.
func wantReckoned(agg int, rows []impl.Row, col int) (impl.Value, bool) {
	if agg == 1 {
		return valueOf(fmt.Sprint(len(rows))), true
	}
	if agg == 0 {
		return rows[0].Vals[col], true
	}
	var vals []impl.Value
	for _, r := range rows {
		if r.Vals[col].Kind != 0 {
			vals = append(vals, r.Vals[col])
		}
	}
	if len(vals) == 0 {
		return impl.Value{}, true
	}
	made, code := vals[0], 0
	for _, v := range vals[1:] {
		switch order := wantOrder(v, made); {
		case agg == 4 && order < 0, agg == 5 && order > 0:
			made = v
		case agg <= 3 && code == 0:
			made, code = wantDecs(opAdd, made.Num, v.Num)
		}
	}
	if agg == 3 && code == 0 {
		made, code = wantDecs(opDiv, made.Num, valueOf(fmt.Sprint(len(vals))).Num)
	}
	return made, code == 0
}

// wantGroups is rows one group behind the other.
func wantGroups(cols []impl.Col, rows []impl.Row, group string) [][]impl.Row {
	if group == "" {
		return [][]impl.Row{rows}
	}
	at := colAt(cols, group)
	sorted := wantSorted(rows, []int{at}, []bool{false})
	var list [][]impl.Row
	for i, r := range sorted {
		if i == 0 || wantOrder(sorted[i-1].Vals[at], r.Vals[at]) != 0 {
			list = append(list, nil)
		}
		list[len(list)-1] = append(list[len(list)-1], r)
	}
	return list
}

// wantSorted has each row behind all that are not above it.
func wantSorted(rows []impl.Row, cols []int, downs []bool) []impl.Row {
	var list []impl.Row
	for _, r := range rows {
		at := len(list)
		for at > 0 && isAhead(r, list[at-1], cols, downs) {
			at--
		}
		list = slices.Insert(list, at, r)
	}
	return list
}

func isAhead(a, b impl.Row, cols []int, downs []bool) bool {
	for i, col := range cols {
		if order := wantOrder(a.Vals[col], b.Vals[col]); order != 0 {
			return (order < 0) != downs[i]
		}
	}
	return false
}

func wantQuery(b impl.Base, q impl.Query) ([]impl.Row, int) {
	if code := wantQueryCode(b, q); code != 0 {
		return nil, code
	}
	cols := seenOf(b, q)
	rows, code := wantTrue(cols, wantMet(b, q), q.Where)
	if code != 0 {
		return nil, code
	}
	var list []impl.Row
	if wantGrouped(q) {
		for i, group := range wantGroups(cols, rows, q.Group) {
			r := impl.Row{Num: i + 1}
			for _, item := range q.Items {
				v, ok := wantReckoned(item.Agg, group, colAt(cols, item.Col))
				if !ok {
					return nil, 7
				}
				r.Vals = append(r.Vals, v)
			}
			list = append(list, r)
		}
	} else {
		var places []int
		var downs []bool
		for _, s := range q.Sorts {
			places, downs = append(places, colAt(cols, s.Col)), append(downs, s.Down)
		}
		for _, r := range wantSorted(rows, places, downs) {
			x := impl.Row{Num: r.Num}
			for _, i := range q.Items {
				x.Vals = append(x.Vals, r.Vals[colAt(cols, i.Col)])
			}
			if len(q.Items) == 0 {
				x.Vals = r.Vals
			}
			list = append(list, x)
		}
	}
	if q.Limit >= 0 && q.Limit < len(list) {
		list = list[:q.Limit]
	}
	return list, 0
}

// andsOf is those knots that are put together with and, from the first on.
func andsOf(k *knot) []*knot {
	if k.part.Op != opAnd {
		return []*knot{k}
	}
	return append(andsOf(k.kids[0]), andsOf(k.kids[1])...)
}

// wantAbove is the text that is just above all that begin so.
func wantAbove(s string) string {
	for strings.HasSuffix(s, "\xff") {
		s = s[:len(s)-1]
	}
	if s == "" {
		return ""
	}
	return s[:len(s)-1] + string([]byte{s[len(s)-1] + 1})
}

// wantRange is from where to where an index has those that are in an order to a value.
func wantRange(op int, v impl.Value, down bool) (string, string) {
	p, n := wantKey(v, down), wantKey(impl.Value{}, down)
	a := wantAbove(p)
	if down {
		return map[int]string{opEq: p, opLt: a, opLe: p}[op], map[int]string{opEq: a, opLt: n, opLe: n, opGt: p, opGe: a}[op]
	}
	return map[int]string{opEq: p, opLt: wantAbove(n), opLe: wantAbove(n), opGt: a, opGe: p}[op], map[int]string{opEq: a, opLt: p, opLe: a}[op]
}

func wantPlan(b impl.Base, q impl.Query) impl.Plan {
	if wantQueryCode(b, q) != 0 || q.Join.Table != "" {
		return impl.Plan{}
	}
	for _, p := range q.Where {
		if p.Op >= opAdd && p.Op <= opDiv {
			return impl.Plan{}
		}
	}
	table := b.Tables[tableAt(b, q.From)]
	for _, x := range table.Indexes {
		if len(q.Where) == 0 {
			break
		}
		for _, k := range andsOf(knotOf(q.Where)) {
			op := k.part.Op
			if len(k.kids) != 2 || op < opEq || op > opGe || op == opNe {
				continue
			}
			col, val := k.kids[0].part, k.kids[1].part
			if col.Op == opCol && col.Col == table.Cols[x.Cols[0]].Name && val.Op == opVal && val.Val.Kind != 0 {
				low, high := wantRange(op, val.Val, x.Downs[0])
				return impl.Plan{Index: x.Name, Low: low, High: high}
			}
		}
	}
	var sorts []impl.Sort
	for _, x := range table.Indexes {
		sorts = nil
		for i, col := range x.Cols {
			sorts = append(sorts, impl.Sort{Col: table.Cols[col].Name, Down: x.Downs[i]})
		}
		if slices.Equal(sorts, q.Sorts) {
			return impl.Plan{Index: x.Name, Sorted: true}
		}
	}
	return impl.Plan{}
}

// tellQuery is a query in a few words.
func tellQuery(q impl.Query) string {
	return fmt.Sprintf("items %v from %q join %v where %s group %q sorts %v limit %d", q.Items, q.From, q.Join, impl.ExprPut(q.Where), q.Group, q.Sorts, q.Limit)
}

// mustQuery holds all that is answered of a query against the second answers, and to P104, P106 and P113; it is the rows and the code.
func mustQuery(t *testing.T, b impl.Base, q impl.Query) ([]impl.Row, int) {
	t.Helper()
	want, wantCode := wantQuery(b, q)
	plan := impl.PlanOf(b, q)
	slow, slowCode := impl.QuerySlow(b, q)
	fast, fastCode := impl.QueryFast(b, q)
	if slowCode != wantCode || !sameRows(slow, want) {
		t.Fatalf("QuerySlow of %s: %v %d, want %v %d\n%s", tellQuery(q), slow, slowCode, want, wantCode, tellBase(b))
	}
	if fastCode != wantCode || !sameRows(fast, want) {
		t.Fatalf("QueryFast of %s by %+v: %v %d, want %v %d\n%s", tellQuery(q), plan, fast, fastCode, want, wantCode, tellBase(b))
	}
	if wanted := wantPlan(b, q); plan != wanted {
		t.Fatalf("PlanOf of %s: %#v, want %#v\n%s", tellQuery(q), plan, wanted, tellBase(b))
	}
	code := impl.QueryCode(b, q)
	if wanted := wantQueryCode(b, q); code != wanted {
		t.Fatalf("QueryCode of %s: %d, want %d", tellQuery(q), code, wanted)
	}
	if code != 0 && fastCode != code || code == 0 && fastCode != 0 && fastCode != 6 && fastCode != 7 || fastCode != 0 && len(fast) > 0 {
		t.Fatal(tellQuery(q), code, fastCode)
	}
	return fast, fastCode
}

// queryMaker makes queries to a base.
type queryMaker struct {
	source *rand.Rand
	base   impl.Base
	// wrong is how seldom something of a query is wrong; 0 is never.
	wrong int
	// joins, groups and sorts say whether there may be some.
	joins, groups, sorts bool
	// plain leaves out all parts that can go wrong.
	plain bool
}

func (m queryMaker) isWrong() bool {
	return m.wrong > 0 && m.source.Intn(m.wrong) == 0
}

// join is a join of columns that are of one kind; none, if there are no such.
func (m queryMaker) join(from impl.Table) impl.Join {
	table := m.base.Tables[m.source.Intn(len(m.base.Tables))]
	var list []impl.Join
	for _, mine := range from.Cols {
		for _, its := range table.Cols {
			if mine.Type.Kind == its.Type.Kind {
				list = append(list, impl.Join{Table: table.Name, Mine: mine.Name, Its: its.Name, Outer: m.source.Intn(2) == 0})
			}
		}
	}
	if m.isWrong() {
		return []impl.Join{{Table: "none", Mine: "a", Its: "a"}, {Table: table.Name, Mine: "q", Its: "a"}, {Table: table.Name, Mine: from.Cols[0].Name, Its: table.Cols[len(table.Cols)-1].Name}, {Mine: "a"}, {Outer: true}}[m.source.Intn(5)]
	}
	if len(list) == 0 {
		return impl.Join{}
	}
	return list[m.source.Intn(len(list))]
}

// query is a query; the base must have tables.
func (m queryMaker) query() impl.Query {
	from := m.base.Tables[m.source.Intn(len(m.base.Tables))]
	q := impl.Query{From: from.Name, Limit: -1}
	if m.joins && m.source.Intn(3) == 0 {
		q.Join = m.join(from)
	}
	cols := slices.Clone(from.Cols)
	if at := tableAt(m.base, q.Join.Table); at >= 0 {
		cols = seenOf(m.base, q)
	}
	if m.source.Intn(4) > 0 {
		q.Where = m.where(from, cols)
	}
	name := func() string {
		if m.isWrong() {
			return []string{"", "q", "t.q", "and", from.Name + ".a"}[m.source.Intn(5)]
		}
		return cols[m.source.Intn(len(cols))].Name
	}
	if m.groups && m.source.Intn(3) == 0 {
		m.group(&q, cols, name)
	} else {
		for range m.source.Intn(4) * m.source.Intn(2) {
			q.Items = append(q.Items, impl.Item{Col: name()})
		}
	}
	if m.sorts && (!wantGrouped(q) && m.source.Intn(2) == 0 || m.isWrong()) {
		m.sort(&q, from, name)
	}
	if m.source.Intn(3) == 0 {
		q.Limit = []int{0, 1, 2, 3, 9999}[m.source.Intn(5)]
	}
	if m.isWrong() {
		q.From = "none"
	}
	if m.isWrong() {
		q.Limit = []int{-2, 10000}[m.source.Intn(2)]
	}
	return q
}

// where is what is asked of each row, often that an index's first column is in a range.
func (m queryMaker) where(from impl.Table, cols []impl.Col) []impl.Part {
	e := exprMaker{source: m.source, cols: cols, wrong: 2 * m.wrong, plain: m.plain || m.source.Intn(2) == 0}
	at := slices.IndexFunc(cols, func(c impl.Col) bool { return c.Type.Kind == 2 })
	switch {
	case at >= 0 && !e.plain && m.source.Intn(4) == 0:
		return put(e.pick(opAnd, opOr), put(e.pick(opLt, opGt), exprOf("1 / "+cols[at].Name), exprOf("0")), e.of(1, 1+m.source.Intn(8)))
	case len(from.Indexes) == 0 || m.source.Intn(2) == 0:
		return e.of(1, 1+m.source.Intn(14))
	}
	col := from.Cols[from.Indexes[m.source.Intn(len(from.Indexes))].Cols[0]]
	texts := kindValues[col.Type.Kind]
	where := []impl.Part{{Op: opCol, Col: col.Name}, {Op: opVal, Val: valueOf(texts[m.source.Intn(len(texts))])}, {Op: e.pick(opEq, opLt, opLe, opGt, opGe)}}
	switch m.source.Intn(4) {
	case 0:
		return put(opAnd, e.of(1, 1+m.source.Intn(10)), where)
	case 1:
		return put(opAnd, where, e.of(1, 1+m.source.Intn(10)))
	case 2:
		return put(e.pick(opAnd, opOr), where, where)
	}
	return where
}

// group has a query ask for groups.
func (m queryMaker) group(q *impl.Query, cols []impl.Col, name func() string) {
	if m.source.Intn(3) > 0 {
		q.Group = name()
	}
	for range 1 + m.source.Intn(4) {
		agg := 1 + m.source.Intn(5)
		item := impl.Item{Agg: agg, Col: name()}
		switch {
		case agg == 1 && !m.isWrong():
			item.Col = ""
		case agg == 2 || agg == 3:
			for try := 0; try < 20 && !isNumber(cols, item.Col); try++ {
				item.Col = name()
			}
			if !isNumber(cols, item.Col) && !m.isWrong() {
				item.Agg = 4
			}
		case q.Group != "" && m.source.Intn(3) == 0:
			item = impl.Item{Col: q.Group}
		}
		q.Items = append(q.Items, item)
	}
	if m.isWrong() {
		q.Items = append(q.Items, impl.Item{Col: name()})
	}
}

func isNumber(cols []impl.Col, name string) bool {
	at := colAt(cols, name)
	return at >= 0 && cols[at].Type.Kind == 2
}

// sort has a query ask for an order, often that of an index.
func (m queryMaker) sort(q *impl.Query, from impl.Table, name func() string) {
	if n := len(from.Indexes); n > 0 && m.source.Intn(2) == 0 {
		x := from.Indexes[m.source.Intn(n)]
		for i, col := range x.Cols {
			q.Sorts = append(q.Sorts, impl.Sort{Col: from.Cols[col].Name, Down: x.Downs[i]})
		}
		return
	}
	for range 1 + m.source.Intn(2) {
		q.Sorts = append(q.Sorts, impl.Sort{Col: name(), Down: m.source.Intn(2) == 0})
	}
	if m.isWrong() {
		q.Sorts = append(q.Sorts, q.Sorts[0], q.Sorts[0])
	}
}

// queryBases is bases with tables.
func queryBases() []impl.Base {
	return append(slices.DeleteFunc(someBases(), func(b impl.Base) bool { return len(b.Tables) == 0 }), shopBase(), listsBase(false), listsBase(true))
}

// shopBase is two tables that meet in numbers of two scales, in days, in texts and in truths; values are there and are not.
func shopBase() impl.Base {
	return mustDo(newBase(),
		inTable("item", impl.Col{Name: "id", Type: typeOf("num(5,2)")}, impl.Col{Name: "kind", Type: typeOf("text")}, impl.Col{Name: "since", Type: typeOf("day")}, impl.Col{Name: "is1", Type: typeOf("bool")}),
		inTable("sale", impl.Col{Name: "id", Type: typeOf("num(3,0)")}, impl.Col{Name: "n", Type: typeOf("num(4,1)")}, impl.Col{Name: "on1", Type: typeOf("day")}, impl.Col{Name: "long", Type: typeOf("span")}),
		inIndex("item", impl.Index{Name: "ids", Cols: []int{0}, Downs: []bool{false}}),
		inIndex("sale", impl.Index{Name: "ids", Cols: []int{0, 1}, Downs: []bool{true, false}}),
		inRow("item", "1.00", "'a'", "@2024-01-31", "true"), inRow("item", "2.00", "'b'", "@2024-02-29", "false"), inRow("item", "2.50", "'a'", "null", "null"),
		inRow("item", "null", "'c'", "@2024-01-31", "true"), inRow("item", "3.00", "null", "@9999-12-31", "null"),
		inRow("sale", "2", "1.5", "@2024-02-29", "#1m0d"), inRow("sale", "1", "2.0", "@2024-01-31", "#0m1d"), inRow("sale", "null", "7.0", "null", "null"), inRow("sale", "2", "null", "@2024-02-29", "#120000m0d"), inRow("sale", "5", "1.0", "@2024-01-31", "#0m31d"))
}

// listsBase is a table with an index by each of two columns, up or down, of which some rows lack the value.
func listsBase(down bool) impl.Base {
	b := mustDo(newBase(),
		inTable("t", impl.Col{Name: "a", Type: typeOf("num(5,2)")}, impl.Col{Name: "b", Type: typeOf("text")}, impl.Col{Name: "c", Type: typeOf("day")}),
		inIndex("t", impl.Index{Name: "i", Cols: []int{0}, Downs: []bool{down}}),
		inIndex("t", impl.Index{Name: "j", Cols: []int{1, 0}, Downs: []bool{down, !down}}))
	for _, row := range [][]string{{"3.00", "'x'", "@2024-01-31"}, {"1.00", "'y'", "null"}, {"null", "'x'", "@2024-02-29"}, {"-2.00", "null", "@0001-01-01"}, {"3.00", "'y'", "@9999-12-31"}, {"0.00", "'x'", "null"}, {"null", "null", "@2024-01-31"}, {"3.00", "''", "null"}, {"0.01", "'xa'", "@2024-01-31"}} {
		b = mustDo(b, inRow("t", row...))
	}
	return b
}
