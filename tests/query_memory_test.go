package tests

import (
	"math/rand"
	"slices"
	"strings"
	"testing"

	"loop.example/jetton/impl"
)

func (l *loan) expr(e []impl.Part) []impl.Part {
	list := make([]impl.Part, len(e))
	for i, p := range e {
		p.Val = l.value(p.Val)
		list[i] = p
	}
	return lent(l, list, impl.Part{Op: impl.OpCol, Col: "spare"})
}

func (l *loan) query(q impl.Query) impl.Query {
	q.Items = lent(l, q.Items, impl.Item{Col: "spare"})
	q.Where = l.expr(q.Where)
	q.Sorts = lent(l, q.Sorts, impl.Sort{Col: "spare"})
	return q
}

func exprCalls(cols []impl.Col, row []impl.Value, e []impl.Part) []anyCall {
	return []anyCall{
		{"ExprOk", func() []any { impl.ExprOk(e); return nil }},
		{"ExprPut", func() []any { impl.ExprPut(e); return nil }},
		{"ExprKind", func() []any { impl.ExprKind(cols, e); return nil }},
		{"ExprRun", func() []any {
			v, _ := impl.ExprRun(cols, row, e)
			w, _ := impl.ExprRun(cols, row, e)
			return []any{v, w}
		}},
	}
}

func mustKeepExpr(t *testing.T, cols []impl.Col, row []impl.Value, e []impl.Part) {
	t.Helper()
	l := &loan{}
	x, y, z := l.cols(cols), l.row(row), l.expr(e)
	for _, c := range exprCalls(x, y, z) {
		askedAny(t, l, []any{x, y, z}, c.call, c.name, e, row)
	}
}

func TestExprsKeepMemoryApart(t *testing.T) {
	rows := someSeenRows()
	madeExprs(130, 3000, func(source *rand.Rand, e []impl.Part) {
		mustKeepExpr(t, someCols(), rows[source.Intn(len(rows))], e)
	})
	// A value or a column alone is answered in memory of its own.
	for _, row := range rows {
		for _, c := range someCols() {
			mustKeepExpr(t, someCols(), row, []impl.Part{{Op: impl.OpCol, Col: c.Name}})
		}
		for _, v := range row {
			mustKeepExpr(t, someCols(), row, []impl.Part{{Op: impl.OpVal, Val: v}})
		}
	}
	for _, e := range badExprs() {
		mustKeepExpr(t, someCols(), rows[0], e)
	}
	for i, cols := range badSeen() {
		mustKeepExpr(t, cols, rows[i%len(rows)], exprOf("n + 1"))
		mustKeepExpr(t, cols, make([]impl.Value, len(cols)), exprOf("a"))
	}
	for _, v := range badValues() {
		row := slices.Clone(rows[0])
		row[1] = v
		mustKeepExpr(t, someCols(), row, exprOf("n"))
		mustKeepExpr(t, someCols(), row, []impl.Part{{Op: impl.OpVal, Val: v}})
		mustKeepExpr(t, someCols(), rows[0], []impl.Part{{Op: impl.OpCol, Col: "n", Val: v}})
	}
	mustKeepExpr(t, nil, nil, nil)
}

func TestExprsThatAreReadAreApart(t *testing.T) {
	texts := []string{strings.Repeat(" ", 1000000), strings.Repeat("(", 1000000), strings.Repeat("'", 399), "123456789012345678901234567890 = 123456789012345678901234567890"}
	for s := range readings {
		texts = append(texts, s)
	}
	for _, s := range texts {
		askedAny(t, &loan{}, nil, func() []any {
			a, _ := impl.ExprGet(s)
			b, _ := impl.ExprGet(s)
			return []any{a, b}
		}, s)
	}
}

func queryCalls(b impl.Base, q impl.Query) []anyCall {
	two := func(call func(impl.Base, impl.Query) ([]impl.Row, int)) func() []any {
		return func() []any {
			x, _ := call(b, q)
			y, _ := call(b, q)
			return []any{x, y}
		}
	}
	return []anyCall{
		{"QueryCode", func() []any { impl.QueryCode(b, q); return nil }},
		{"PlanOf", func() []any { return []any{impl.PlanOf(b, q)} }},
		{"QuerySlow", two(impl.QuerySlow)},
		{"QueryFast", two(impl.QueryFast)},
	}
}

func mustKeepQuery(t *testing.T, b impl.Base, q impl.Query) {
	t.Helper()
	l := &loan{}
	x, y := l.base(b), l.query(q)
	for _, c := range queryCalls(x, y) {
		askedAny(t, l, []any{x, y}, c.call, c.name, tellQuery(q))
	}
}

func TestQueriesKeepMemoryApart(t *testing.T) {
	source := rand.New(rand.NewSource(131))
	for _, b := range queryBases() {
		for range 6 {
			m := queryMaker{source: source, base: b, wrong: 15, joins: true, groups: true, sorts: true}
			mustKeepQuery(t, b, m.query())
		}
	}
	// One number in many places: in items twice, in many rows of a join, as the least and the most, as a sum of one.
	long := longestBase()
	id := impl.Item{Col: "aaaaaaaa"}
	join := impl.Join{Table: "yyyyyyyy", Mine: "aaaaaaaa", Its: "aaaaaaaa", Outer: true}
	for _, q := range []impl.Query{
		{From: "xxxxxxxx", Items: []impl.Item{id, id, id, id}, Limit: -1}, {From: "xxxxxxxx", Items: []impl.Item{id, id}, Limit: 1}, {From: "xxxxxxxx", Join: join, Limit: -1}, {From: "xxxxxxxx", Join: join, Limit: 1},
		{From: "xxxxxxxx", Items: []impl.Item{id, {Col: "yyyyyyyy.aaaaaaaa"}}, Join: join, Sorts: []impl.Sort{{Col: "dddddddd"}}, Limit: -1},
		{From: "xxxxxxxx", Items: []impl.Item{{Agg: 4, Col: "cccccccc"}, {Agg: 5, Col: "cccccccc"}, {Agg: 2, Col: "cccccccc"}, {Agg: 1}}, Limit: -1},
		{From: "xxxxxxxx", Group: "aaaaaaaa", Items: []impl.Item{id, id, {Agg: 4, Col: "aaaaaaaa"}, {Agg: 5, Col: "aaaaaaaa"}}, Limit: -1},
		{From: "xxxxxxxx", Group: "dddddddd", Items: []impl.Item{{Col: "dddddddd"}, {Agg: 2, Col: "dddddddd"}}, Limit: 1},
	} {
		mustQuery(t, long, q)
		mustKeepQuery(t, long, q)
	}
	for _, b := range append(badBases(), impl.Base{}, newBase()) {
		mustKeepQuery(t, b, impl.Query{From: "t", Items: []impl.Item{{Col: "a"}}, Where: exprOf("a = 1"), Sorts: []impl.Sort{{Col: "a"}}, Limit: -1})
		mustKeepQuery(t, b, impl.Query{})
	}
	for _, e := range badExprs() {
		mustKeepQuery(t, shopBase(), impl.Query{From: "item", Where: e, Limit: -1})
	}
	for _, n := range badInts {
		mustKeepQuery(t, shopBase(), impl.Query{From: "item", Limit: n})
		mustKeepQuery(t, shopBase(), impl.Query{From: "item", Items: []impl.Item{{Agg: n, Col: "id"}}})
	}
	mustKeepQuery(t, shopBase(), impl.Query{From: "item", Items: make([]impl.Item, 1000), Sorts: make([]impl.Sort, 1000), Where: make([]impl.Part, 1000)})
}

// What is answered does not hang on what was answered before, nor on what became of that.
func TestQueriesAnswerAgainTheSame(t *testing.T) {
	b := shopBase()
	q := impl.Query{From: "item", Join: impl.Join{Table: "sale", Mine: "since", Its: "on1", Outer: true}, Where: exprOf("kind <> 'b'"), Sorts: []impl.Sort{{Col: "sale.n", Down: true}}, Limit: -1}
	want, _ := wantQuery(b, q)
	for range 3 {
		got, _ := mustQuery(t, b, q)
		mustRows(t, got, want, "again")
		for i := range got {
			for k := range got[i].Vals {
				for j := range got[i].Vals[k].Num.Num.Limbs {
					got[i].Vals[k].Num.Num.Limbs[j] = -1
				}
				got[i].Vals[k] = impl.Value{Kind: 99}
			}
		}
	}
}
