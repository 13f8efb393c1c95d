package tests

import (
	"fmt"
	"math/rand"
	"slices"
	"strings"
	"testing"

	"loop.example/jetton/impl"
)

func TestQueriesHaveTheirConstants(t *testing.T) {
	got := []int{
		impl.AggCount, impl.AggSum, impl.AggAvg, impl.AggLeast, impl.AggMost, impl.QueryFine, impl.QueryForm, impl.QueryNone, impl.QueryName, impl.QueryType, impl.QueryGroup, impl.QueryZero, impl.QueryOver, impl.ItemMax, impl.KeyCols, impl.NumMax,
	}
	if want := []int{1, 2, 3, 4, 5, 0, 1, 2, 3, 4, 5, 6, 7, 4, 2, 9999}; !slices.Equal(got, want) {
		t.Error(got, want)
	}
}

// tellRows is rows as texts, their numbers ahead.
func tellRows(rows []impl.Row) string {
	var lines []string
	for _, r := range rows {
		words := []string{fmt.Sprint(r.Num)}
		for _, v := range r.Vals {
			words = append(words, impl.ValuePut(v))
		}
		lines = append(lines, strings.Join(words, " "))
	}
	return strings.Join(lines, " / ")
}

// tellNums is the numbers of rows.
func tellNums(rows []impl.Row) string {
	text := ""
	for _, r := range rows {
		text += fmt.Sprint(r.Num)
	}
	return text
}

func TestP104ByItsPlanAQueryHasJustTheAnswer(t *testing.T) {
	source := rand.New(rand.NewSource(120))
	seen := map[string]int{}
	for _, b := range queryBases() {
		for i := range 60 {
			m := queryMaker{source: source, base: b, wrong: []int{0, 0, 12}[i%3], joins: true, groups: true, sorts: true}
			q := m.query()
			rows, code := mustQuery(t, b, q)
			plan := impl.PlanOf(b, q)
			seen[fmt.Sprint("code ", code)]++
			seen[fmt.Sprint("plan ", plan.Index != "", plan.Sorted)]++
			seen[fmt.Sprint("rows ", len(rows) > 0, " by plan ", plan.Index != "")]++
			if code == 0 && wantGrouped(q) {
				seen["groups"]++
			}
			if code == 0 && q.Join.Table != "" && len(rows) > 0 {
				seen["joins"]++
			}
		}
	}
	for _, each := range []string{"code 0", "code 1", "code 2", "code 3", "code 4", "code 5", "code 6", "code 7", "plan true true", "plan true false", "plan false false", "rows true by plan true", "rows false by plan true", "groups", "joins"} {
		if seen[each] < 20 {
			t.Error(each, seen)
		}
	}
}

// Each comparison by an index that goes up and by one that goes down, of each value that is there, beside one, or none; with rows that lack it.
func TestP104EachRangeOfAnIndex(t *testing.T) {
	values := map[string][]string{
		"a": {"3", "3.000", "1.00", "-2", "0", "0.0", "0.01", "0.005", "-3", "-2.000001", "99999", "0.000000000001", "999999999999999999999999999999", "null"},
		"b": {"'x'", "'y'", "''", "'xa'", "'x '", "'w'", "'z'", "'~~~~~~~~~~~~'", "null"},
		"c": {"@2024-01-31", "@2024-02-29", "@0001-01-01", "@9999-12-31", "@2024-02-01", "null"},
	}
	plans := map[string]int{}
	for _, down := range bothWays {
		b := listsBase(down)
		for col, texts := range values {
			for _, text := range texts {
				for _, sign := range []string{"=", "<>", "<", "<=", ">", ">="} {
					for i, form := range []string{"%s %s %s", "%[3]s %[2]s %[1]s", "not %s %s %s", "%s %s %s and c is not null", "c is not null and %s %s %s", "%s %s %s or c is null", "%s %s %s and b = 'x'"} {
						q := impl.Query{From: "t", Where: exprOf(fmt.Sprintf(form, col, sign, text)), Limit: -1}
						mustQuery(t, b, q)
						plans[impl.PlanOf(b, q).Index]++
						if i > 0 {
							continue
						}
						q.Sorts = []impl.Sort{{Col: "b", Down: !down}, {Col: "a", Down: down}}
						mustQuery(t, b, q)
						q.Sorts, q.Items, q.Group = nil, []impl.Item{{Agg: 1}, {Agg: 3, Col: "a"}, {Agg: 5, Col: "b"}, {Agg: 4, Col: "c"}}, ""
						mustQuery(t, b, q)
					}
				}
			}
		}
	}
	if plans["i"] < 100 || plans["j"] < 100 || plans[""] < 100 {
		t.Error(plans)
	}
}

// Truths, spans and days by an index, up and down.
func TestP104IndexesOfOtherKinds(t *testing.T) {
	values := []string{"true", "false", "null", "@2024-01-31", "@0001-01-01", "#0m0d", "#0m1d", "#-1m5d", "#120000m-4000000d"}
	for _, kind := range []string{"bool", "day", "span"} {
		for _, down := range bothWays {
			b := mustDo(newBase(), inTable("t", impl.Col{Name: "a", Type: typeOf(kind)}), inIndex("t", impl.Index{Name: "i", Cols: []int{0}, Downs: []bool{down}}))
			for range 2 {
				for _, s := range values {
					if v := valueOf(s); v.Kind == 0 || v.Kind == typeOf(kind).Kind {
						b = mustDo(b, inRow("t", s))
					}
				}
			}
			for _, s := range values {
				for _, sign := range []string{"=", "<", "<=", ">", ">="} {
					for _, sorts := range [][]impl.Sort{nil, {{Col: "a", Down: true}}} {
						mustQuery(t, b, impl.Query{From: "t", Where: exprOf("a " + sign + " " + s), Sorts: sorts, Limit: -1})
					}
				}
			}
		}
	}
}

func TestP104QueriesWrittenOut(t *testing.T) {
	up := listsBase(false)
	for where, want := range map[string]string{
		"a = 3": "158", "a > 0": "12589", "a >= 0.01": "12589", "a < 1": "469", "a <= 1": "2469", "a is null": "37", "a is not null": "1245689", "a <> 3": "2469",
		"not a > 0": "46", "b = 'x'": "136", "b > 'x'": "259", "b = ''": "8", "b < 'x'": "8", "a = 3 and b = 'y'": "5", "a = 3 or b = 'x'": "13568", "null": "", "true": "123456789", "false": "", "null = a": "", "a = a": "1245689",
	} {
		rows, code := mustQuery(t, up, impl.Query{From: "t", Where: exprOf(where), Limit: -1})
		if code != 0 || tellNums(rows) != want {
			t.Error(where, code, tellNums(rows), want)
		}
	}
	items := []impl.Item{{Col: "c"}, {Col: "a"}, {Col: "a"}}
	rows, _ := mustQuery(t, up, impl.Query{From: "t", Items: items, Where: exprOf("a >= 0.01"), Sorts: []impl.Sort{{Col: "a", Down: true}}, Limit: 3})
	if got := tellRows(rows); got != "1 @2024-01-31 3.00 3.00 / 5 @9999-12-31 3.00 3.00 / 8 null 3.00 3.00" {
		t.Error(got)
	}
}

// withoutIndexes is a base without the indexes of all its tables.
func withoutIndexes(b impl.Base) impl.Base {
	for _, table := range b.Tables {
		for _, x := range table.Indexes {
			b, _ = wantLess(b, table.Name, x.Name)
		}
	}
	return b
}

func TestP105WhichIndexesThereAre(t *testing.T) {
	source := rand.New(rand.NewSource(121))
	count := map[string]int{}
	for _, b := range queryBases() {
		bare := withoutIndexes(b)
		bases := []impl.Base{bare}
		for _, table := range b.Tables {
			for range 4 {
				more, code := wantIndex(bare, table.Name, madeIndex(source, len(table.Cols)))
				if code == 0 {
					bases = append(bases, more)
				}
				two, code := wantIndex(more, table.Name, madeIndex(source, len(table.Cols)))
				if code == 0 {
					bases = append(bases, two)
				}
				one, code := wantIndex(b, table.Name, madeIndex(source, len(table.Cols)))
				if code == 0 {
					bases = append(bases, one)
				}
			}
		}
		for i := range 8 {
			m := queryMaker{source: source, base: b, joins: i%4 == 3, groups: true, sorts: true, plain: i%2 == 0}
			q := m.query()
			rows, code := impl.QueryFast(b, q)
			for _, x := range bases {
				got, gotCode := impl.QueryFast(x, q)
				if code != gotCode || !sameRows(rows, got) {
					t.Fatalf("%s: %v %d, want %v %d\n%s", tellQuery(q), got, gotCode, rows, code, tellBase(x))
				}
				if impl.PlanOf(x, q) != impl.PlanOf(b, q) {
					count["plans"]++
				}
				if len(rows) > 0 {
					count["rows"]++
				}
			}
		}
	}
	if count["plans"] < 200 || count["rows"] < 500 {
		t.Error(count)
	}
}

func TestP106APlanIsByAnIndexOfTheTable(t *testing.T) {
	source := rand.New(rand.NewSource(122))
	plans := 0
	for _, b := range queryBases() {
		for range 40 {
			m := queryMaker{source: source, base: b, wrong: 30, joins: true, groups: true, sorts: true, plain: source.Intn(3) > 0}
			q := m.query()
			plan := impl.PlanOf(b, q)
			if plan != wantPlan(b, q) {
				t.Fatal(tellQuery(q), plan, wantPlan(b, q))
			}
			if plan == (impl.Plan{}) {
				continue
			}
			plans++
			at := tableAt(b, q.From)
			reckons := slices.ContainsFunc(q.Where, func(p impl.Part) bool { return p.Op >= opAdd && p.Op <= opDiv })
			if at < 0 || indexAt(b.Tables[at], plan.Index) < 0 || reckons || q.Join.Table != "" || impl.QueryCode(b, q) != 0 {
				t.Fatal(tellQuery(q), plan)
			}
			found := impl.BaseSeek(b, q.From, plan.Index, plan.Low, plan.High)
			all, _ := wantTrue(b.Tables[at].Cols, impl.BaseRows(b, q.From), q.Where)
			for _, r := range all {
				if !slices.ContainsFunc(found, func(s impl.Row) bool { return s.Num == r.Num }) {
					t.Fatal(tellQuery(q), plan, r)
				}
			}
		}
	}
	if plans < 300 {
		t.Error(plans)
	}
}

// Plans written out: which index, and from where to where.
func TestP106PlansWrittenOut(t *testing.T) {
	num := func(s string, down bool) string { return impl.KeyPut(valueOf(s), down) }
	above := func(s string, down bool) string { return impl.KeyAbove(num(s, down)) }
	for _, down := range bothWays {
		b := listsBase(down)
		n := impl.KeyPut(impl.Value{}, down)
		ends := map[string][2]string{"=": {num("3", down), above("3", down)}, "<": {impl.KeyAbove(n), num("3", down)}, "<=": {impl.KeyAbove(n), above("3", down)}, ">": {above("3", down), ""}, ">=": {num("3", down), ""}}
		if down {
			ends = map[string][2]string{"=": {num("3", down), above("3", down)}, "<": {above("3", down), n}, "<=": {num("3", down), n}, ">": {"", num("3", down)}, ">=": {"", above("3", down)}}
		}
		for sign, want := range ends {
			for _, value := range []string{"3", "3.00", "3.000000"} {
				got := impl.PlanOf(b, impl.Query{From: "t", Where: exprOf("a " + sign + " " + value), Limit: -1})
				if got != (impl.Plan{Index: "i", Low: want[0], High: want[1]}) {
					t.Errorf("%v %s: %+v", down, sign, got)
				}
			}
		}
	}
	b := listsBase(false)
	for where, want := range map[string]string{
		"a = 3": "i", "b = 'x'": "j", "c = @2024-01-31": "", "a = 3 and b = 'x'": "i", "b = 'x' and a = 3": "i", "b = 'x' and c = @2024-01-31": "j", "c is null and (b = 'x' and a < 3)": "i", "(a > 1 and b = 'x') and c is null": "i",
		"a = 3 or b = 'x'": "", "not a = 3": "", "not (a = 3 and b = 'x')": "", "a <> 3": "", "a is null": "", "a is not null": "", "3 = a": "", "a = a": "", "a = null": "", "a = null and a > 1": "i", "a <> 1 and a > 1": "i", "(a = 3) = true": "", "(a = 3) is null": "",
		"(a = 3 or c is null) and b > 'x'": "j", "a = 3 and (b = 'x' or c is null)": "i", "a + 1 = 3": "", "a = 3 and a + 1 = 4": "", "a = 3 and 1 / a > 0": "", "c - @2024-01-31 = 0 and a = 3": "", "null": "", "true": "", "true and a = 3": "i",
	} {
		got := impl.PlanOf(b, impl.Query{From: "t", Where: exprOf(where), Limit: -1})
		if got.Index != want || got.Sorted {
			t.Errorf("%s: %+v, want %s", where, got, want)
		}
	}
	// The first part that will do, of the first index.
	first := impl.PlanOf(b, impl.Query{From: "t", Where: exprOf("a > 1 and a < 3"), Limit: -1})
	if first.Low != above("1", false) || first.High != "" {
		t.Errorf("%+v", first)
	}
	second := impl.PlanOf(b, impl.Query{From: "t", Where: exprOf("a < 3 and a > 1"), Limit: -1})
	if second.Low != "\x02" || second.High != num("3", false) {
		t.Errorf("%+v", second)
	}
}

// Plans by the order that is asked for.
func TestP106PlansBySorts(t *testing.T) {
	b := listsBase(true)
	for _, c := range []struct {
		sorts []impl.Sort
		where string
		want  impl.Plan
	}{
		{[]impl.Sort{{Col: "a", Down: true}}, "", impl.Plan{Index: "i", Sorted: true}},
		{[]impl.Sort{{Col: "a", Down: false}}, "", impl.Plan{}},
		{[]impl.Sort{{Col: "b", Down: true}, {Col: "a", Down: false}}, "", impl.Plan{Index: "j", Sorted: true}},
		{[]impl.Sort{{Col: "b", Down: true}, {Col: "a", Down: true}}, "", impl.Plan{}},
		{[]impl.Sort{{Col: "b", Down: true}}, "", impl.Plan{}},
		{[]impl.Sort{{Col: "a", Down: true}, {Col: "b", Down: true}}, "", impl.Plan{}},
		{[]impl.Sort{{Col: "a", Down: true}, {Col: "a", Down: true}}, "", impl.Plan{}},
		{[]impl.Sort{{Col: "c", Down: true}}, "", impl.Plan{}},
		{nil, "", impl.Plan{}},
		{[]impl.Sort{{Col: "a", Down: true}}, "c is null", impl.Plan{Index: "i", Sorted: true}},
		{[]impl.Sort{{Col: "a", Down: true}}, "not a > 1 or b = 'x'", impl.Plan{Index: "i", Sorted: true}},
		{[]impl.Sort{{Col: "a", Down: true}}, "a + 0 > 1", impl.Plan{}},
		{[]impl.Sort{{Col: "a", Down: true}}, "1 / a > 0", impl.Plan{}},
		{[]impl.Sort{{Col: "a", Down: true}}, "b = 'x'", wantPlan(b, impl.Query{From: "t", Where: exprOf("b = 'x'"), Limit: -1})},
		{[]impl.Sort{{Col: "b", Down: true}, {Col: "a"}}, "a < 3", wantPlan(b, impl.Query{From: "t", Where: exprOf("a < 3"), Limit: -1})},
	} {
		for _, limit := range []int{-1, 0, 2} {
			q := impl.Query{From: "t", Sorts: c.sorts, Limit: limit}
			if c.where != "" {
				q.Where = exprOf(c.where)
			}
			mustQuery(t, b, q)
			if got := impl.PlanOf(b, q); got != c.want {
				t.Errorf("%s: %+v, want %+v", tellQuery(q), got, c.want)
			}
		}
	}
	// Of two indexes that will do the first is taken, whether by a range or by an order.
	twin := mustDo(newBase(), inTable("t", impl.Col{Name: "a", Type: typeOf("bool")}), inIndex("t", impl.Index{Name: "z", Cols: []int{0}, Downs: []bool{true}}), inIndex("t", impl.Index{Name: "a", Cols: []int{0}, Downs: []bool{true}}), inRow("t", "true"))
	for _, q := range []impl.Query{{From: "t", Sorts: []impl.Sort{{Col: "a", Down: true}}, Limit: -1}, {From: "t", Where: exprOf("a = true"), Limit: -1}} {
		if got := impl.PlanOf(twin, q); got.Index != "z" {
			t.Error(got)
		}
	}
	// A table of the same columns has indexes of its own.
	other := mustDo(listsBase(true), inTable("u", listsBase(true).Tables[0].Cols...))
	if got := impl.PlanOf(other, impl.Query{From: "u", Where: exprOf("a = 3"), Limit: -1}); got != (impl.Plan{}) {
		t.Error(got)
	}
}

// What goes wrong of a row is told, also if a range, or a limit, has not that row; and the first that does.
func TestP104WhatGoesWrongIsToldOfAllRows(t *testing.T) {
	for _, down := range bothWays {
		b := listsBase(down)
		// Row 6 has a 0, row 5 a day that has none behind it, row 4 one that has none ahead.
		for where, want := range map[string]int{
			"a = 3 and 1 / a > 0": 6, "1 / a > 0 and a = 3": 6, "a = 3 or 1 / a > 0": 6, "b = 'y' and c + #0m1d = c": 7, "c + #0m1d = c and 1 / a > 0": 7, "1 / a > 0 and c + #0m1d = c": 7, "c - #1m0d = c or 1 / a = 1": 7, "1 / a > 0": 6, "a <> 0 and 1 / a > 0": 6,
			"1 / (a - 3) > 0": 6, "1 / (a + 2) > 0 or c + #0m1d = c": 6, "c + #0m1d = c or 1 / (a - 1) > 0": 6, "a + 1 > 1": 0, "1 / (a + 1) > 0 and a = 3": 0, "c - c = 0": 0, "a * 999999999999999999999999999999 > 0": 7, "false and 1 / a > 0": 6,
		} {
			for _, q := range []impl.Query{
				{From: "t", Where: exprOf(where), Limit: -1}, {From: "t", Where: exprOf(where), Limit: 0}, {From: "t", Where: exprOf(where), Limit: 1},
				{From: "t", Where: exprOf(where), Sorts: []impl.Sort{{Col: "a", Down: down}}, Limit: -1}, {From: "t", Where: exprOf(where), Items: []impl.Item{{Agg: 1}}, Limit: -1}, {From: "t", Where: exprOf(where), Group: "b", Items: []impl.Item{{Agg: 2, Col: "a"}}, Limit: 0},
			} {
				rows, code := mustQuery(t, b, q)
				if code != want || code != 0 && len(rows) > 0 || impl.QueryCode(b, q) != 0 {
					t.Error(tellQuery(q), code, want)
				}
			}
		}
	}
	// Of a join only rows that meet, or stay, can go wrong.
	b := shopBase()
	for where, codes := range map[string][2]int{"1 / (id - 2.5) > 0": {0, 6}, "1 / (id - 2) > 0": {6, 6}, "1 / (sale.n - 7) > 0": {0, 0}, "since + #0m1d = since": {0, 7}} {
		for i, outer := range bothWays {
			q := impl.Query{From: "item", Join: impl.Join{Table: "sale", Mine: "id", Its: "id", Outer: outer}, Where: exprOf(where), Limit: -1}
			if _, code := mustQuery(t, b, q); code != codes[i] {
				t.Error(where, outer, code)
			}
		}
	}
}

func TestP107AllRowsAreOfThreeSorts(t *testing.T) {
	source := rand.New(rand.NewSource(123))
	done, sorts := 0, [3]int{}
	for _, b := range queryBases() {
		for range 60 {
			m := queryMaker{source: source, base: b, joins: true}
			q := m.query()
			q.Limit = -1
			if len(q.Where) == 0 || len(q.Where) > 15 {
				continue
			}
			all := q
			all.Where = nil
			rows, code := impl.QuerySlow(b, all)
			sum := 0
			for i, where := range [][]impl.Part{q.Where, put(opNot, q.Where), put(opNull, q.Where)} {
				each := q
				each.Where = where
				got, eachCode := impl.QuerySlow(b, each)
				if eachCode != 0 {
					code = eachCode
				}
				sum += len(got)
				sorts[i] += len(got)
			}
			if code != 0 {
				continue
			}
			done++
			if sum != len(rows) {
				t.Fatal(tellQuery(q), sum, len(rows))
			}
		}
	}
	if done < 1000 || min(sorts[0], sorts[1], sorts[2]) < 500 {
		t.Error(done, sorts)
	}
}

func TestP108TheFirstRowsOfAll(t *testing.T) {
	source := rand.New(rand.NewSource(124))
	some := 0
	for _, b := range queryBases() {
		for range 20 {
			m := queryMaker{source: source, base: b, joins: true, groups: true, sorts: true}
			q := m.query()
			q.Limit = -1
			all, code := impl.QueryFast(b, q)
			for _, limit := range []int{0, 1, 2, 3, len(all), len(all) + 1, 9998, 9999} {
				q.Limit = limit
				got, gotCode := impl.QueryFast(b, q)
				if gotCode != code || !sameRows(got, all[:min(limit, len(all))]) {
					t.Fatal(tellQuery(q), got, gotCode, code)
				}
			}
			if len(all) > 3 {
				some++
			}
		}
	}
	if some < 200 {
		t.Error(some)
	}
}

func TestP109WhatIsAskedForInAnOrderIsInIt(t *testing.T) {
	source := rand.New(rand.NewSource(125))
	count := map[string]int{}
	for _, b := range queryBases() {
		for range 40 {
			m := queryMaker{source: source, base: b, sorts: true, plain: true}
			q := m.query()
			q.Items = nil
			rows, code := impl.QueryFast(b, q)
			if code != 0 || len(q.Sorts) == 0 {
				continue
			}
			var places []int
			var downs []bool
			for _, s := range q.Sorts {
				places, downs = append(places, colAt(b.Tables[tableAt(b, q.From)].Cols, s.Col)), append(downs, s.Down)
			}
			for i := 1; i < len(rows); i++ {
				order := impl.RowOrder(rows[i-1].Vals, rows[i].Vals, places, downs)
				if order > 0 || order == 0 && rows[i-1].Num >= rows[i].Num {
					t.Fatal(tellQuery(q), rows)
				}
				count[fmt.Sprint(order, impl.PlanOf(b, q).Sorted)]++
			}
		}
	}
	for _, each := range []string{"-1 true", "-1 false", "0 true", "0 false"} {
		if count[each] < 50 {
			t.Error(count)
		}
	}
}

func TestP110RowsOfAllGroupsAreAllRows(t *testing.T) {
	source := rand.New(rand.NewSource(126))
	groups, nones := 0, 0
	for _, b := range queryBases() {
		for range 15 {
			m := queryMaker{source: source, base: b, joins: true}
			q := m.query()
			q.Items, q.Limit = nil, -1
			rows, code := impl.QueryFast(b, q)
			if code != 0 {
				continue
			}
			cols := seenOf(b, q)
			for _, c := range cols {
				q.Group, q.Items = c.Name, []impl.Item{{Agg: 1}, {Col: c.Name}}
				got, code := mustQuery(t, b, q)
				sum := 0
				for i, r := range got {
					n := intOf(r.Vals[0].Num.Num)
					sum += int(n.Int64())
					if r.Num != i+1 || n.Sign() <= 0 || i > 0 && impl.ValueOrder(got[i-1].Vals[1], r.Vals[1]) >= 0 {
						t.Fatal(tellQuery(q), got)
					}
					if r.Vals[1].Kind == 0 {
						nones++
					}
				}
				if code != 0 || sum != len(rows) {
					t.Fatal(tellQuery(q), got, len(rows))
				}
				groups += len(got)
			}
			q.Group, q.Items = "", []impl.Item{{Agg: 1}}
			one, code := mustQuery(t, b, q)
			if code != 0 || tellRows(one) != fmt.Sprintf("1 %d", len(rows)) {
				t.Fatal(tellQuery(q), one)
			}
		}
	}
	if groups < 1000 || nones < 100 {
		t.Error(groups, nones)
	}
}

// Groups, written out: of none, of no rows, of each thing that is reckoned, of values that are there and that are not.
func TestP110GroupsWrittenOut(t *testing.T) {
	all := []impl.Item{{Agg: 1}, {Agg: 2, Col: "a"}, {Agg: 3, Col: "a"}, {Agg: 4, Col: "a"}}
	most := []impl.Item{{Agg: 5, Col: "a"}, {Agg: 4, Col: "b"}, {Agg: 5, Col: "b"}, {Agg: 5, Col: "c"}}
	for _, c := range []struct {
		group string
		items []impl.Item
		where string
		want  string
	}{
		{"", all, "", "1 9 8.01 1.144286 -2.00"},
		{"", most, "", "1 3.00 '' 'y' @9999-12-31"},
		{"", all, "false", "1 0 null null null"},
		{"", most, "a > 100", "1 null null null null"},
		{"", all, "a is null", "1 2 null null null"},
		{"", most, "a is null", "1 null 'x' 'x' @2024-02-29"},
		{"b", append([]impl.Item{{Col: "b"}}, all[:3]...), "", "1 null 2 -2.00 -2.000000 / 2 '' 1 3.00 3.000000 / 3 'x' 3 3.00 1.500000 / 4 'xa' 1 0.01 0.010000 / 5 'y' 2 4.00 2.000000"},
		{"b", append([]impl.Item{{Col: "b"}}, all[:3]...), "false", ""},
		{"a", []impl.Item{{Agg: 1}, {Col: "a"}, {Col: "a"}, {Agg: 4, Col: "c"}}, "", "1 2 null null @2024-01-31 / 2 1 -2.00 -2.00 @0001-01-01 / 3 1 0.00 0.00 null / 4 1 0.01 0.01 @2024-01-31 / 5 1 1.00 1.00 null / 6 3 3.00 3.00 @2024-01-31"},
		{"c", []impl.Item{{Agg: 1}}, "", "1 3 / 2 1 / 3 3 / 4 1 / 5 1"},
		{"a", []impl.Item{{Agg: 2, Col: "a"}}, "a is null", "1 null"},
	} {
		for _, down := range bothWays {
			q := impl.Query{From: "t", Group: c.group, Items: c.items, Limit: -1}
			if c.where != "" {
				q.Where = exprOf(c.where)
			}
			rows, code := mustQuery(t, listsBase(down), q)
			if code != 0 || tellRows(rows) != c.want {
				t.Errorf("%s: %d %s, want %s", tellQuery(q), code, tellRows(rows), c.want)
			}
		}
	}
	// Numbers that are as much at two scales meet, and are of one group, whichever of both it is by.
	join := impl.Join{Table: "sale", Mine: "id", Its: "id", Outer: true}
	for group, want := range map[string]string{
		"id":      "1 null 1 null null / 2 1.00 1 1 2.0 / 3 2.00 2 2 1.5 / 4 2.50 1 null null / 5 3.00 1 null null",
		"sale.id": "1 null 3 null null / 2 1 1 1 2.0 / 3 2 2 2 1.5",
	} {
		q := impl.Query{From: "item", Join: join, Group: group, Items: []impl.Item{{Col: group}, {Agg: 1}, {Agg: 4, Col: "sale.id"}, {Agg: 2, Col: "sale.n"}}, Limit: -1}
		rows, code := mustQuery(t, shopBase(), q)
		if code != 0 || tellRows(rows) != want {
			t.Errorf("%s: %d %s", group, code, tellRows(rows))
		}
	}
	// Truths and spans have a least and a most, too.
	rows, _ := mustQuery(t, shopBase(), impl.Query{From: "item", Items: []impl.Item{{Agg: 4, Col: "is1"}, {Agg: 5, Col: "is1"}, {Agg: 4, Col: "since"}, {Agg: 5, Col: "kind"}}, Limit: -1})
	if got := tellRows(rows); got != "1 false true @2024-01-31 'c'" {
		t.Error(got)
	}
	rows, _ = mustQuery(t, shopBase(), impl.Query{From: "sale", Items: []impl.Item{{Agg: 4, Col: "long"}, {Agg: 5, Col: "long"}}, Limit: 1})
	if got := tellRows(rows); got != "1 #0m1d #120000m0d" {
		t.Error(got)
	}
}

// Sums that are too much: at the end, in between, or only as a mean.
func TestP110SumsThatAreTooMuch(t *testing.T) {
	nines := strings.Repeat("9", 30)
	for _, c := range []struct {
		kind     string
		rows     []string
		sum, avg int
	}{
		{"num(30,0)", []string{nines}, 0, 7},
		{"num(30,0)", []string{nines, "0"}, 0, 7},
		{"num(30,0)", []string{nines, "1"}, 7, 7},
		{"num(30,0)", []string{nines, "1", "-" + nines}, 7, 7},
		{"num(30,0)", []string{nines, "-" + nines, "1"}, 0, 0},
		{"num(30,0)", []string{nines, "null", "-1"}, 0, 7},
		{"num(30,0)", []string{"-" + nines, "-1"}, 7, 7},
		{"num(30,0)", []string{nines[:24], "null"}, 0, 0},
		{"num(30,0)", []string{nines[:25]}, 0, 7},
		{"num(30,6)", []string{nines[:24] + ".999999", "0.000001"}, 7, 7},
		{"num(30,6)", []string{nines[:24] + ".999999", nines[:24] + ".999999"}, 7, 7},
		{"num(30,12)", []string{nines[:18] + "." + nines[:12]}, 0, 0},
		{"num(30,12)", []string{nines[:18] + "." + nines[:12], "0.000000000001"}, 7, 7},
	} {
		b := mustDo(newBase(), inTable("t", impl.Col{Name: "a", Type: typeOf(c.kind)}), inIndex("t", impl.Index{Name: "i", Cols: []int{0}, Downs: []bool{false}}))
		for _, r := range c.rows {
			b = mustDo(b, inRow("t", r))
		}
		for agg, want := range map[int]int{1: 0, 2: c.sum, 3: c.avg, 4: 0, 5: 0} {
			item := impl.Item{Agg: agg, Col: "a"}
			if agg == 1 {
				item.Col = ""
			}
			for _, limit := range []int{-1, 0} {
				for _, where := range []string{"true", "a is null or a = a", "a >= -" + nines + " or a is null"} {
					if _, code := mustQuery(t, b, impl.Query{From: "t", Items: []impl.Item{item}, Where: exprOf(where), Limit: limit}); code != want {
						t.Error(c, agg, code, want)
					}
				}
			}
		}
		// By an index rows come in another order than they are added in.
		mustQuery(t, b, impl.Query{From: "t", Items: []impl.Item{{Agg: 2, Col: "a"}}, Where: exprOf("a >= -" + nines), Limit: -1})
		mustQuery(t, b, impl.Query{From: "t", Items: []impl.Item{{Agg: 3, Col: "a"}}, Where: exprOf("a <= " + nines), Limit: -1})
	}
	// Where goes wrong first.
	b := mustDo(newBase(), inTable("t", impl.Col{Name: "a", Type: typeOf("num(30,0)")}), inRow("t", nines), inRow("t", nines), inRow("t", "0"))
	if _, code := mustQuery(t, b, impl.Query{From: "t", Items: []impl.Item{{Agg: 2, Col: "a"}}, Where: exprOf("1 / a >= 0"), Limit: -1}); code != 6 {
		t.Error(code)
	}
}

func TestP111TheLeastTheMeanAndTheMost(t *testing.T) {
	source := rand.New(rand.NewSource(127))
	count := map[bool]int{}
	for _, b := range slices.Repeat(queryBases(), 3) {
		for _, table := range b.Tables {
			for _, c := range table.Cols {
				if c.Type.Kind != 2 || c.Type.Scale > 6 {
					continue
				}
				for _, g := range append([]impl.Col{{}}, table.Cols...) {
					e := exprMaker{source: source, cols: table.Cols, plain: true}
					q := impl.Query{From: table.Name, Group: g.Name, Items: []impl.Item{{Agg: 4, Col: c.Name}, {Agg: 3, Col: c.Name}, {Agg: 5, Col: c.Name}, {Agg: 2, Col: c.Name}}, Where: e.of(1, 6), Limit: -1}
					rows, code := mustQuery(t, b, q)
					if code == 7 {
						continue
					}
					for _, r := range rows {
						none := r.Vals[0].Kind == 0
						count[none]++
						for _, v := range r.Vals {
							if (v.Kind == 0) != none {
								t.Fatal(tellQuery(q), r)
							}
						}
						if !none && (impl.ValueOrder(r.Vals[0], r.Vals[1]) > 0 || impl.ValueOrder(r.Vals[1], r.Vals[2]) > 0) {
							t.Fatal(tellQuery(q), r)
						}
					}
				}
			}
		}
	}
	if count[true] < 50 || count[false] < 200 {
		t.Error(count)
	}
}

func TestP112RowsThatMeetNone(t *testing.T) {
	source := rand.New(rand.NewSource(128))
	stays, meets := 0, 0
	for _, b := range queryBases() {
		for range 25 {
			m := queryMaker{source: source, base: b, joins: true}
			from := b.Tables[source.Intn(len(b.Tables))]
			join := m.join(from)
			if join.Table == "" {
				continue
			}
			table := b.Tables[tableAt(b, join.Table)]
			join.Outer = false
			in, code := mustQuery(t, b, impl.Query{From: from.Name, Join: join, Limit: -1})
			join.Outer = true
			out, outCode := mustQuery(t, b, impl.Query{From: from.Name, Join: join, Limit: -1})
			if code != 0 || outCode != 0 {
				t.Fatal(code, outCode)
			}
			var want []impl.Row
			for _, r := range impl.BaseRows(b, from.Name) {
				n := len(want)
				for _, x := range in {
					if x.Num == r.Num {
						want = append(want, x)
						meets++
					}
				}
				if len(want) == n {
					want = append(want, impl.Row{Num: r.Num, Vals: append(r.Vals, make([]impl.Value, len(table.Cols))...)})
					stays++
				}
			}
			mustRows(t, out, want, from.Name, join, tellBase(b))
		}
	}
	if stays < 300 || meets < 300 {
		t.Error(stays, meets)
	}
}

func TestP112JoinsWrittenOut(t *testing.T) {
	b := shopBase()
	for _, c := range []struct {
		join  impl.Join
		items []impl.Item
		where string
		want  string
	}{
		{impl.Join{Table: "sale", Mine: "id", Its: "id"}, []impl.Item{{Col: "id"}, {Col: "sale.id"}, {Col: "sale.n"}}, "", "1 1.00 1 2.0 / 2 2.00 2 1.5 / 2 2.00 2 null"},
		{impl.Join{Table: "sale", Mine: "id", Its: "id", Outer: true}, []impl.Item{{Col: "id"}, {Col: "sale.id"}, {Col: "sale.n"}}, "", "1 1.00 1 2.0 / 2 2.00 2 1.5 / 2 2.00 2 null / 3 2.50 null null / 4 null null null / 5 3.00 null null"},
		{impl.Join{Table: "sale", Mine: "id", Its: "id", Outer: true}, []impl.Item{{Col: "kind"}}, "sale.id is null", "3 'a' / 4 'c' / 5 null"},
		{impl.Join{Table: "sale", Mine: "id", Its: "id", Outer: true}, []impl.Item{{Col: "kind"}}, "sale.n > 1", "1 'a' / 2 'b'"},
		{impl.Join{Table: "sale", Mine: "since", Its: "on1"}, []impl.Item{{Col: "kind"}, {Col: "sale.n"}}, "", "1 'a' 2.0 / 1 'a' 1.0 / 2 'b' 1.5 / 2 'b' null / 4 'c' 2.0 / 4 'c' 1.0"},
		{impl.Join{Table: "sale", Mine: "id", Its: "n"}, []impl.Item{{Col: "id"}, {Col: "sale.n"}}, "", "1 1.00 1.0 / 2 2.00 2.0"},
		{impl.Join{Table: "item", Mine: "is1", Its: "is1"}, []impl.Item{{Col: "kind"}, {Col: "item.kind"}}, "", "1 'a' 'a' / 1 'a' 'c' / 2 'b' 'b' / 4 'c' 'a' / 4 'c' 'c'"},
		{impl.Join{Table: "item", Mine: "is1", Its: "is1", Outer: true}, []impl.Item{{Col: "kind"}, {Col: "item.kind"}}, "kind = 'a'", "1 'a' 'a' / 1 'a' 'c' / 3 'a' null"},
	} {
		q := impl.Query{From: "item", Join: c.join, Items: c.items, Limit: -1}
		if c.where != "" {
			q.Where = exprOf(c.where)
		}
		rows, code := mustQuery(t, b, q)
		if code != 0 || tellRows(rows) != c.want {
			t.Errorf("%s: %d %s, want %s", tellQuery(q), code, tellRows(rows), c.want)
		}
		// By what stands in the second table, those that are alike as they were.
		q.Sorts = []impl.Sort{{Col: c.join.Table + "." + c.join.Its, Down: true}, {Col: "since"}}
		mustQuery(t, b, q)
		if plan := impl.PlanOf(b, q); plan != (impl.Plan{}) {
			t.Error(plan)
		}
	}
	// Without items all columns of both are answered.
	rows, _ := mustQuery(t, b, impl.Query{From: "item", Join: impl.Join{Table: "sale", Mine: "id", Its: "id"}, Limit: 1})
	if got := tellRows(rows); got != "1 1.00 'a' @2024-01-31 true 1 2.0 @2024-01-31 #0m1d" {
		t.Error(got)
	}
	// Tables without rows, at either end.
	empty := mustDo(b, inTable("none1", impl.Col{Name: "id", Type: typeOf("num(1,0)")}))
	for _, outer := range bothWays {
		if rows, code := mustQuery(t, empty, impl.Query{From: "none1", Join: impl.Join{Table: "item", Mine: "id", Its: "id", Outer: outer}, Limit: -1}); code != 0 || len(rows) != 0 {
			t.Error(rows, code)
		}
		rows, code := mustQuery(t, empty, impl.Query{From: "item", Items: []impl.Item{{Col: "none1.id"}}, Join: impl.Join{Table: "none1", Mine: "id", Its: "id", Outer: outer}, Limit: -1})
		if want := map[bool]string{true: "1 null / 2 null / 3 null / 4 null / 5 null"}[outer]; code != 0 || tellRows(rows) != want {
			t.Error(rows, code)
		}
	}
}

// Codes of queries, each told ahead of those behind it.
func TestP113CodesOfQueries(t *testing.T) {
	b := shopBase()
	join := impl.Join{Table: "sale", Mine: "id", Its: "id"}
	sorts := func(names ...string) []impl.Sort {
		var list []impl.Sort
		for _, name := range names {
			list = append(list, impl.Sort{Col: name})
		}
		return list
	}
	items := func(names ...string) []impl.Item {
		var list []impl.Item
		for _, name := range names {
			list = append(list, impl.Item{Col: name})
		}
		return list
	}
	for _, c := range []struct {
		q    impl.Query
		want int
	}{
		{impl.Query{From: "item", Limit: -1}, 0},
		{impl.Query{From: "item"}, 0},
		{impl.Query{From: "item", Limit: 9999}, 0},
		{impl.Query{From: "item", Limit: 10000}, 1},
		{impl.Query{From: "item", Limit: -2}, 1},
		{impl.Query{From: "item", Items: items("id", "id", "kind", "is1")}, 0},
		{impl.Query{From: "item", Items: items("id", "id", "kind", "is1", "id")}, 1},
		{impl.Query{From: "item", Sorts: sorts("id", "kind")}, 0},
		{impl.Query{From: "item", Sorts: sorts("id", "id")}, 0},
		{impl.Query{From: "item", Sorts: sorts("id", "kind", "is1")}, 1},
		{impl.Query{From: "item", Items: []impl.Item{{}}}, 1},
		{impl.Query{From: "item", Items: []impl.Item{{Agg: 1}}}, 0},
		{impl.Query{From: "item", Items: []impl.Item{{Agg: 1, Col: "id"}}}, 1},
		{impl.Query{From: "item", Items: []impl.Item{{Agg: 2}}}, 1},
		{impl.Query{From: "item", Items: []impl.Item{{Agg: 5}}}, 1},
		{impl.Query{From: "item", Items: []impl.Item{{Agg: 6, Col: "id"}}}, 1},
		{impl.Query{From: "item", Items: []impl.Item{{Agg: -1, Col: "id"}}}, 1},
		{impl.Query{From: "item", Join: impl.Join{Mine: "id"}}, 1},
		{impl.Query{From: "item", Join: impl.Join{Its: "id"}}, 1},
		{impl.Query{From: "item", Join: impl.Join{Outer: true}}, 1},
		{impl.Query{From: "item", Where: []impl.Part{{Op: opNot}}}, 1},
		{impl.Query{From: "item", Where: []impl.Part{}}, 0},
		{impl.Query{From: "none", Where: []impl.Part{{Op: opNot}}}, 1},
		{impl.Query{}, 2},
		{impl.Query{From: "none"}, 2},
		{impl.Query{From: "ITEM"}, 2},
		{impl.Query{From: "none", Items: items("q")}, 2},
		{impl.Query{From: "item", Join: impl.Join{Table: "none", Mine: "id", Its: "id"}}, 2},
		{impl.Query{From: "none", Join: join}, 2},
		{impl.Query{From: "item", Join: join}, 0},
		{impl.Query{From: "item", Join: impl.Join{Table: "sale", Its: "id"}}, 3},
		{impl.Query{From: "item", Join: impl.Join{Table: "sale", Mine: "id"}}, 3},
		{impl.Query{From: "item", Join: impl.Join{Table: "sale", Mine: "n", Its: "id"}}, 3},
		{impl.Query{From: "item", Join: impl.Join{Table: "sale", Mine: "id", Its: "kind"}}, 3},
		{impl.Query{From: "item", Join: impl.Join{Table: "sale", Mine: "id", Its: "sale.id"}}, 3},
		{impl.Query{From: "item", Join: impl.Join{Table: "sale", Mine: "item.id", Its: "id"}}, 3},
		{impl.Query{From: "item", Join: impl.Join{Table: "sale", Mine: "kind", Its: "id"}, Items: items("q")}, 4},
		{impl.Query{From: "item", Join: impl.Join{Table: "sale", Mine: "since", Its: "long"}}, 4},
		{impl.Query{From: "item", Join: impl.Join{Table: "sale", Mine: "id", Its: "n"}}, 0},
		{impl.Query{From: "item", Items: items("q")}, 3},
		{impl.Query{From: "item", Items: items("id", "item.id")}, 3},
		{impl.Query{From: "item", Items: items("sale.id")}, 3},
		{impl.Query{From: "item", Join: join, Items: items("sale.id", "id")}, 0},
		{impl.Query{From: "item", Join: join, Items: items("n")}, 3},
		{impl.Query{From: "item", Join: join, Items: items("item.id")}, 3},
		{impl.Query{From: "item", Join: join, Items: items("sale.kind")}, 3},
		{impl.Query{From: "item", Items: []impl.Item{{Agg: 2, Col: "q"}}}, 3},
		{impl.Query{From: "item", Sorts: sorts("q")}, 3},
		{impl.Query{From: "item", Sorts: sorts("")}, 3},
		{impl.Query{From: "item", Group: "q", Items: []impl.Item{{Agg: 1}}}, 3},
		{impl.Query{From: "item", Group: "q"}, 3},
		{impl.Query{From: "item", Where: exprOf("q = 1")}, 3},
		{impl.Query{From: "item", Where: exprOf("q + true = 1")}, 3},
		{impl.Query{From: "item", Where: exprOf("item.id = 1")}, 3},
		{impl.Query{From: "item", Join: join, Where: exprOf("sale.id = id")}, 0},
		{impl.Query{From: "item", Join: join, Where: exprOf("n = 1")}, 3},
		{impl.Query{From: "item", Items: []impl.Item{{Agg: 2, Col: "kind"}}}, 4},
		{impl.Query{From: "item", Items: []impl.Item{{Agg: 3, Col: "since"}}}, 4},
		{impl.Query{From: "item", Items: []impl.Item{{Agg: 2, Col: "is1"}, {Col: "id"}}}, 4},
		{impl.Query{From: "item", Items: []impl.Item{{Agg: 4, Col: "is1"}, {Agg: 5, Col: "kind"}}}, 0},
		{impl.Query{From: "item", Where: exprOf("id")}, 4},
		{impl.Query{From: "item", Where: exprOf("id + 1")}, 4},
		{impl.Query{From: "item", Where: exprOf("kind")}, 4},
		{impl.Query{From: "item", Where: exprOf("id = kind")}, 4},
		{impl.Query{From: "item", Where: exprOf("kind and true")}, 4},
		{impl.Query{From: "item", Where: exprOf("is1")}, 0},
		{impl.Query{From: "item", Where: exprOf("null")}, 0},
		{impl.Query{From: "item", Where: exprOf("null + 1")}, 0},
		{impl.Query{From: "item", Where: exprOf("id"), Group: "id"}, 4},
		{impl.Query{From: "item", Group: "id"}, 5},
		{impl.Query{From: "item", Group: "id", Items: items("id")}, 0},
		{impl.Query{From: "item", Group: "id", Items: items("kind")}, 5},
		{impl.Query{From: "item", Group: "id", Items: items("id"), Sorts: sorts("id")}, 5},
		{impl.Query{From: "item", Items: []impl.Item{{Agg: 1}, {Col: "id"}}}, 5},
		{impl.Query{From: "item", Items: []impl.Item{{Agg: 1}}, Sorts: sorts("id")}, 5},
		{impl.Query{From: "item", Join: join, Group: "sale.id", Items: items("sale.id")}, 0},
		{impl.Query{From: "item", Join: join, Group: "sale.id", Items: items("id")}, 5},
	} {
		rows, code := mustQuery(t, b, c.q)
		if impl.QueryCode(b, c.q) != c.want || code != c.want || c.want != 0 && (len(rows) > 0 || impl.PlanOf(b, c.q) != impl.Plan{}) {
			t.Errorf("%s: %d, want %d", tellQuery(c.q), code, c.want)
		}
	}
	for _, n := range badInts {
		mustQuery(t, b, impl.Query{From: "item", Limit: n})
		mustQuery(t, b, impl.Query{From: "item", Items: []impl.Item{{Agg: n, Col: "id"}}})
		mustQuery(t, b, impl.Query{From: "item", Items: []impl.Item{{Agg: n}}})
	}
	for _, e := range badExprs() {
		if _, code := mustQuery(t, b, impl.Query{From: "item", Where: e}); code != 1 && len(e) > 0 {
			t.Fatal(e, code)
		}
	}
	for _, name := range badNames() {
		mustQuery(t, b, impl.Query{From: name})
		mustQuery(t, b, impl.Query{From: "item", Items: items(name)})
		mustQuery(t, b, impl.Query{From: "item", Group: name, Items: []impl.Item{{Agg: 1}}})
		mustQuery(t, b, impl.Query{From: "item", Sorts: sorts(name)})
		mustQuery(t, b, impl.Query{From: "item", Join: impl.Join{Table: name, Mine: "id", Its: "id"}})
	}
}

func TestP113BasesThatAreNotOk(t *testing.T) {
	for _, b := range badBases() {
		for _, q := range []impl.Query{{From: "t", Limit: -1}, {From: "none"}, {From: "t", Where: exprOf("a = 1")}, {From: "t", Items: []impl.Item{{Agg: 1}}}} {
			slow, slowCode := impl.QuerySlow(b, q)
			fast, fastCode := impl.QueryFast(b, q)
			if impl.QueryCode(b, q) != 1 || slowCode != 1 || fastCode != 1 || len(slow)+len(fast) > 0 || impl.PlanOf(b, q) != (impl.Plan{}) {
				t.Fatal(tellQuery(q), tellBase(b))
			}
		}
	}
	if _, code := mustQuery(t, newBase(), impl.Query{From: "t"}); code != 2 {
		t.Error(code)
	}
}
