package tests

import (
	"fmt"
	"math/rand"
	"regexp"
	"slices"
	"strings"
	"testing"

	"loop.example/jetton/impl"
)

// The second base: what a change does to the tree is a list of steps, done by the second tree; rows are read from its
// pairs by forms; whether an index has all but once is asked of the values, not of their keys.

// reserved is the words that are no names.
var reserved = []string{
	"and", "avg", "begin", "bool", "by", "commit", "count", "day", "delete", "down", "drop", "false", "from", "group", "index", "insert", "is", "join", "least", "limit", "most", "must",
	"not", "null", "num", "on", "only", "or", "order", "outer", "rollback", "select", "set", "span", "sum", "table", "text", "true", "update", "where",
}

var nameForm = regexp.MustCompile(`^[a-z][a-z0-9]{0,7}$`)

func wantName(s string) bool {
	return nameForm.MatchString(s) && !strings.Contains(s, "\n") && !slices.Contains(reserved, s)
}

func wantColsOk(cols []impl.Col) bool {
	names := map[string]bool{}
	for _, c := range cols {
		if !wantName(c.Name) || !impl.TypeOk(c.Type) {
			return false
		}
		names[c.Name] = true
	}
	return len(names) == len(cols) && len(cols) >= 1 && len(cols) <= 4
}

func wantIndexOk(cols []impl.Col, x impl.Index) bool {
	places := map[int]bool{}
	for _, col := range x.Cols {
		if col < 0 || col >= len(cols) {
			return false
		}
		places[col] = true
	}
	return wantName(x.Name) && len(places) == len(x.Cols) && len(x.Cols) == len(x.Downs) && (len(x.Cols) == 1 || len(x.Cols) == 2)
}

func wantTableOk(t impl.Table) bool {
	names := map[string]bool{}
	for _, x := range t.Indexes {
		if !wantColsOk(t.Cols) || !wantIndexOk(t.Cols, x) {
			return false
		}
		names[x.Name] = true
	}
	return wantName(t.Name) && wantColsOk(t.Cols) && len(names) == len(t.Indexes) && len(names) <= 2 && t.Next >= 1 && t.Next <= 10000
}

func sameIndex(a, b impl.Index) bool {
	return a.Name == b.Name && slices.Equal(a.Cols, b.Cols) && slices.Equal(a.Downs, b.Downs) && a.Only == b.Only
}

func sameTable(a, b impl.Table) bool {
	return a.Name == b.Name && slices.Equal(a.Cols, b.Cols) && slices.EqualFunc(a.Indexes, b.Indexes, sameIndex) && a.Next == b.Next
}

func sameBase(a, b impl.Base) bool {
	return slices.EqualFunc(a.Tables, b.Tables, sameTable) && sameTree(a.Tree, b.Tree)
}

func noBase(b impl.Base) bool {
	return sameBase(b, impl.Base{})
}

func sameRows(a, b []impl.Row) bool {
	return slices.EqualFunc(a, b, func(x, y impl.Row) bool { return x.Num == y.Num && sameRow(x.Vals, y.Vals) })
}

func copyTable(t impl.Table) impl.Table {
	x := impl.Table{Name: t.Name, Cols: slices.Clone(t.Cols), Next: t.Next}
	for _, ix := range t.Indexes {
		x.Indexes = append(x.Indexes, impl.Index{Name: ix.Name, Cols: slices.Clone(ix.Cols), Downs: slices.Clone(ix.Downs), Only: ix.Only})
	}
	return x
}

func copyBase(b impl.Base) impl.Base {
	x := impl.Base{Tree: copyTree(b.Tree)}
	for _, t := range b.Tables {
		x.Tables = append(x.Tables, copyTable(t))
	}
	return x
}

// tellBase is a base in a few words.
func tellBase(b impl.Base) string {
	return fmt.Sprintf("%v; %s", b.Tables, tellTree(b.Tree))
}

func mustBase(t *testing.T, got impl.Base, gotCode int, want impl.Base, wantCode int, what ...any) {
	t.Helper()
	if gotCode != wantCode || !sameBase(got, want) {
		t.Fatalf("%.2000v: %d, want %d\n%s\n%s", what, gotCode, wantCode, tellBase(got), tellBase(want))
	}
}

// tableAt is the place of a table; -1, if there is none.
func tableAt(b impl.Base, name string) int {
	return slices.IndexFunc(b.Tables, func(t impl.Table) bool { return t.Name == name })
}

// indexAt is the place of an index.
func indexAt(t impl.Table, name string) int {
	return slices.IndexFunc(t.Indexes, func(x impl.Index) bool { return x.Name == name })
}

func typesOf(t impl.Table) []impl.Type {
	var types []impl.Type
	for _, c := range t.Cols {
		types = append(types, c.Type)
	}
	return types
}

func wantRowKey(table string, num int) string {
	return fmt.Sprintf("r%s.%04d", table, num)
}

// wantIndexPart is what an index's key of a row has behind its head.
func wantIndexPart(x impl.Index, r impl.Row) string {
	key := ""
	for i, col := range x.Cols {
		key += wantKey(r.Vals[col], x.Downs[i])
	}
	return key + fmt.Sprintf("%04d", r.Num)
}

func wantIndexKey(table string, x impl.Index, r impl.Row) string {
	return "x" + table + "." + x.Name + "." + wantIndexPart(x, r)
}

var rowForm = regexp.MustCompile(`^r([a-z0-9]+)\.([0-9]{4})$`)

// wantTableRows is all rows of a table, as its pairs tell; false, if one of them is none.
func wantTableRows(b impl.Base, t impl.Table) ([]impl.Row, bool) {
	var rows []impl.Row
	for _, p := range wantPairs(b.Tree) {
		found := rowForm.FindStringSubmatch(p.Key)
		if found == nil || found[1] != t.Name {
			continue
		}
		vals, ok := impl.RowGet(typesOf(t), p.Val)
		if !ok {
			return nil, false
		}
		rows = append(rows, impl.Row{Num: atoi(found[2]), Vals: vals})
	}
	return rows, true
}

// wantLacks says whether a row lacks a value that must be there.
func wantLacks(t impl.Table, vals []impl.Value) bool {
	for i, c := range t.Cols {
		if c.Must && vals[i].Kind == 0 {
			return true
		}
	}
	return false
}

// wantAlike says whether two rows cannot both be there, by one index.
func wantAlike(x impl.Index, a, b []impl.Value) bool {
	for _, col := range x.Cols {
		if a[col].Kind == 0 || b[col].Kind == 0 || wantOrder(a[col], b[col]) != 0 {
			return false
		}
	}
	return x.Only
}

// wantBarred says whether another row bars one.
func wantBarred(t impl.Table, rows []impl.Row, r impl.Row) bool {
	for _, x := range t.Indexes {
		for _, other := range rows {
			if other.Num != r.Num && wantAlike(x, other.Vals, r.Vals) {
				return true
			}
		}
	}
	return false
}

func wantBaseOk(b impl.Base) bool {
	names := map[string]bool{}
	for _, t := range b.Tables {
		if !wantTableOk(t) {
			return false
		}
		names[t.Name] = true
	}
	if len(names) != len(b.Tables) || len(names) > 3 || !wantTreeOk(b.Tree) {
		return false
	}
	left := map[string]string{}
	for _, p := range wantPairs(b.Tree) {
		left[p.Key] = p.Val
	}
	for _, t := range b.Tables {
		rows, ok := wantTableRows(b, t)
		if !ok {
			return false
		}
		for _, r := range rows {
			if r.Num < 1 || r.Num >= t.Next || wantLacks(t, r.Vals) || wantBarred(t, rows, r) {
				return false
			}
			delete(left, wantRowKey(t.Name, r.Num))
			for _, x := range t.Indexes {
				val, is := left[wantIndexKey(t.Name, x, r)]
				if !is || val != "" {
					return false
				}
				delete(left, wantIndexKey(t.Name, x, r))
			}
		}
	}
	return len(left) == 0
}

// treeStep is a key that comes, with its text, or goes.
type treeStep struct {
	goes bool
	key  string
	val  string
}

// wantSteps is a base behind steps to its tree; false, if that was full, and at which of them.
func wantSteps(b impl.Base, steps []treeStep) (impl.Base, bool, int) {
	x := copyBase(b)
	for i, s := range steps {
		code := 0
		if s.goes {
			x.Tree, code = wantTreeDrop(x.Tree, s.key)
		} else {
			x.Tree, code = wantTreePut(x.Tree, s.key, s.val)
		}
		if code != 0 {
			return b, false, i
		}
	}
	return x, true, 0
}

// rowSteps is the keys of a row, that come, or go.
func rowSteps(t impl.Table, r impl.Row, goes bool) []treeStep {
	steps := []treeStep{{goes: goes, key: wantRowKey(t.Name, r.Num), val: wantLines(r.Vals)}}
	for _, x := range t.Indexes {
		steps = append(steps, treeStep{goes: goes, key: wantIndexKey(t.Name, x, r)})
	}
	return steps
}

func newBase() impl.Base {
	return impl.Base{Tree: emptyTree()}
}

func wantTable(b impl.Base, name string, cols []impl.Col) (impl.Base, int) {
	switch {
	case !wantBaseOk(b):
		return impl.Base{}, 1
	case !wantName(name) || !wantColsOk(cols):
		return b, 1
	case tableAt(b, name) >= 0:
		return b, 3
	case len(b.Tables) == 3:
		return b, 7
	}
	x := copyBase(b)
	x.Tables = append(x.Tables, impl.Table{Name: name, Cols: slices.Clone(cols), Next: 1})
	return x, 0
}

func wantGone(b impl.Base, table string) (impl.Base, int) {
	if !wantBaseOk(b) {
		return impl.Base{}, 1
	}
	at := tableAt(b, table)
	if at < 0 {
		return b, 2
	}
	rows, _ := wantTableRows(b, b.Tables[at])
	var steps []treeStep
	for _, r := range rows {
		steps = append(steps, rowSteps(b.Tables[at], r, true)...)
	}
	x, _, _ := wantSteps(b, steps)
	x.Tables = slices.Delete(x.Tables, at, at+1)
	return x, 0
}

func wantIndex(b impl.Base, table string, ix impl.Index) (impl.Base, int) {
	if !wantBaseOk(b) {
		return impl.Base{}, 1
	}
	at := tableAt(b, table)
	switch {
	case at < 0:
		return b, 2
	case !wantIndexOk(b.Tables[at].Cols, ix):
		return b, 1
	case indexAt(b.Tables[at], ix.Name) >= 0:
		return b, 3
	case len(b.Tables[at].Indexes) == 2:
		return b, 7
	}
	rows, _ := wantTableRows(b, b.Tables[at])
	var steps []treeStep
	for _, r := range rows {
		if wantBarred(impl.Table{Indexes: []impl.Index{ix}}, rows, r) {
			return b, 6
		}
		steps = append(steps, treeStep{key: wantIndexKey(table, ix, r)})
	}
	x, ok, _ := wantSteps(b, steps)
	if !ok {
		return b, 7
	}
	x.Tables[at].Indexes = append(x.Tables[at].Indexes, impl.Index{Name: ix.Name, Cols: slices.Clone(ix.Cols), Downs: slices.Clone(ix.Downs), Only: ix.Only})
	return x, 0
}

func wantLess(b impl.Base, table, index string) (impl.Base, int) {
	if !wantBaseOk(b) {
		return impl.Base{}, 1
	}
	at := tableAt(b, table)
	if at < 0 || indexAt(b.Tables[at], index) < 0 {
		return b, 2
	}
	place := indexAt(b.Tables[at], index)
	rows, _ := wantTableRows(b, b.Tables[at])
	var steps []treeStep
	for _, r := range rows {
		steps = append(steps, treeStep{goes: true, key: wantIndexKey(table, b.Tables[at].Indexes[place], r)})
	}
	x, _, _ := wantSteps(b, steps)
	x.Tables[at].Indexes = slices.Delete(x.Tables[at].Indexes, place, place+1)
	return x, 0
}

// wantRowCode is the code of a row that is to be in a table.
func wantRowCode(b impl.Base, t impl.Table, r impl.Row) int {
	rows, _ := wantTableRows(b, t)
	switch {
	case !impl.RowOk(typesOf(t), r.Vals):
		return 4
	case wantLacks(t, r.Vals):
		return 5
	case wantBarred(t, rows, r):
		return 6
	}
	return 0
}

func wantInsert(b impl.Base, table string, vals []impl.Value) (impl.Base, int) {
	if !wantBaseOk(b) {
		return impl.Base{}, 1
	}
	at := tableAt(b, table)
	if at < 0 {
		return b, 2
	}
	t := b.Tables[at]
	r := impl.Row{Num: t.Next, Vals: vals}
	if code := wantRowCode(b, t, r); code != 0 {
		return b, code
	}
	x, ok, _ := wantSteps(b, rowSteps(t, r, false))
	if !ok || t.Next > 9999 {
		return b, 7
	}
	x.Tables[at].Next++
	return x, 0
}

// wantRow is the row of a number.
func wantRow(b impl.Base, t impl.Table, num int) (impl.Row, bool) {
	rows, _ := wantTableRows(b, t)
	for _, r := range rows {
		if r.Num == num {
			return r, true
		}
	}
	return impl.Row{}, false
}

func wantDelete(b impl.Base, table string, num int) (impl.Base, int) {
	if !wantBaseOk(b) {
		return impl.Base{}, 1
	}
	at := tableAt(b, table)
	if at < 0 {
		return b, 2
	}
	r, is := wantRow(b, b.Tables[at], num)
	if !is {
		return b, 2
	}
	x, _, _ := wantSteps(b, rowSteps(b.Tables[at], r, true))
	return x, 0
}

// setSteps is what goes and comes, when a row is set.
func setSteps(t impl.Table, elder, newer impl.Row) []treeStep {
	steps := []treeStep{{key: wantRowKey(t.Name, newer.Num), val: wantLines(newer.Vals)}}
	for _, x := range t.Indexes {
		was, now := wantIndexKey(t.Name, x, elder), wantIndexKey(t.Name, x, newer)
		if was != now {
			steps = append(steps, treeStep{goes: true, key: was}, treeStep{key: now})
		}
	}
	return steps
}

func wantSet(b impl.Base, table string, num int, vals []impl.Value) (impl.Base, int) {
	if !wantBaseOk(b) {
		return impl.Base{}, 1
	}
	at := tableAt(b, table)
	if at < 0 {
		return b, 2
	}
	t := b.Tables[at]
	elder, is := wantRow(b, t, num)
	if !is {
		return b, 2
	}
	newer := impl.Row{Num: num, Vals: vals}
	if code := wantRowCode(b, t, newer); code != 0 {
		return b, code
	}
	x, ok, _ := wantSteps(b, setSteps(t, elder, newer))
	if !ok {
		return b, 7
	}
	return x, 0
}

// wantBaseRows is all rows of a table.
func wantBaseRows(b impl.Base, table string) []impl.Row {
	at := tableAt(b, table)
	if !wantBaseOk(b) || at < 0 {
		return nil
	}
	rows, _ := wantTableRows(b, b.Tables[at])
	return rows
}

// wantSeek is the rows of which the part of the key behind the head is in a range, by that part.
func wantSeek(b impl.Base, table, index, low, high string) []impl.Row {
	rows := wantBaseRows(b, table)
	at := tableAt(b, table)
	if !wantBaseOk(b) || at < 0 || indexAt(b.Tables[at], index) < 0 {
		return nil
	}
	x := b.Tables[at].Indexes[indexAt(b.Tables[at], index)]
	rows = slices.DeleteFunc(rows, func(r impl.Row) bool {
		part := wantIndexPart(x, r)
		return part < low || high != "" && part >= high
	})
	slices.SortFunc(rows, func(a, b impl.Row) int { return strings.Compare(wantIndexPart(x, a), wantIndexPart(x, b)) })
	return rows
}

// wantPages writes all by one form each.
func wantPages(b impl.Base) []string {
	if !wantBaseOk(b) {
		return nil
	}
	first := fmt.Sprintf("root %d\n", b.Tree.Root)
	for _, t := range b.Tables {
		first += fmt.Sprintf("table %s %d\n", t.Name, t.Next)
		for _, c := range t.Cols {
			first += fmt.Sprintf("col %s %s%s\n", c.Name, impl.TypePut(c.Type), map[bool]string{true: " must"}[c.Must])
		}
		for _, x := range t.Indexes {
			first += fmt.Sprintf("index %s%s", x.Name, map[bool]string{true: " only"}[x.Only])
			for i, col := range x.Cols {
				first += fmt.Sprintf(" %s%d", map[bool]string{false: "+", true: "-"}[x.Downs[i]], col)
			}
			first += "\n"
		}
	}
	pages := []string{first}
	for _, n := range b.Tree.Nodes {
		pages = append(pages, wantNodePut(n))
	}
	return pages
}

func typeOf(s string) impl.Type {
	t, ok := impl.TypeGet(s)
	if !ok {
		panic(s)
	}
	return t
}

func valueOf(s string) impl.Value {
	v, ok := impl.ValueGet(s)
	if !ok {
		panic(s)
	}
	return v
}

func rowOf(texts ...string) []impl.Value {
	var row []impl.Value
	for _, s := range texts {
		row = append(row, valueOf(s))
	}
	return row
}

// colKind is a type, and texts of values that fit it: few, so that rows are often alike.
type colKind struct {
	kind   string
	values []string
}

func colKinds() []colKind {
	return []colKind{
		{"num(3,1)", []string{"0.0", "1.5", "-1.5", "99.9", "10.0"}},
		{"text", []string{"''", "'a'", "'ab'", "'b'", "'~'"}},
		{"bool", []string{"false", "true"}},
		{"day", []string{"@0001-01-01", "@2024-02-29", "@9999-12-31"}},
		{"span", []string{"#0m0d", "#-1m0d", "#120000m4000000d"}},
		{"num(30,12)", []string{"999999999999999999.999999999999", "-123456789012345678.123456789012", "0.000000000000", "0.000000000001"}},
	}
}

// madeCols is columns, some of which must have a value.
func madeCols(source *rand.Rand) []impl.Col {
	kinds := colKinds()
	var cols []impl.Col
	for i := range 1 + source.Intn(4) {
		cols = append(cols, impl.Col{Name: []string{"a", "b2", "selects", "eightbyt"}[i], Type: typeOf(kinds[source.Intn(len(kinds))].kind), Must: source.Intn(4) == 0})
	}
	return cols
}

// madeVals is a row of a table's columns; seldom it is none, or lacks a value that must be there.
func madeVals(source *rand.Rand, cols []impl.Col) []impl.Value {
	var vals []impl.Value
	for _, c := range cols {
		kinds := colKinds()
		k := kinds[slices.IndexFunc(kinds, func(k colKind) bool { return typeOf(k.kind) == c.Type })]
		v := valueOf(k.values[source.Intn(len(k.values))])
		if source.Intn(12) == 0 || !c.Must && source.Intn(4) == 0 {
			v = impl.Value{}
		}
		if source.Intn(60) == 0 {
			v = valueOf([]string{"1", "'b'", "@2024-02-28", "true"}[source.Intn(4)])
		}
		vals = append(vals, v)
	}
	if source.Intn(60) == 0 {
		vals = vals[1:]
	}
	return vals
}

// madeIndex is an index; seldom it is not ok.
func madeIndex(source *rand.Rand, cols int) impl.Index {
	x := impl.Index{Name: []string{"i", "j", "longname"}[source.Intn(3)], Only: source.Intn(3) == 0}
	for _, col := range source.Perm(cols)[:min(cols, 1+source.Intn(2))] {
		x.Cols, x.Downs = append(x.Cols, col), append(x.Downs, source.Intn(2) == 1)
	}
	switch source.Intn(20) {
	case 0:
		x.Cols[0] = cols
	case 1:
		x.Downs = nil
	}
	return x
}

// tableNames is the names that tables have here; the last one is no table's.
var tableNames = []string{"t", "t2", "t2a", "longname", "none"}

// baseCall is one change, by the program and by the second base.
type baseCall struct {
	name string
	got  func(b impl.Base) (impl.Base, int)
	want func(b impl.Base) (impl.Base, int)
}

// madeCall is any change to a base, more often one that fills it.
func madeCall(source *rand.Rand, b impl.Base) baseCall {
	table := tableNames[source.Intn(len(tableNames))]
	cols := madeCols(source)
	if len(b.Tables) > 0 && source.Intn(10) > 0 {
		table = b.Tables[source.Intn(len(b.Tables))].Name
	}
	index := []string{"i", "j", "longname", "none"}[source.Intn(4)]
	if at := tableAt(b, table); at >= 0 {
		cols = b.Tables[at].Cols
		if n := len(b.Tables[at].Indexes); n > 0 && source.Intn(8) > 0 {
			index = b.Tables[at].Indexes[source.Intn(n)].Name
		}
	}
	vals, num := madeVals(source, cols), 1+source.Intn(14)
	if rows := wantBaseRows(b, table); len(rows) > 0 && source.Intn(8) > 0 {
		num = rows[source.Intn(len(rows))].Num
	}
	switch n := source.Intn(32); {
	case n < 2 || len(b.Tables) == 0:
		table = tableNames[source.Intn(4)]
		return baseCall{"table " + table, func(b impl.Base) (impl.Base, int) { return impl.BaseTable(b, table, cols) }, func(b impl.Base) (impl.Base, int) { return wantTable(b, table, cols) }}
	case n < 3:
		return baseCall{"gone " + table, func(b impl.Base) (impl.Base, int) { return impl.BaseGone(b, table) }, func(b impl.Base) (impl.Base, int) { return wantGone(b, table) }}
	case n < 6:
		ix := madeIndex(source, len(cols))
		return baseCall{fmt.Sprint("index ", table, ix), func(b impl.Base) (impl.Base, int) { return impl.BaseIndex(b, table, ix) }, func(b impl.Base) (impl.Base, int) { return wantIndex(b, table, ix) }}
	case n < 7:
		return baseCall{"less " + table + " " + index, func(b impl.Base) (impl.Base, int) { return impl.BaseLess(b, table, index) }, func(b impl.Base) (impl.Base, int) { return wantLess(b, table, index) }}
	case n < 10:
		return baseCall{fmt.Sprint("delete ", table, num), func(b impl.Base) (impl.Base, int) { return impl.BaseDelete(b, table, num) }, func(b impl.Base) (impl.Base, int) { return wantDelete(b, table, num) }}
	case n < 16:
		return baseCall{fmt.Sprint("set ", table, num, vals), func(b impl.Base) (impl.Base, int) { return impl.BaseSet(b, table, num, vals) }, func(b impl.Base) (impl.Base, int) { return wantSet(b, table, num, vals) }}
	}
	return baseCall{fmt.Sprint("insert ", table, vals), func(b impl.Base) (impl.Base, int) { return impl.BaseInsert(b, table, vals) }, func(b impl.Base) (impl.Base, int) { return wantInsert(b, table, vals) }}
}

// mustDo is a base behind steps of the second base that must all be fine.
func mustDo(b impl.Base, calls ...func(b impl.Base) (impl.Base, int)) impl.Base {
	for i, call := range calls {
		x, code := call(b)
		if code != 0 {
			panic(fmt.Sprint(i, code))
		}
		b = x
	}
	return b
}

func inTable(name string, cols ...impl.Col) func(b impl.Base) (impl.Base, int) {
	return func(b impl.Base) (impl.Base, int) { return wantTable(b, name, cols) }
}

func inIndex(table string, x impl.Index) func(b impl.Base) (impl.Base, int) {
	return func(b impl.Base) (impl.Base, int) { return wantIndex(b, table, x) }
}

func inRow(table string, texts ...string) func(b impl.Base) (impl.Base, int) {
	return func(b impl.Base) (impl.Base, int) { return wantInsert(b, table, rowOf(texts...)) }
}

// twoIndexes is a table of numbers and texts with an index by each, the second of which has all but once.
func twoIndexes() impl.Base {
	return mustDo(newBase(),
		inTable("t", impl.Col{Name: "a", Type: typeOf("num(5,2)"), Must: true}, impl.Col{Name: "b", Type: typeOf("text")}),
		inIndex("t", impl.Index{Name: "i", Cols: []int{0}, Downs: []bool{false}}),
		inIndex("t", impl.Index{Name: "j", Cols: []int{1}, Downs: []bool{true}, Only: true}),
		inRow("t", "1.00", "'x'"), inRow("t", "1.00", "null"), inRow("t", "-1.00", "null"), inRow("t", "2.50", "'y'"))
}

// longestBase has the longest names, rows and keys.
func longestBase() impl.Base {
	num := typeOf("num(30,12)")
	cols := []impl.Col{{Name: "aaaaaaaa", Type: num, Must: true}, {Name: "bbbbbbbb", Type: num}, {Name: "cccccccc", Type: num}, {Name: "dddddddd", Type: num, Must: true}}
	most := "-999999999999999999.999999999999"
	b := newBase()
	for _, name := range []string{"xxxxxxxx", "yyyyyyyy", "zzzzzzzz"} {
		b = mustDo(b, inTable(name, cols...),
			inIndex(name, impl.Index{Name: "iiiiiiii", Cols: []int{3, 0}, Downs: []bool{true, false}, Only: true}),
			inIndex(name, impl.Index{Name: "jjjjjjjj", Cols: []int{1, 2}, Downs: []bool{false, true}, Only: true}),
			inRow(name, most, most, most, most), inRow(name, most, most, "null", most[:31]+"8"))
	}
	return b
}

// withNext is a base whose first table has another next number.
func withNext(b impl.Base, next int) impl.Base {
	x := copyBase(b)
	x.Tables[0].Next = next
	return x
}

// someBases is bases that are ok, with few and with many rows.
func someBases() []impl.Base {
	list := []impl.Base{
		newBase(), twoIndexes(), longestBase(), withNext(twoIndexes(), 9999), withNext(twoIndexes(), 10000),
		mustDo(newBase(), inTable("t", impl.Col{Name: "a", Type: typeOf("bool")})),
		mustDo(newBase(), inTable("t", impl.Col{Name: "a", Type: typeOf("bool")}), inTable("t2", impl.Col{Name: "a", Type: typeOf("day")}), inTable("a", impl.Col{Name: "t", Type: typeOf("span")})),
	}
	source := rand.New(rand.NewSource(30))
	for range 24 {
		b := newBase()
		for i := range 45 {
			b, _ = madeCall(source, b).want(b)
			if i%15 == 14 {
				list = append(list, b)
			}
		}
	}
	return list
}

// changedBase is a base with something about it changed.
func changedBase(b impl.Base, by func(b *impl.Base)) impl.Base {
	x := copyBase(b)
	by(&x)
	return x
}

// withPairPut is a base whose tree has one more key, or another text.
func withPairPut(b impl.Base, key, val string) impl.Base {
	return changedBase(b, func(b *impl.Base) { b.Tree, _ = wantTreePut(b.Tree, key, val) })
}

func withKeyGone(b impl.Base, key string) impl.Base {
	return changedBase(b, func(b *impl.Base) { b.Tree, _ = wantTreeDrop(b.Tree, key) })
}

// badNames is texts that are no names.
func badNames() []string {
	return append([]string{"", "A", "aB", "1", "1a", "9", "a.b", "a b", " a", "a ", "a\n", "a_", "a-", "é", "a\x00", "\xff", "aaaaaaaaa", "selectsss", strings.Repeat("a", 1000), "`", "{", "/", ":", "a:", "a`"}, reserved...)
}

// badTables is tables that are not ok, each in one way.
func badTables() []impl.Table {
	var list []impl.Table
	whole := twoIndexes().Tables[0]
	change := func(by func(t *impl.Table)) {
		t := copyTable(whole)
		by(&t)
		list = append(list, t)
	}
	for _, name := range badNames() {
		change(func(t *impl.Table) { t.Name = name })
		change(func(t *impl.Table) { t.Cols[1].Name = name })
		change(func(t *impl.Table) { t.Indexes[0].Name = name })
	}
	for _, kind := range badTypes() {
		change(func(t *impl.Table) { t.Cols[0].Type = kind })
	}
	for _, next := range append([]int{-1, 0, 10001}, badInts...) {
		change(func(t *impl.Table) { t.Next = next })
	}
	for _, cols := range badCols() {
		change(func(t *impl.Table) { t.Cols = cols })
	}
	for _, x := range badIndexes() {
		change(func(t *impl.Table) { t.Indexes[1] = x })
	}
	change(func(t *impl.Table) { t.Indexes[1].Name = t.Indexes[0].Name })
	change(func(t *impl.Table) {
		t.Indexes = append(t.Indexes, impl.Index{Name: "k", Cols: []int{0}, Downs: []bool{true}})
	})
	return append(list, impl.Table{})
}

// badCols is columns that are not ok.
func badCols() [][]impl.Col {
	col := func(name string) impl.Col { return impl.Col{Name: name, Type: impl.Type{Kind: impl.KindText}} }
	return [][]impl.Col{
		nil, {{}}, {col("")}, {col("num")}, {{Name: "a"}}, {{Name: "a", Type: impl.Type{Kind: 2}}}, {col("a"), col("a")}, {col("a"), col("b"), col("a")},
		{col("a"), col("b"), col("c"), col("d"), col("e")}, make([]impl.Col, 1000),
	}
}

// badIndexes is indexes that are not ok for a table of two columns.
func badIndexes() []impl.Index {
	list := []impl.Index{
		{}, {Name: "k"}, {Name: "k", Cols: []int{0}}, {Name: "k", Downs: []bool{true}}, {Cols: []int{0}, Downs: []bool{true}},
		{Name: "k", Cols: []int{0, 1}, Downs: []bool{true}}, {Name: "k", Cols: []int{0}, Downs: []bool{true, false}},
		{Name: "k", Cols: []int{0, 0}, Downs: []bool{true, false}}, {Name: "k", Cols: []int{1, 1}, Downs: []bool{false, false}},
		{Name: "k", Cols: []int{0, 1, 0}, Downs: []bool{true, false, true}}, {Name: "k", Cols: make([]int, 1000), Downs: make([]bool, 1000)},
	}
	for _, name := range badNames() {
		list = append(list, impl.Index{Name: name, Cols: []int{0}, Downs: []bool{false}})
	}
	for _, col := range append([]int{-1, 2, 3}, badInts...) {
		list = append(list, impl.Index{Name: "k", Cols: []int{col}, Downs: []bool{false}}, impl.Index{Name: "k", Cols: []int{1, col}, Downs: []bool{false, true}})
	}
	return list
}

// badBases is bases that are not ok, each in one way.
func badBases() []impl.Base {
	b := twoIndexes()
	table := b.Tables[0]
	rows, _ := wantTableRows(b, table)
	var list []impl.Base
	add := func(x impl.Base) { list = append(list, x) }
	add(impl.Base{})
	add(impl.Base{Tables: b.Tables})
	for _, t := range badTables() {
		add(changedBase(b, func(b *impl.Base) { b.Tables[0] = t }))
		add(impl.Base{Tables: []impl.Table{t}, Tree: emptyTree()})
	}
	for _, x := range badTrees() {
		add(impl.Base{Tree: x})
		add(changedBase(b, func(b *impl.Base) { b.Tree = x }))
	}
	add(changedBase(b, func(b *impl.Base) { b.Tables = nil }))
	add(changedBase(b, func(b *impl.Base) { b.Tables[0].Name = "u" }))
	add(changedBase(b, func(b *impl.Base) { b.Tables = append(b.Tables, copyTable(b.Tables[0])) }))
	other := impl.Table{Name: "t2", Cols: table.Cols, Next: 1}
	add(changedBase(b, func(b *impl.Base) {
		b.Tables = append(b.Tables, other, impl.Table{Name: "t3", Cols: table.Cols, Next: 1}, impl.Table{Name: "t4", Cols: table.Cols, Next: 1})
	}))
	add(changedBase(b, func(b *impl.Base) { b.Tables = make([]impl.Table, 1000) }))
	for next := 1; next <= 4; next++ {
		add(withNext(b, next))
	}
	add(changedBase(b, func(b *impl.Base) { b.Tables[0].Cols[1].Must = true }))
	add(changedBase(b, func(b *impl.Base) { b.Tables[0].Cols[0].Type.Scale = 1 }))
	add(changedBase(b, func(b *impl.Base) { b.Tables[0].Cols[0].Type.Digits = 2 }))
	add(changedBase(b, func(b *impl.Base) {
		b.Tables[0].Cols = append(b.Tables[0].Cols, impl.Col{Name: "c", Type: impl.Type{Kind: 1}})
	}))
	add(changedBase(b, func(b *impl.Base) { b.Tables[0].Cols = b.Tables[0].Cols[:1] }))
	add(changedBase(b, func(b *impl.Base) { b.Tables[0].Indexes = b.Tables[0].Indexes[:1] }))
	add(changedBase(b, func(b *impl.Base) { b.Tables[0].Indexes[0].Downs[0] = true }))
	add(changedBase(b, func(b *impl.Base) { b.Tables[0].Indexes[0].Cols[0] = 1 }))
	add(changedBase(b, func(b *impl.Base) { b.Tables[0].Indexes[0].Name = "k" }))
	add(changedBase(b, func(b *impl.Base) { b.Tables[0].Indexes[0].Only = true }))
	return append(list, badPairBases(b, table, rows)...)
}

// badPairBases is bases of whose tree a key, or a text, is none that it is to have.
func badPairBases(b impl.Base, table impl.Table, rows []impl.Row) []impl.Base {
	var list []impl.Base
	add := func(x impl.Base) { list = append(list, x) }
	for _, r := range rows {
		add(withKeyGone(b, wantRowKey("t", r.Num)))
		for _, x := range table.Indexes {
			key := wantIndexKey("t", x, r)
			add(withKeyGone(b, key))
			add(withPairPut(b, key, "a"))
			add(withPairPut(b, key, " "))
			add(withPairPut(b, key+"0", ""))
			add(withPairPut(b, key[:len(key)-4]+"0009", ""))
			add(withPairPut(withKeyGone(b, key), key[:len(key)-4]+"0000", ""))
		}
		for _, text := range []string{"", "1.00\n", "1.00\n'x'", "1.00\n'x'\n\n", "1.00\n'x'\nnull\n", "null\n'x'\n", "1.0\n'x'\n", "1.000\n'x'\n", "'x'\n1.00\n", " 1.00\n'x'\n", "3.00\n'z'\n", "9999.00\nnull\n"} {
			add(withPairPut(b, wantRowKey("t", r.Num), text))
		}
	}
	for _, key := range []string{"a", "r", "x", "r.", "rt.", "rt", "rt.1", "rt.01", "rt.00001", "rt.00010", "rt.0000", "rt.0009", "rt.9999", "rt.+001", "rt.-001", "rt.000a", "rt.0001 ", "ru.0001", "rT.0001", "Rt.0001", "xt.", "xt.i.", "xt.j.0001", "xt.k.0001", "xu.i.0001", "rt.0005\x00", "s", "\x00", "\xff"} {
		add(withPairPut(b, key, ""))
		add(withPairPut(b, key, "1.00\nnull\n"))
	}
	// A row that is whole, with all its keys, but has no number that it may have, or has what another one has.
	whole := func(num int, texts ...string) {
		x, ok, _ := wantSteps(b, rowSteps(table, impl.Row{Num: num, Vals: rowOf(texts...)}, false))
		if !ok {
			panic("full")
		}
		add(x)
	}
	whole(0, "5.00", "'z'")
	whole(5, "5.00", "'z'")
	whole(9999, "5.00", "'z'")
	add(withNext(list[len(list)-1], 9999))
	twice, _, _ := wantSteps(b, rowSteps(table, impl.Row{Num: 5, Vals: rowOf("5.00", "'y'")}, false))
	add(withNext(twice, 6))
	lacks, _, _ := wantSteps(b, rowSteps(table, impl.Row{Num: 5, Vals: rowOf("null", "'z'")}, false))
	add(withNext(lacks, 6))
	return list
}
