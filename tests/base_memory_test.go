package tests

import (
	"math/rand"
	"reflect"
	"slices"
	"strings"
	"testing"

	"loop.example/jetton/impl"
)

func (l *loan) node(n impl.Node) impl.Node {
	n.Keys = lent(l, n.Keys, "spare")
	n.Vals = lent(l, n.Vals, "spare")
	n.Kids = lent(l, n.Kids, 7)
	return n
}

func (l *loan) tree(t impl.Tree) impl.Tree {
	nodes := make([]impl.Node, len(t.Nodes))
	for i, n := range t.Nodes {
		nodes[i] = l.node(n)
	}
	t.Nodes = lent(l, nodes, leafOf("spare"))
	return t
}

func (l *loan) index(x impl.Index) impl.Index {
	x.Cols = lent(l, x.Cols, 1)
	x.Downs = lent(l, x.Downs, true)
	return x
}

func (l *loan) cols(cols []impl.Col) []impl.Col {
	return lent(l, cols, impl.Col{Name: "spare", Type: impl.Type{Kind: impl.KindText}})
}

func (l *loan) table(t impl.Table) impl.Table {
	t.Cols = l.cols(t.Cols)
	indexes := make([]impl.Index, len(t.Indexes))
	for i, x := range t.Indexes {
		indexes[i] = l.index(x)
	}
	t.Indexes = lent(l, indexes, impl.Index{Name: "spare"})
	return t
}

func (l *loan) base(b impl.Base) impl.Base {
	tables := make([]impl.Table, len(b.Tables))
	for i, t := range b.Tables {
		tables[i] = l.table(t)
	}
	return impl.Base{Tables: lent(l, tables, impl.Table{Name: "spare"}), Tree: l.tree(b.Tree)}
}

// room is where a list lies, spare room included.
type room struct {
	from, to uintptr
}

// roomsIn is the rooms of all lists of a thing, those within lists too.
func roomsIn(v reflect.Value) []room {
	var rooms []room
	switch v.Kind() {
	case reflect.Struct:
		for i := range v.NumField() {
			rooms = append(rooms, roomsIn(v.Field(i))...)
		}
	case reflect.Slice:
		if v.Cap() == 0 {
			return nil
		}
		from := v.Pointer()
		rooms = append(rooms, room{from: from, to: from + uintptr(v.Cap())*v.Type().Elem().Size()})
		whole := v.Slice(0, v.Cap())
		for i := range whole.Len() {
			rooms = append(rooms, roomsIn(whole.Index(i))...)
		}
	}
	return rooms
}

func areApart(a, b room) bool {
	return a.to <= b.from || b.to <= a.from
}

// askedAny makes a call that must not panic, write into what was lent, or answer with memory of its arguments, or with one for two lists.
func askedAny(t *testing.T, l *loan, arguments []any, call func() []any, what ...any) {
	t.Helper()
	defer func() {
		if e := recover(); e != nil {
			t.Fatal("panics:", e, what)
		}
	}()
	before := copied(l.rooms)
	answers := call()
	if !l.isKept(before) {
		t.Fatal("writes into an argument:", what)
	}
	var given, made []room
	for _, each := range arguments {
		given = append(given, roomsIn(reflect.ValueOf(each))...)
	}
	for _, each := range answers {
		made = append(made, roomsIn(reflect.ValueOf(each))...)
	}
	for i, x := range made {
		if slices.ContainsFunc(given, func(y room) bool { return !areApart(x, y) }) {
			t.Fatal("answers with memory of an argument:", what)
		}
		if slices.ContainsFunc(made[:i], func(y room) bool { return !areApart(x, y) }) {
			t.Fatal("answers with two lists that share memory:", what)
		}
	}
}

// anyCall is a call, and its answers that have lists.
type anyCall struct {
	name string
	call func() []any
}

func treeCalls(x impl.Tree, key, val, high string) []anyCall {
	return []anyCall{
		{"TreeOk", func() []any { impl.TreeOk(x); return nil }},
		{"TreeDeep", func() []any { impl.TreeDeep(x); return nil }},
		{"TreeGet", func() []any { impl.TreeGet(x, key); return nil }},
		{"TreePut", func() []any { y, _ := impl.TreePut(x, key, val); z, _ := impl.TreePut(x, key, val); return []any{y, z} }},
		{"TreeDrop", func() []any { y, _ := impl.TreeDrop(x, key); z, _ := impl.TreeDrop(x, key); return []any{y, z} }},
		{"TreeList", func() []any { return []any{impl.TreeList(x, key, high), impl.TreeList(x, key, high)} }},
	}
}

func TestTreesKeepMemoryApart(t *testing.T) {
	source := rand.New(rand.NewSource(50))
	for _, x := range append(someTrees(), badTrees()...) {
		keys := append(append(nearKeys(grownTree("b", "d")), badKeys...), "a", "ab", "m")
		for _, n := range x.Nodes {
			keys = append(keys, n.Keys...)
		}
		for range 12 {
			l := &loan{}
			y := l.tree(x)
			key, high := keys[source.Intn(len(keys))], keys[source.Intn(len(keys))]
			val := strings.Repeat("v", []int{0, 1, 140, 141}[source.Intn(4)])
			for _, c := range treeCalls(y, key, val, high) {
				askedAny(t, l, []any{y}, c.call, c.name, key, tellTree(x))
			}
		}
	}
	askedAny(t, &loan{}, nil, func() []any { return []any{impl.TreeNew(), impl.TreeNew()} }, "TreeNew")
}

func TestNodesKeepMemoryApart(t *testing.T) {
	for _, n := range append(append(someNodes(), badNodes()...), impl.Node{}) {
		l := &loan{}
		x := l.node(n)
		askedAny(t, l, []any{x}, func() []any {
			text := impl.NodePut(x)
			y, _ := impl.NodeGet(text)
			z, _ := impl.NodeGet(text)
			return []any{y, z}
		}, n)
	}
}

// someNums and someEnds are numbers of rows and ends of ranges, of which some are there.
var (
	someNums = append([]int{-1, 0, 1, 2, 3, 4, 5, 9999, 10000}, badInts...)
	someEnds = []string{"", "\x00", "\x03\x81", "\xff", strings.Repeat("\xff", 300)}
)

// baseArguments is what else the functions of bases take.
type baseArguments struct {
	table, index, low, high string
	cols                    []impl.Col
	ix                      impl.Index
	vals                    []impl.Value
	num                     int
}

func baseCalls(b impl.Base, a baseArguments) []anyCall {
	two := func(call func() (impl.Base, int)) func() []any {
		return func() []any { x, _ := call(); y, _ := call(); return []any{x, y} }
	}
	return []anyCall{
		{"BaseOk", func() []any { impl.BaseOk(b); return nil }},
		{"BaseTable", two(func() (impl.Base, int) { return impl.BaseTable(b, a.table, a.cols) })},
		{"BaseGone", two(func() (impl.Base, int) { return impl.BaseGone(b, a.table) })},
		{"BaseIndex", two(func() (impl.Base, int) { return impl.BaseIndex(b, a.table, a.ix) })},
		{"BaseLess", two(func() (impl.Base, int) { return impl.BaseLess(b, a.table, a.index) })},
		{"BaseInsert", two(func() (impl.Base, int) { return impl.BaseInsert(b, a.table, a.vals) })},
		{"BaseDelete", two(func() (impl.Base, int) { return impl.BaseDelete(b, a.table, a.num) })},
		{"BaseSet", two(func() (impl.Base, int) { return impl.BaseSet(b, a.table, a.num, a.vals) })},
		{"BaseRows", func() []any { return []any{impl.BaseRows(b, a.table), impl.BaseRows(b, a.table)} }},
		{"BaseSeek", func() []any {
			return []any{impl.BaseSeek(b, a.table, a.index, a.low, a.high), impl.BaseSeek(b, a.table, a.index, "", "")}
		}},
		{"BasePages", func() []any { return []any{impl.BasePages(b), impl.BasePages(b)} }},
	}
}

// madeArguments is arguments of which some fit a base, and some are not ok.
func madeArguments(source *rand.Rand, b impl.Base, l *loan) baseArguments {
	a := baseArguments{table: tableNames[source.Intn(len(tableNames))], index: "i", num: someNums[source.Intn(len(someNums))]}
	a.low, a.high = someEnds[source.Intn(len(someEnds))], someEnds[source.Intn(len(someEnds))]
	a.cols, a.ix, a.vals = madeCols(source), madeIndex(source, 2), rowOf("5.00", "'z'")
	if len(b.Tables) > 0 && source.Intn(5) > 0 {
		table := b.Tables[source.Intn(len(b.Tables))]
		a.table = table.Name
		if wantTableOk(table) {
			a.vals, a.ix = madeRowOf(source, table), madeIndex(source, len(table.Cols))
		}
		if len(table.Indexes) > 0 {
			a.index = table.Indexes[0].Name
		}
	}
	if source.Intn(4) == 0 {
		a.cols, a.ix = badCols()[source.Intn(len(badCols()))], badIndexes()[source.Intn(len(badIndexes()))]
	}
	if source.Intn(8) == 0 {
		bad := badValues()
		a.vals = []impl.Value{bad[source.Intn(len(bad))], bad[source.Intn(len(bad))]}
	}
	a.cols, a.ix, a.vals = l.cols(a.cols), l.index(a.ix), l.row(a.vals)
	return a
}

func TestBasesKeepMemoryApart(t *testing.T) {
	source := rand.New(rand.NewSource(51))
	for _, b := range append(someBases(), badBases()...) {
		for range 3 {
			l := &loan{}
			x := l.base(b)
			a := madeArguments(source, b, l)
			for _, c := range baseCalls(x, a) {
				askedAny(t, l, []any{x, a.cols, a.ix, a.vals}, c.call, c.name, a, tellBase(b))
			}
		}
	}
	askedAny(t, &loan{}, nil, func() []any { return []any{impl.BaseNew(), impl.BaseNew()} }, "BaseNew")
}

func TestTablesKeepMemoryApart(t *testing.T) {
	for _, x := range append(badTables(), longestBase().Tables...) {
		l := &loan{}
		y := l.table(x)
		askedAny(t, l, []any{y}, func() []any { impl.TableOk(y); return nil }, x)
	}
	for _, s := range badNames() {
		askedAny(t, &loan{}, nil, func() []any { impl.NameOk(s); return nil }, s)
	}
}

func TestPagesKeepMemoryApart(t *testing.T) {
	var list [][]string
	for _, b := range someBases() {
		list = append(list, wantPages(b))
	}
	for _, first := range badFirsts(wantPages(twoIndexes())[0]) {
		list = append(list, append([]string{first}, wantPages(twoIndexes())[1:]...))
	}
	list = append(list, nil, make([]string, 19), make([]string, 20), make([]string, 21))
	for _, pages := range list {
		l := &loan{}
		x := lent(l, pages, "spare")
		askedAny(t, l, []any{x}, func() []any {
			a, _ := impl.BaseLoad(x)
			b, _ := impl.BaseLoad(x)
			return []any{a, b}
		}, "BaseLoad", pages)
	}
}

// The empty list and the nil list are the same: a base with empty lists is read as one with none.
func TestEmptyListsAreNoLists(t *testing.T) {
	x := emptyTree()
	for i := range x.Nodes {
		x.Nodes[i].Keys, x.Nodes[i].Vals, x.Nodes[i].Kids = []string{}, []string{}, []int{}
	}
	if !impl.TreeOk(x) || impl.TreeDeep(x) != 1 || impl.NodePut(x.Nodes[1]) != "" || impl.NodePut(x.Nodes[0]) != "L" {
		t.Error(tellTree(x))
	}
	put, code := impl.TreePut(x, "a", "")
	mustTree(t, put, code, treeWith(0, map[int]impl.Node{0: {Leaf: true, Keys: []string{"a"}, Vals: []string{""}}}), 0, "put")
	b := impl.Base{Tables: []impl.Table{}, Tree: x}
	if !impl.BaseOk(b) || len(impl.BasePages(b)) != 20 {
		t.Error(tellBase(b))
	}
	made, code := impl.BaseTable(b, "t", []impl.Col{{Name: "a", Type: impl.Type{Kind: 1}}})
	if code != 0 || len(made.Tables) != 1 || made.Tables[0].Next != 1 {
		t.Error(code)
	}
}
