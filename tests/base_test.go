package tests

import (
	"fmt"
	"math"
	"math/rand"
	"slices"
	"strings"
	"testing"

	"loop.example/jetton/impl"
)

func TestBasesHaveTheirConstants(t *testing.T) {
	got := []int{impl.NameMax, impl.TableMax, impl.IndexMax, impl.NumMax, impl.BaseFine, impl.BaseForm, impl.BaseNone, impl.BaseTwice, impl.BaseType, impl.BaseNull, impl.BaseOnly, impl.BaseFull}
	if want := []int{8, 3, 2, 9999, 0, 1, 2, 3, 4, 5, 6, 7}; !slices.Equal(got, want) {
		t.Error(got, want)
	}
	mustBase(t, impl.BaseNew(), 0, newBase(), 0, "new")
}

func TestNames(t *testing.T) {
	for _, s := range []string{"a", "z", "a1", "a9z0", "abcdefgh", "a1234567", "selects", "selec", "an", "ands", "o", "order1", "rollbac", "x", "wheres", "tables", "nu", "r", "i"} {
		if !impl.NameOk(s) || !wantName(s) {
			t.Error(s)
		}
	}
	for _, s := range badNames() {
		if impl.NameOk(s) || wantName(s) {
			t.Errorf("%q", s)
		}
	}
	for _, word := range reserved {
		for _, s := range []string{word + "a", word + "1", "a" + word, word[:len(word)-1], word[1:], word + " " + word, " " + word, word + " "} {
			if impl.NameOk(s) != wantName(s) {
				t.Errorf("%q", s)
			}
		}
	}
	eachText("ab0z{`/: ", 4, func(s string) {
		if impl.NameOk(s) != wantName(s) {
			t.Fatalf("%q", s)
		}
	})
	for n := range 256 {
		for _, s := range []string{string([]byte{byte(n)}), string([]byte{'a', byte(n)}), string([]byte{'a', byte(n), 'b'})} {
			if impl.NameOk(s) != wantName(s) {
				t.Fatalf("%q", s)
			}
		}
	}
}

func TestTablesThatAreOk(t *testing.T) {
	list := []impl.Table{}
	for _, b := range someBases() {
		list = append(list, b.Tables...)
	}
	for _, x := range list {
		if !impl.TableOk(x) || !wantTableOk(x) {
			t.Fatal(x)
		}
		for _, next := range []int{1, 2, 9999, 10000} {
			x.Next = next
			if !impl.TableOk(x) {
				t.Fatal(x)
			}
		}
	}
	if len(list) < 50 {
		t.Error(len(list))
	}
	for _, x := range badTables() {
		if wantTableOk(x) {
			t.Fatal("a table that is ok:", x)
		}
		if impl.TableOk(x) {
			t.Fatal(x)
		}
	}
	// One name for a table, a column and an index does no harm.
	same := impl.Table{Name: "a", Cols: []impl.Col{{Name: "a", Type: impl.Type{Kind: 1}}}, Indexes: []impl.Index{{Name: "a", Cols: []int{0}, Downs: []bool{true}}}, Next: 1}
	if !impl.TableOk(same) {
		t.Error(same)
	}
}

func TestBasesThatAreOk(t *testing.T) {
	for _, b := range someBases() {
		if !wantBaseOk(b) {
			t.Fatal("no base to try:", tellBase(b))
		}
		if !impl.BaseOk(b) {
			t.Fatal(tellBase(b))
		}
	}
}

func TestBasesThatAreNotOk(t *testing.T) {
	cols := []impl.Col{{Name: "a", Type: impl.Type{Kind: impl.KindText}}}
	for i, b := range badBases() {
		if wantBaseOk(b) {
			t.Fatal("a base that is ok:", i, tellBase(b))
		}
		if impl.BaseOk(b) {
			t.Fatal(i, tellBase(b))
		}
		calls := []func() (impl.Base, int){
			func() (impl.Base, int) { return impl.BaseTable(b, "u", cols) },
			func() (impl.Base, int) { return impl.BaseTable(b, "", nil) },
			func() (impl.Base, int) { return impl.BaseGone(b, "t") },
			func() (impl.Base, int) { return impl.BaseGone(b, "none") },
			func() (impl.Base, int) {
				return impl.BaseIndex(b, "t", impl.Index{Name: "k", Cols: []int{0}, Downs: []bool{false}})
			},
			func() (impl.Base, int) { return impl.BaseLess(b, "t", "i") },
			func() (impl.Base, int) { return impl.BaseInsert(b, "t", rowOf("5.00", "'z'")) },
			func() (impl.Base, int) { return impl.BaseDelete(b, "t", 1) },
			func() (impl.Base, int) { return impl.BaseSet(b, "t", 1, rowOf("5.00", "'z'")) },
		}
		for j, call := range calls {
			x, code := call()
			mustBase(t, x, code, impl.Base{}, 1, j, tellBase(b))
		}
		if len(impl.BaseRows(b, "t")) != 0 || len(impl.BaseSeek(b, "t", "i", "", "")) != 0 || len(impl.BasePages(b)) != 0 {
			t.Fatal(tellBase(b))
		}
	}
}

// Bases whose tree or tables were changed at random are ok as the second base says.
func TestBasesThatMayBeOk(t *testing.T) {
	source := rand.New(rand.NewSource(31))
	count := map[bool]int{}
	for _, b := range someBases() {
		for range 25 {
			x := spoiltBase(source, b)
			ok := wantBaseOk(x)
			count[ok]++
			if impl.BaseOk(x) != ok {
				t.Fatal(!ok, tellBase(x))
			}
		}
	}
	if count[true] < 100 || count[false] < 500 {
		t.Error(count)
	}
}

// spoiltBase is a base with one thing about it changed.
func spoiltBase(source *rand.Rand, b impl.Base) impl.Base {
	x := copyBase(b)
	pairs := wantPairs(b.Tree)
	if source.Intn(2) == 0 && len(pairs) > 0 {
		a, c := pairs[source.Intn(len(pairs))], pairs[source.Intn(len(pairs))]
		switch source.Intn(3) {
		case 0:
			x.Tree, _ = wantTreePut(x.Tree, a.Key, c.Val)
		case 1:
			x.Tree, _ = wantTreeDrop(x.Tree, a.Key)
		case 2:
			x.Tree, _ = wantTreePut(x.Tree, a.Key[:len(a.Key)-1]+string([]byte{byte('0' + source.Intn(10))}), a.Val)
		}
		return x
	}
	if len(x.Tables) == 0 {
		return x
	}
	table := &x.Tables[source.Intn(len(x.Tables))]
	col := &table.Cols[source.Intn(len(table.Cols))]
	switch source.Intn(8) {
	case 0:
		table.Next = source.Intn(15)
	case 1:
		col.Must = !col.Must
	case 2:
		kinds := colKinds()
		col.Type = typeOf(kinds[source.Intn(len(kinds))].kind)
	case 3:
		col.Name = []string{"a", "b2", "q", "num"}[source.Intn(4)]
	case 4:
		table.Name = tableNames[source.Intn(len(tableNames))]
	case 5:
		x.Tables[0], x.Tables[len(x.Tables)-1] = x.Tables[len(x.Tables)-1], x.Tables[0]
	case 6:
		if len(table.Indexes) > 0 {
			ix := &table.Indexes[source.Intn(len(table.Indexes))]
			ix.Only = !ix.Only
		}
	case 7:
		if len(table.Indexes) > 0 {
			ix := &table.Indexes[source.Intn(len(table.Indexes))]
			ix.Downs[0] = !ix.Downs[0]
		}
	}
	return x
}

// Changes at random: each answer is that of the second base, number by number.
func TestBasesGoTheSameWay(t *testing.T) {
	source := rand.New(rand.NewSource(32))
	seen := map[string]int{}
	for range 60 {
		b := impl.BaseNew()
		for range 60 {
			call := madeCall(source, b)
			x, code := call.got(b)
			want, wantCode := call.want(b)
			mustBase(t, x, code, want, wantCode, call.name, tellBase(b))
			word, _, _ := strings.Cut(call.name, " ")
			seen[fmt.Sprint(word, code)]++
			b = x
		}
		for _, table := range tableNames {
			mustRows(t, impl.BaseRows(b, table), wantBaseRows(b, table), "rows", table, tellBase(b))
		}
	}
	for _, each := range []string{"table0", "table3", "table7", "gone0", "gone2", "index0", "index1", "index2", "index3", "index6", "index7", "less0", "less2", "insert0", "insert2", "insert4", "insert5", "insert6", "insert7", "delete0", "delete2", "set0", "set2", "set4", "set5", "set6", "set7"} {
		if seen[each] == 0 {
			t.Error("not seen:", each)
		}
	}
}

func mustRows(t *testing.T, got, want []impl.Row, what ...any) {
	t.Helper()
	if !sameRows(got, want) {
		t.Fatalf("%.2000v: %v, want %v", what, got, want)
	}
}

// allRows is the rows of all tables but one.
func allRows(b impl.Base, but string) map[string]string {
	all := map[string]string{}
	for _, table := range b.Tables {
		if table.Name != but {
			all[table.Name] = fmt.Sprint(impl.BaseRows(b, table.Name))
		}
	}
	return all
}

func mustAllRows(t *testing.T, a, b impl.Base, but string) {
	t.Helper()
	if x, y := fmt.Sprint(allRows(a, but)), fmt.Sprint(allRows(b, but)); x != y {
		t.Fatalf("%s\n%s", x, y)
	}
}

func TestP82ATableThatWasMade(t *testing.T) {
	cols := []impl.Col{{Name: "a", Type: impl.Type{Kind: 5}, Must: true}, {Name: "b", Type: typeOf("num(30,12)")}}
	fine := 0
	for _, b := range someBases() {
		for _, name := range append(tableNames, "abcdefgh", "q") {
			x, code := impl.BaseTable(b, name, cols)
			want, wantCode := wantTable(b, name, cols)
			mustBase(t, x, code, want, wantCode, name)
			if code != 0 {
				continue
			}
			fine++
			if !impl.BaseOk(x) || len(impl.BaseRows(x, name)) != 0 {
				t.Fatal(tellBase(x))
			}
			again, code := impl.BaseTable(x, name, cols)
			mustBase(t, again, code, x, 3, "again")
			gone, code := impl.BaseGone(x, name)
			mustBase(t, gone, code, b, 0, "gone")
			mustAllRows(t, b, x, name)
		}
	}
	if fine < 30 {
		t.Error(fine)
	}
}

func TestP82TablesThatCannotBe(t *testing.T) {
	cols := []impl.Col{{Name: "a", Type: impl.Type{Kind: 5}}}
	for _, b := range []impl.Base{newBase(), twoIndexes(), longestBase()} {
		for _, name := range badNames() {
			x, code := impl.BaseTable(b, name, cols)
			mustBase(t, x, code, b, 1, name)
		}
		for _, bad := range badCols() {
			for _, name := range []string{"u", "t", "xxxxxxxx"} {
				x, code := impl.BaseTable(b, name, bad)
				mustBase(t, x, code, b, 1, bad)
			}
		}
	}
	// Three tables, and one more: first it is asked whether there is one of that name.
	b := longestBase()
	x, code := impl.BaseTable(b, "u", cols)
	mustBase(t, x, code, b, 7, "one more")
	x, code = impl.BaseTable(b, "yyyyyyyy", cols)
	mustBase(t, x, code, b, 3, "twice")
	for n := 1; n <= 4; n++ {
		list := []impl.Col{{Name: "a", Type: impl.Type{Kind: 5}}, {Name: "b", Type: impl.Type{Kind: 4}}, {Name: "c", Type: impl.Type{Kind: 3}}, {Name: "d", Type: impl.Type{Kind: 1}, Must: true}}[:n]
		x, code := impl.BaseTable(twoIndexes(), "u", list)
		if code != 0 || !slices.Equal(x.Tables[1].Cols, list) || x.Tables[1].Next != 1 {
			t.Error(n, code)
		}
	}
}

func TestP83ATableThatIsGone(t *testing.T) {
	rows := 0
	for _, b := range someBases() {
		for _, table := range b.Tables {
			rows += len(impl.BaseRows(b, table.Name))
			x, code := impl.BaseGone(b, table.Name)
			want, _ := wantGone(b, table.Name)
			mustBase(t, x, code, want, 0, table.Name, tellBase(b))
			if !impl.BaseOk(x) {
				t.Fatal(tellBase(x))
			}
			mustAllRows(t, x, b, table.Name)
			again, code := impl.BaseGone(x, table.Name)
			mustBase(t, again, code, x, 2, "again")
			if made, code := impl.BaseTable(x, table.Name, table.Cols); code != 0 || len(impl.BaseRows(made, table.Name)) != 0 {
				t.Fatal(code)
			}
		}
		for _, name := range append([]string{"none", "", "T", "t."}, badNames()...) {
			x, code := impl.BaseGone(b, name)
			mustBase(t, x, code, b, 2, name)
		}
	}
	if rows < 200 {
		t.Error(rows)
	}
}

func TestP84ARowThatComesIn(t *testing.T) {
	source := rand.New(rand.NewSource(33))
	codes := map[int]int{}
	for _, b := range someBases() {
		for at, table := range b.Tables {
			was := impl.BaseRows(b, table.Name)
			for range 12 {
				vals := madeRowOf(source, table)
				x, code := impl.BaseInsert(b, table.Name, vals)
				want, wantCode := wantInsert(b, table.Name, vals)
				mustBase(t, x, code, want, wantCode, vals, tellBase(b))
				codes[code]++
				if code != 0 {
					continue
				}
				rows := impl.BaseRows(x, table.Name)
				if !impl.BaseOk(x) || x.Tables[at].Next != table.Next+1 {
					t.Fatal(tellBase(x))
				}
				mustRows(t, rows, append(slices.Clone(was), impl.Row{Num: table.Next, Vals: vals}), "insert")
				mustAllRows(t, x, b, table.Name)
			}
		}
	}
	for _, code := range []int{0, 4, 5, 6, 7} {
		if codes[code] == 0 {
			t.Error(codes)
		}
	}
}

// madeRowOf is a row for a table: as madeVals has them where its types are known there.
func madeRowOf(source *rand.Rand, table impl.Table) []impl.Value {
	for _, c := range table.Cols {
		if !slices.ContainsFunc(colKinds(), func(k colKind) bool { return typeOf(k.kind) == c.Type }) {
			return rowOf([]string{"5.00", "1.00", "-7.25"}[source.Intn(3)], []string{"null", "'z'", "'x'"}[source.Intn(3)])
		}
	}
	return madeVals(source, table.Cols)
}

func TestP84NumbersUpToTheLast(t *testing.T) {
	b := withNext(twoIndexes(), 9999)
	x, code := impl.BaseInsert(b, "t", rowOf("5.00", "'z'"))
	rows := impl.BaseRows(x, "t")
	if code != 0 || x.Tables[0].Next != 10000 || rows[len(rows)-1].Num != 9999 || !impl.BaseOk(x) {
		t.Fatal(code, tellBase(x))
	}
	y, code := impl.BaseInsert(x, "t", rowOf("6.00", "null"))
	mustBase(t, y, code, x, 7, "one more")
	// What else is wrong with a row is told first.
	for want, vals := range map[int][]impl.Value{4: rowOf("6.0", "null"), 5: rowOf("null", "null"), 6: rowOf("6.00", "'z'")} {
		y, code := impl.BaseInsert(x, "t", vals)
		mustBase(t, y, code, x, want, vals)
	}
	// The number goes on behind the last one also when its row is gone.
	y, code = impl.BaseDelete(x, "t", 9999)
	if code != 0 || y.Tables[0].Next != 10000 {
		t.Fatal(code)
	}
	z, code := impl.BaseInsert(y, "t", rowOf("6.00", "null"))
	mustBase(t, z, code, y, 7, "gone")
}

func TestP85ARowThatGoes(t *testing.T) {
	gone := 0
	for _, b := range someBases() {
		for at, table := range b.Tables {
			was := impl.BaseRows(b, table.Name)
			for _, r := range was {
				x, code := impl.BaseDelete(b, table.Name, r.Num)
				want, _ := wantDelete(b, table.Name, r.Num)
				mustBase(t, x, code, want, 0, r, tellBase(b))
				if !impl.BaseOk(x) || x.Tables[at].Next != table.Next {
					t.Fatal(tellBase(x))
				}
				mustRows(t, impl.BaseRows(x, table.Name), slices.DeleteFunc(slices.Clone(was), func(s impl.Row) bool { return s.Num == r.Num }), "delete")
				mustAllRows(t, x, b, table.Name)
				again, code := impl.BaseDelete(x, table.Name, r.Num)
				mustBase(t, again, code, x, 2, "again")
				gone++
			}
			for _, num := range append([]int{0, -1, table.Next, 9999, 10000, 10001, 99999}, badInts...) {
				if slices.ContainsFunc(was, func(r impl.Row) bool { return r.Num == num }) {
					continue
				}
				x, code := impl.BaseDelete(b, table.Name, num)
				mustBase(t, x, code, b, 2, num)
			}
		}
		x, code := impl.BaseDelete(b, "none", 1)
		mustBase(t, x, code, b, 2, "no table")
	}
	if gone < 200 {
		t.Error(gone)
	}
}

func TestP86ARowThatIsSet(t *testing.T) {
	source := rand.New(rand.NewSource(34))
	codes := map[int]int{}
	for _, b := range someBases() {
		for _, table := range b.Tables {
			was := impl.BaseRows(b, table.Name)
			for i, r := range was {
				vals := madeRowOf(source, table)
				x, code := impl.BaseSet(b, table.Name, r.Num, vals)
				want, wantCode := wantSet(b, table.Name, r.Num, vals)
				mustBase(t, x, code, want, wantCode, r, vals, tellBase(b))
				codes[code]++
				if code != 0 {
					continue
				}
				then := slices.Clone(was)
				then[i] = impl.Row{Num: r.Num, Vals: vals}
				if !impl.BaseOk(x) || !sameTables(x, b) {
					t.Fatal(tellBase(x))
				}
				mustRows(t, impl.BaseRows(x, table.Name), then, "set")
				mustAllRows(t, x, b, table.Name)
			}
		}
	}
	for _, code := range []int{0, 4, 5, 6} {
		if codes[code] == 0 {
			t.Error(codes)
		}
	}
}

func sameTables(a, b impl.Base) bool {
	return slices.EqualFunc(a.Tables, b.Tables, sameTable)
}

// A row may keep its key in one index, and not in the other.
func TestP86KeysThatStayAndKeysThatGo(t *testing.T) {
	b := twoIndexes()
	for _, vals := range [][]impl.Value{rowOf("1.00", "'z'"), rowOf("3.00", "'x'"), rowOf("3.00", "'z'"), rowOf("1.00", "'x'"), rowOf("1.00", "null"), rowOf("99.00", "null")} {
		x, code := impl.BaseSet(b, "t", 1, vals)
		want, _ := wantSet(b, "t", 1, vals)
		mustBase(t, x, code, want, 0, vals)
		keys := []string{}
		for _, p := range impl.TreeList(x.Tree, "x", "y") {
			if strings.HasSuffix(p.Key, "0001") {
				keys = append(keys, p.Key)
			}
		}
		wantKeys := []string{"xt.i." + wantKey(vals[0], false) + "0001", "xt.j." + wantKey(vals[1], true) + "0001"}
		if !slices.Equal(keys, wantKeys) {
			t.Errorf("%v: %q, want %q", vals, keys, wantKeys)
		}
	}
	// Only other rows bar it.
	x, code := impl.BaseSet(b, "t", 1, rowOf("1.00", "'y'"))
	mustBase(t, x, code, b, 6, "another one's")
	x, code = impl.BaseSet(b, "t", 4, rowOf("7.00", "'y'"))
	if code != 0 {
		t.Error(code, "its own")
	}
}

func TestP86RowsThatAreNotThere(t *testing.T) {
	b := twoIndexes()
	for _, num := range append([]int{0, -1, 5, 6, 9999, 10000, 10001, 10002}, badInts...) {
		// That there is no such row is told ahead of what is wrong with what it is to say.
		for _, vals := range [][]impl.Value{rowOf("5.00", "'z'"), nil, rowOf("null", "null"), rowOf("5.00", "'x'")} {
			x, code := impl.BaseSet(b, "t", num, vals)
			mustBase(t, x, code, b, 2, num)
		}
	}
	x, code := impl.BaseSet(b, "none", 1, rowOf("5.00", "'z'"))
	mustBase(t, x, code, b, 2, "no table")
	x, code = impl.BaseInsert(b, "none", rowOf("5.00", "'z'"))
	mustBase(t, x, code, b, 2, "no table")
}

func TestP87ARowThatIsSetToWhatItSaid(t *testing.T) {
	for _, b := range someBases() {
		for _, table := range b.Tables {
			for _, r := range impl.BaseRows(b, table.Name) {
				x, code := impl.BaseSet(b, table.Name, r.Num, r.Vals)
				mustBase(t, x, code, b, 0, r)
			}
		}
	}
}

// wrongRows is rows that a table of a number that must be there and a text does not take, with their codes.
func wrongRows() map[int][][]impl.Value {
	longNum := numValue(decFrom("1"+strings.Repeat("0", 30), 2))
	rows := map[int][][]impl.Value{
		4: {nil, {}, rowOf("1.00"), rowOf("1.00", "'z'", "null"), rowOf("'z'", "1.00"), rowOf("1", "'z'"), rowOf("1.0", "'z'"), rowOf("1.000", "'z'"), rowOf("1000.00", "'z'"), rowOf("true", "'z'"), rowOf("1.00", "1.00"), {longNum, {}}, make([]impl.Value, 1000)},
		5: {rowOf("null", "'z'"), rowOf("null", "null"), rowOf("null", "'x'")},
		6: {rowOf("5.00", "'x'"), rowOf("2.50", "'y'")},
	}
	for _, v := range badValues() {
		rows[4] = append(rows[4], []impl.Value{valueOf("1.00"), v}, []impl.Value{v, valueOf("'z'")}, []impl.Value{{}, v})
	}
	return rows
}

func TestP88WhatCannotBeChangesNothing(t *testing.T) {
	b := twoIndexes()
	for want, rows := range wrongRows() {
		for _, vals := range rows {
			x, code := impl.BaseInsert(b, "t", vals)
			mustBase(t, x, code, b, want, "insert", vals)
			x, code = impl.BaseSet(b, "t", 2, vals)
			mustBase(t, x, code, b, want, "set", vals)
		}
	}
	x, code := impl.BaseInsert(b, "t", rowOf("999.99", "'~~~~~~~~~~~~'"))
	if code != 0 || !impl.BaseOk(x) {
		t.Error(code)
	}
}

// filled is bases to which rows came until no more did.
func filled() []impl.Base {
	source := rand.New(rand.NewSource(35))
	var list []impl.Base
	for n := range 40 {
		b := mustDo(newBase(), inTable("t", impl.Col{Name: "a", Type: typeOf("num(3,1)")}, impl.Col{Name: "b", Type: typeOf("text")}))
		for i := range n % 3 {
			b = mustDo(b, inIndex("t", impl.Index{Name: []string{"i", "j"}[i], Cols: []int{1 - i}, Downs: []bool{source.Intn(2) == 1}}))
		}
		for {
			x, code := wantInsert(b, "t", rowOf([]string{"0.0", "1.5", "-1.5", "99.9", "null"}[source.Intn(5)], []string{"''", "'a'", "'ab'", "null"}[source.Intn(4)]))
			if code != 0 {
				break
			}
			b = x
			if source.Intn(6) == 0 {
				b, _ = wantDelete(b, "t", 1+source.Intn(b.Tables[0].Next))
			}
		}
		list = append(list, b)
	}
	return list
}

// midst counts changes that the tree cannot take any more: at their first step, and in their midst.
type midst struct {
	first, later int
}

func (m *midst) see(b impl.Base, steps []treeStep) {
	_, ok, at := wantSteps(b, steps)
	switch {
	case !ok && at == 0:
		m.first++
	case !ok:
		m.later++
	}
}

func TestP88ATreeThatIsFullInTheMidstOfAChange(t *testing.T) {
	var inserts, sets, indexes midst
	for _, b := range filled() {
		table := b.Tables[0]
		rows := wantBaseRows(b, "t")
		for _, v := range []string{"0.0", "1.5", "-1.5", "99.9", "50.0", "null"} {
			for _, w := range []string{"''", "'a'", "'ab'", "'~'", "null"} {
				vals := rowOf(v, w)
				x, code := impl.BaseInsert(b, "t", vals)
				want, wantCode := wantInsert(b, "t", vals)
				mustBase(t, x, code, want, wantCode, "insert", vals, tellBase(b))
				inserts.see(b, rowSteps(table, impl.Row{Num: table.Next, Vals: vals}, false))
				r := rows[(len(v)*7+len(w))%len(rows)]
				x, code = impl.BaseSet(b, "t", r.Num, vals)
				want, wantCode = wantSet(b, "t", r.Num, vals)
				mustBase(t, x, code, want, wantCode, "set", vals, tellBase(b))
				sets.see(b, setSteps(table, r, impl.Row{Num: r.Num, Vals: vals}))
			}
		}
		ix := impl.Index{Name: "k", Cols: []int{0, 1}, Downs: []bool{true, false}}
		x, code := impl.BaseIndex(b, "t", ix)
		want, wantCode := wantIndex(b, "t", ix)
		mustBase(t, x, code, want, wantCode, "index", tellBase(b))
		if len(table.Indexes) < 2 {
			var steps []treeStep
			for _, r := range rows {
				steps = append(steps, treeStep{key: wantIndexKey("t", ix, r)})
			}
			indexes.see(b, steps)
		}
	}
	if inserts.first == 0 || inserts.later == 0 || sets.later == 0 || indexes.later == 0 {
		t.Error(inserts, sets, indexes)
	}
}

func TestP89AnIndexChangesNoRows(t *testing.T) {
	source := rand.New(rand.NewSource(36))
	codes := map[int]int{}
	for _, b := range someBases() {
		for at, table := range b.Tables {
			for range 8 {
				ix := madeIndex(source, len(table.Cols))
				x, code := impl.BaseIndex(b, table.Name, ix)
				want, wantCode := wantIndex(b, table.Name, ix)
				mustBase(t, x, code, want, wantCode, ix, tellBase(b))
				codes[code]++
				if code != 0 {
					continue
				}
				last := x.Tables[at].Indexes[len(table.Indexes)]
				if !impl.BaseOk(x) || !sameIndex(last, ix) || len(x.Tables[at].Indexes) != len(table.Indexes)+1 {
					t.Fatal(tellBase(x))
				}
				mustAllRows(t, x, b, "")
				again, code := impl.BaseIndex(x, table.Name, ix)
				mustBase(t, again, code, x, 3, "again")
				less, code := impl.BaseLess(x, table.Name, ix.Name)
				if code != 0 || !impl.BaseOk(less) || !sameTables(less, b) {
					t.Fatal(code, tellBase(less))
				}
				mustAllRows(t, less, b, "")
			}
		}
	}
	for _, code := range []int{0, 1, 3, 6, 7} {
		if codes[code] == 0 {
			t.Error(codes)
		}
	}
}

func TestP89IndexesThatCannotBe(t *testing.T) {
	two := twoIndexes()
	one, _ := wantLess(two, "t", "j")
	for _, b := range []impl.Base{one, two} {
		for _, ix := range badIndexes() {
			x, code := impl.BaseIndex(b, "t", ix)
			mustBase(t, x, code, b, 1, ix)
		}
		x, code := impl.BaseIndex(b, "none", impl.Index{})
		mustBase(t, x, code, b, 2, "no table")
		x, code = impl.BaseIndex(b, "t", impl.Index{Name: "i", Cols: []int{1}, Downs: []bool{false}})
		mustBase(t, x, code, b, 3, "twice")
	}
	// A key has two values at most, however many columns there are.
	wide := mustDo(newBase(), inTable("t", longestBase().Tables[0].Cols...))
	for n := 1; n <= 4; n++ {
		ix := impl.Index{Name: "k", Cols: []int{3, 1, 0, 2}[:n], Downs: make([]bool, n)}
		x, code := impl.BaseIndex(wide, "t", ix)
		want, wantCode := wantIndex(wide, "t", ix)
		mustBase(t, x, code, want, wantCode, ix)
		if (code == 0) != (n <= 2) {
			t.Error(n, code)
		}
		table := copyTable(wide.Tables[0])
		table.Indexes = []impl.Index{ix}
		if impl.TableOk(table) != (n <= 2) {
			t.Error(n)
		}
	}
	// Two indexes, and one more, is told ahead of rows that are alike.
	alike := impl.Index{Name: "k", Cols: []int{0}, Downs: []bool{false}, Only: true}
	x, code := impl.BaseIndex(two, "t", alike)
	mustBase(t, x, code, two, 7, "one more")
	x, code = impl.BaseIndex(one, "t", alike)
	mustBase(t, x, code, one, 6, "alike")
	// Rows that lack one of the values may be alike.
	for _, cols := range [][]int{{1}, {0, 1}, {1, 0}} {
		ix := impl.Index{Name: "k", Cols: cols, Downs: make([]bool, len(cols)), Only: true}
		x, code := impl.BaseIndex(one, "t", ix)
		want, _ := wantIndex(one, "t", ix)
		mustBase(t, x, code, want, 0, cols)
		y, code := impl.BaseInsert(x, "t", rowOf("1.00", "null"))
		if code != 0 || !impl.BaseOk(y) {
			t.Error(cols, code)
		}
		z, code := impl.BaseInsert(x, "t", rowOf("1.00", "'x'"))
		mustBase(t, z, code, x, 6, cols)
	}
}

func TestP90ATableWithoutOneOfItsIndexes(t *testing.T) {
	less := 0
	for _, b := range someBases() {
		for at, table := range b.Tables {
			for place, ix := range table.Indexes {
				x, code := impl.BaseLess(b, table.Name, ix.Name)
				want, _ := wantLess(b, table.Name, ix.Name)
				mustBase(t, x, code, want, 0, ix, tellBase(b))
				left := slices.Delete(slices.Clone(table.Indexes), place, place+1)
				if !impl.BaseOk(x) || !slices.EqualFunc(x.Tables[at].Indexes, left, sameIndex) {
					t.Fatal(tellBase(x))
				}
				mustAllRows(t, x, b, "")
				if y, code := impl.BaseIndex(x, table.Name, ix); code != 0 && code != 7 || code == 0 && !impl.BaseOk(y) {
					t.Fatal(code)
				}
				again, code := impl.BaseLess(x, table.Name, ix.Name)
				mustBase(t, again, code, x, 2, "again")
				less++
			}
			for _, name := range []string{"", "none", "select", "i.", "I"} {
				x, code := impl.BaseLess(b, table.Name, name)
				mustBase(t, x, code, b, 2, name)
			}
		}
		x, code := impl.BaseLess(b, "none", "i")
		mustBase(t, x, code, b, 2, "no table")
	}
	if less < 50 {
		t.Error(less)
	}
}

func TestP91ByAnIndexAllRowsAreFound(t *testing.T) {
	for _, b := range someBases() {
		for _, table := range b.Tables {
			rows := impl.BaseRows(b, table.Name)
			for _, ix := range table.Indexes {
				found := impl.BaseSeek(b, table.Name, ix.Name, "", "")
				mustRows(t, found, wantSeek(b, table.Name, ix.Name, "", ""), "seek", ix)
				want := slices.Clone(rows)
				slices.SortStableFunc(want, func(x, y impl.Row) int { return wantRows(x.Vals, y.Vals, ix.Cols, ix.Downs) })
				mustRows(t, found, want, "in order", ix)
			}
			for _, name := range []string{"", "none", "i.", "select"} {
				if len(impl.BaseSeek(b, table.Name, name, "", "")) != 0 {
					t.Fatal(name)
				}
			}
		}
		if len(impl.BaseSeek(b, "none", "i", "", "")) != 0 || len(impl.BaseRows(b, "none")) != 0 || len(impl.BaseRows(b, "")) != 0 {
			t.Fatal(tellBase(b))
		}
	}
}

// Ranges have any ends, those that no key begins with, too.
func TestP91RangesOfAnIndex(t *testing.T) {
	source := rand.New(rand.NewSource(37))
	for _, b := range someBases() {
		for _, table := range b.Tables {
			for _, ix := range table.Indexes {
				ends := []string{"", "\x00", "\xff", "\xff\xff", ".", strings.Repeat("\xff", 200), "0001"}
				for _, r := range wantBaseRows(b, table.Name) {
					part := wantIndexPart(ix, r)
					ends = append(ends, part, part[:len(part)-4], part[:1], part+"\x00", impl.KeyAbove(part[:len(part)-4]))
				}
				for range 40 {
					low, high := ends[source.Intn(len(ends))], ends[source.Intn(len(ends))]
					mustRows(t, impl.BaseSeek(b, table.Name, ix.Name, low, high), wantSeek(b, table.Name, ix.Name, low, high), fmt.Sprintf("%q %q", low, high))
				}
			}
		}
	}
}

func TestP92WhatAnIndexFindsOfOneValue(t *testing.T) {
	values := append(fewValues(), rowOf("99.9", "-1.5", "'ab'", "@2024-02-29", "#-1m0d", "999999999999999999.999999999999", "0.000000000001", "0.0000", "1.50", "-1.500000", "1.00")...)
	found := 0
	for _, b := range someBases() {
		for _, table := range b.Tables {
			rows := impl.BaseRows(b, table.Name)
			for _, ix := range table.Indexes {
				for _, v := range values {
					low := wantKey(v, ix.Downs[0])
					want := slices.DeleteFunc(slices.Clone(rows), func(r impl.Row) bool { return wantOrder(r.Vals[ix.Cols[0]], v) != 0 })
					got := impl.BaseSeek(b, table.Name, ix.Name, low, impl.KeyAbove(low))
					slices.SortFunc(got, func(x, y impl.Row) int { return x.Num - y.Num })
					mustRows(t, got, want, v, ix)
					found += len(got)
				}
			}
		}
	}
	if found < 200 {
		t.Error(found)
	}
}

func TestP93NoTwoRowsAreAlike(t *testing.T) {
	source := rand.New(rand.NewSource(38))
	twos := 0
	for range 30 {
		b := impl.BaseNew()
		for range 40 {
			b, _ = madeCall(source, b).got(b)
			for _, table := range b.Tables {
				rows := impl.BaseRows(b, table.Name)
				for i, r := range rows {
					for _, s := range rows[:i] {
						for _, ix := range table.Indexes {
							if wantAlike(ix, r.Vals, s.Vals) {
								t.Fatal(ix, r, s)
							}
							if ix.Only {
								twos++
							}
						}
					}
				}
			}
		}
	}
	if twos < 500 {
		t.Error(twos)
	}
}

func TestP94RowsAreOfTheirColumns(t *testing.T) {
	source := rand.New(rand.NewSource(39))
	for range 30 {
		b := impl.BaseNew()
		for range 40 {
			b, _ = madeCall(source, b).got(b)
			for _, table := range b.Tables {
				ahead := 0
				for _, r := range impl.BaseRows(b, table.Name) {
					if !impl.RowOk(typesOf(table), r.Vals) || wantLacks(table, r.Vals) || r.Num <= ahead || r.Num >= table.Next {
						t.Fatal(r, tellBase(b))
					}
					ahead = r.Num
				}
			}
		}
	}
}

func TestP95ABaseIsReadBack(t *testing.T) {
	for _, b := range append(someBases(), filled()...) {
		pages := impl.BasePages(b)
		if !slices.Equal(pages, wantPages(b)) || len(pages) != 20 {
			t.Fatalf("%q", pages)
		}
		for _, page := range pages {
			if len(page) > 1100 {
				t.Fatal(len(page))
			}
		}
		got, ok := impl.BaseLoad(pages)
		if !ok {
			t.Fatal(tellBase(b))
		}
		mustBase(t, got, 0, b, 0, "read back")
	}
}

func TestP95PagesToldByTheirTexts(t *testing.T) {
	pages := impl.BasePages(twoIndexes())
	if pages[0] != "root 2\ntable t 5\ncol a num(5,2) must\ncol b text\nindex i +0\nindex j only -1\n" {
		t.Errorf("%q", pages[0])
	}
	empty := impl.BasePages(impl.BaseNew())
	if len(empty) != 20 || empty[0] != "root 0\n" || empty[1] != "L" || strings.Join(empty[2:], "") != "" {
		t.Errorf("%q", empty)
	}
	longest := impl.BasePages(longestBase())
	table := "table xxxxxxxx 3\ncol aaaaaaaa num(30,12) must\ncol bbbbbbbb num(30,12)\ncol cccccccc num(30,12)\ncol dddddddd num(30,12) must\nindex iiiiiiii only -3 +0\nindex jjjjjjjj only +1 -2\n"
	if !strings.Contains(longest[0], "\n"+table+"table yyyyyyyy 3\n") {
		t.Errorf("%q", longest[0])
	}
}

// mustLoad holds what is read of pages against what of a base is written so.
func mustLoad(t *testing.T, pages []string, what ...any) bool {
	t.Helper()
	b, ok := impl.BaseLoad(pages)
	if !ok {
		if !noBase(b) {
			t.Fatal("not nothing:", what)
		}
		return false
	}
	if !wantBaseOk(b) || !slices.Equal(wantPages(b), pages) || !slices.Equal(impl.BasePages(b), pages) {
		t.Fatalf("%v %q", what, pages)
	}
	return true
}

// badFirsts is first pages that no base writes, of one whose first page is told.
func badFirsts(first string) []string {
	list := []string{"", "\n", first + "\n", first + " ", " " + first, first[:len(first)-1], first + first, strings.ToUpper(first), strings.ReplaceAll(first, "\n", "\r\n"), strings.ReplaceAll(first, " ", "  "), strings.ReplaceAll(first, "\n", "\n\n"), strings.ReplaceAll(first, "\n", " \n")}
	for from, tos := range map[string][]string{
		"root 2\n":              {"", "root\n", "root \n", "root 02\n", "root +2\n", "root -2\n", "root 3\n", "root 19\n", "root 2 2\n", "root 2\nroot 2\n", "Root 2\n", "root x\n", "root 99999999999999999999\n"},
		"table t 5\n":           {"", "table t\n", "table t 4\n", "table t 0\n", "table t 10001\n", "table t 05\n", "table u 5\n", "table t 5 \n", "table t 5 must\n", "table select 5\n", "table  5\n", "table T 5\n", "table t 5\ntable t 5\n"},
		"col a num(5,2) must\n": {"", "col a num(5,2)\n" + "col a num(5,2) must\n", "col a num(5,2)  must\n", "col a num(5,2) Must\n", "col a num(5,2) must must\n", "col a num(5,02) must\n", "col a num(5,1) must\n", "col a num must\n", "col a text must\n", "col a must\n", "col b num(5,2) must\n", "col num num(5,2) must\n", "col a num(5,2) only\n"},
		"index i +0\n":          {"", "index i -0\n", "index i 0\n", "index i +00\n", "index i +1\n", "index i +2\n", "index i +-0\n", "index i ++0\n", "index i\n", "index i only\n", "index i +0 +1\n", "index i +0 +0\n", "index k +0\n", "index i only +0\n", "index i +0 only\n", "index only +0\n", "index +0\n", "index i +0 \n", "index i + 0\n", "index i +x\n", "index i +\n"},
		"index j only -1\n":     {"", "index j -1\n", "index j Only -1\n", "index j only only -1\n", "index j only --1\n", "index j only -01\n", "index j only -0\n", "index j -1 only\n", "index j only  -1\n", "index i only -1\n", "index j must -1\n"},
	} {
		for _, to := range tos {
			list = append(list, strings.Replace(first, from, to, 1))
		}
	}
	// Two indexes in the other order are those of another base: all but these may not change places.
	lines := strings.SplitAfter(first, "\n")
	for i := range len(lines) - 3 {
		swapped := slices.Clone(lines)
		swapped[i], swapped[i+1] = swapped[i+1], swapped[i]
		list = append(list, strings.Join(swapped, ""))
	}
	return append(list, "col a text\n"+first, "index i +0\n"+first, "col a text\n", "index i +0\n", strings.Repeat("table t 5\n", 2000), "root 2\n"+strings.Repeat("table t 5\ncol a text\n", 2000))
}

func TestP96PagesThatNoBaseWrites(t *testing.T) {
	b := twoIndexes()
	pages := impl.BasePages(b)
	for _, first := range badFirsts(pages[0]) {
		// A column that need not have a value does no harm to rows, nor does an index that need not have all but once.
		may := first == strings.Replace(pages[0], " must", "", 1) || first == strings.Replace(pages[0], " only", "", 1)
		if first == pages[0] {
			t.Fatal("not another one")
		}
		x := append([]string{first}, pages[1:]...)
		if mustLoad(t, x, first) != may {
			t.Errorf("%q", first)
		}
	}
	for _, n := range []int{0, 1, 2, 19, 21, 1000} {
		x := make([]string, n)
		copy(x, pages)
		if mustLoad(t, x, n) {
			t.Error(n)
		}
	}
	if mustLoad(t, nil) || mustLoad(t, make([]string, 20)) {
		t.Error("no pages")
	}
	for _, bad := range badBases() {
		// What no node is cannot be written.
		isNone := func(n impl.Node) bool { return !wantNodeOk(n) && !noNode(n) }
		if len(bad.Tree.Nodes) != 19 || slices.ContainsFunc(bad.Tree.Nodes, isNone) {
			continue
		}
		x := pagesOfBad(bad)
		if mustLoad(t, x, tellBase(bad)) {
			t.Error(tellBase(bad))
		}
	}
}

// pagesOfBad is pages of a base that is not ok, written as if it were.
func pagesOfBad(b impl.Base) []string {
	pages := wantPages(newBase())
	first := fmt.Sprintf("root %d\n", b.Tree.Root)
	for _, t := range b.Tables {
		one := wantPages(impl.Base{Tables: []impl.Table{{Name: t.Name, Cols: t.Cols, Indexes: t.Indexes, Next: t.Next}}, Tree: emptyTree()})
		if one == nil {
			one = []string{fmt.Sprintf("root 0\ntable %s %d\n", t.Name, t.Next)}
		}
		first += strings.TrimPrefix(one[0], "root 0\n")
	}
	pages[0] = first
	for i, n := range b.Tree.Nodes {
		pages[1+i] = wantNodePut(n)
	}
	return pages
}

func TestP96WhatIsReadOfPagesIsABase(t *testing.T) {
	source := rand.New(rand.NewSource(40))
	oks := 0
	bytes := "0123456789abtrootcidexnumly+-:, \n'"
	for _, b := range someBases() {
		pages := impl.BasePages(b)
		if !mustLoad(t, pages) {
			t.Fatal(tellBase(b))
		}
		for range 80 {
			x := slices.Clone(pages)
			at := 0
			if source.Intn(3) == 0 {
				at = source.Intn(20)
			}
			if x[at] == "" {
				x[at] = "L"
			}
			place := source.Intn(len(x[at]))
			sign := bytes[source.Intn(len(bytes))]
			switch source.Intn(5) {
			case 0:
				x[at] = x[at][:place] + string([]byte{sign}) + x[at][place:]
			case 1:
				x[at] = x[at][:place] + x[at][place+1:]
			case 2:
				other := source.Intn(20)
				x[at], x[other] = x[other], x[at]
			default:
				x[at] = x[at][:place] + string([]byte{sign}) + x[at][place+1:]
			}
			if mustLoad(t, x) {
				oks++
			}
		}
	}
	if oks < 50 {
		t.Error("too few that are bases:", oks)
	}
}

func TestBaseLoadOfFarNumbers(t *testing.T) {
	for _, n := range badInts {
		pages := impl.BasePages(twoIndexes())
		for _, first := range []string{fmt.Sprintf("root %d\n", n), fmt.Sprintf("root 2\ntable t %d\ncol a text\n", n), fmt.Sprintf("root 2\ntable t 5\ncol a text\nindex i +%d\n", n)} {
			pages[0] = first
			if mustLoad(t, pages, first) {
				t.Error(first)
			}
		}
	}
	if _, code := impl.BaseDelete(twoIndexes(), "t", math.MaxInt); code != 2 {
		t.Error(code)
	}
}
