package tests

import (
	"fmt"
	"math"
	"math/rand"
	"slices"
	"strings"
	"testing"

	"loop.example/jetton/impl"
)

func TestP116ANewEngine(t *testing.T) {
	e := impl.EngineNew()
	mustEngine(t, e, "", newEngine(), "", "new")
	if !impl.EngineOk(e) || e.In || len(e.Base.Tables) != 0 || e.Store.Turn != 1 || e.Store.Next != 2 {
		t.Error(tellEngine(e))
	}
	up, ok := impl.EngineRise(e.Store.Disk)
	if !ok || !sameBase(up.Kept, newBase()) {
		t.Error(ok, tellEngine(up))
	}
}

func TestP116EnginesThatAreOk(t *testing.T) {
	in, full := 0, 0
	for i, e := range someEngines() {
		if !wantEngineOk(e) || !impl.EngineOk(e) {
			t.Fatal(i, tellEngine(e))
		}
		// How long its disk goes does not matter.
		for _, n := range []int{-1, 0, 1, 1000} {
			if !impl.EngineOk(lasting(e, n, -1)) || !impl.EngineOk(lasting(e, -1, n)) {
				t.Error(i, n)
			}
		}
		// What is not in the midst of anything could be, with a base of its own.
		begun := e
		begun.In, begun.Base = true, shopBase()
		if !impl.EngineOk(begun) {
			t.Error(i, tellEngine(begun))
		}
		if e.In {
			in++
		}
		if len(wantPairs(e.Base.Tree)) > 20 {
			full++
		}
	}
	if in < 3 || full < 3 {
		t.Error("few:", in, full)
	}
}

func TestP116EnginesThatAreNotOk(t *testing.T) {
	for i, e := range badEngines() {
		if impl.EngineOk(e) || wantEngineOk(e) {
			t.Fatal(i, tellEngine(e))
		}
		for _, text := range []string{"select * from acct", "begin", "commit", "rollback", "", "none", "table q (a text)"} {
			x, answer := impl.EngineDo(e, text)
			if answer != "" || !noEngine(x) {
				t.Error(i, text, answer, tellEngine(x))
			}
			if d := impl.EngineFall(e, text, -1, 0, 0, 0); !noDisk(d) {
				t.Error(i, text)
			}
		}
	}
}

// answering is a statement behind others, and its answer.
type answering struct {
	ahead  []string
	text   string
	answer string
}

// two is a table with rows that lack values, and with a number that is 0.
var two = []string{"table t (a num(4,1) must, b text, c num(3,0))", "insert t (1, 'x', 0)", "insert t (2.55, 'y', 2)", "insert t (3, null, null)"}

// with is lines with some more.
func with(lines []string, more ...string) []string {
	return append(slices.Clone(lines), more...)
}

// answerings is each word that is answered, by each statement that can answer it.
func answerings() []answering {
	only := with(two, "index o on t (b) only")
	three := []string{"table a (a text)", "table b (a text)", "table c (a text)"}
	return []answering{
		{nil, "", "form\n"}, {nil, "tables", "form\n"}, {nil, "select", "form\n"}, {two, "insert t ()", "form\n"}, {two, "select * from t limit 10000", "form\n"},
		{nil, "table t (a text)", "ok\n"}, {two, "table t (b text)", "twice\n"}, {two, "table t (a num(4,1) must, b text, c num(3,0))", "twice\n"}, {three, "table d (a text)", "full\n"}, {three, "table b (a text)", "twice\n"}, {nil, "table t (a text, a text)", "form\n"},
		{two, "drop table t", "ok\n"}, {nil, "drop table t", "none\n"}, {two, "drop table u", "none\n"}, {with(two, "drop table t"), "drop table t", "none\n"}, {with(three, "drop table b"), "table d (a text)", "ok\n"}, {with(two, "drop table t"), "table t (a text)", "ok\n"},
		{two, "index i on t (a)", "ok\n"}, {two, "index i on t (a down, b) only", "ok\n"}, {nil, "index i on t (a)", "none\n"}, {two, "index i on u (a)", "none\n"}, {two, "index i on t (d)", "name\n"}, {two, "index i on t (a, d)", "name\n"}, {nil, "index i on t (d)", "none\n"},
		{only, "index o on t (a)", "twice\n"}, {only, "index o on t (d)", "name\n"}, {with(only, "index i on t (a)"), "index k on t (a)", "full\n"}, {with(only, "index i on t (a)"), "index i on t (a)", "twice\n"}, {with(two, "insert t (3, 'x', 2)"), "index i on t (b) only", "only\n"}, {with(two, "insert t (3, 'x', 2)"), "index i on t (b, a) only", "ok\n"}, {with(two, "insert t (3, null, 2)"), "index i on t (b) only", "ok\n"}, {with(two, "insert t (1, 'x', 2)"), "index i on t (b, a) only", "only\n"},
		{only, "drop index o on t", "ok\n"}, {two, "drop index o on t", "none\n"}, {only, "drop index o on u", "none\n"}, {only, "drop index t on o", "none\n"}, {with(only, "drop index o on t"), "drop index o on t", "none\n"},
		{two, "insert t (1, 'x', 2)", "ok\n"}, {nil, "insert t (1)", "none\n"}, {two, "insert u (1, 'x', 2)", "none\n"}, {two, "insert t (1, 'x')", "type\n"}, {two, "insert t (1, 'x', 2, 3)", "type\n"}, {two, "insert t ('x', 1, 2)", "type\n"}, {two, "insert t (1, 2, 3)", "type\n"}, {two, "insert t (true, 'x', 2)", "type\n"}, {two, "insert t (1, 'x', @2024-01-31)", "type\n"}, {two, "insert t (1, 'x', #0m0d)", "type\n"}, {two, "insert t ('1', 'x', 2)", "type\n"},
		{two, "insert t (1000, 'x', 2)", "over\n"}, {two, "insert t (999.95, 'x', 2)", "over\n"}, {two, "insert t (999.94, 'x', 2)", "ok\n"}, {two, "insert t (-999.95, 'x', 2)", "over\n"}, {two, "insert t (1, 'x', 999.5)", "over\n"}, {two, "insert t (1, 'x', 999.4)", "ok\n"}, {two, "insert t (999999999999999999999999999999, 'x', 2)", "over\n"},
		{two, "insert t (1000, 2, 2)", "over\n"}, {two, "insert t ('x', 'x', 1000)", "type\n"}, {two, "insert t (1000, 'x')", "type\n"}, {two, "insert t (1, 2, 1000)", "type\n"},
		{two, "insert t (null, 'x', 2)", "null\n"}, {two, "insert t (1, null, null)", "ok\n"}, {two, "insert t (null, 1, 2)", "type\n"}, {two, "insert t (null, 'x', 1000)", "over\n"}, {only, "insert t (1, 'x', 2)", "only\n"}, {only, "insert t (1, 'z', 2)", "ok\n"}, {only, "insert t (1, null, 2)", "ok\n"}, {only, "insert t (null, 'x', 2)", "null\n"}, {only, "insert t (1000, 'x', 2)", "over\n"},
		{two, "delete t", "ok 3\n"}, {two, "delete t where a > 1", "ok 2\n"}, {two, "delete t where a > 9", "ok 0\n"}, {two, "delete t where null", "ok 0\n"}, {two, "delete t where b = null", "ok 0\n"}, {two, "delete t where b is null", "ok 1\n"}, {two, "delete t where true", "ok 3\n"}, {with(two, "delete t"), "delete t", "ok 0\n"},
		{nil, "delete t", "none\n"}, {two, "delete u where q", "none\n"}, {two, "delete t where d = 1", "name\n"}, {two, "delete t where t.a = 1", "name\n"}, {two, "delete t where a = 'x' and d = 1", "name\n"}, {two, "delete t where a = 'x'", "type\n"}, {two, "delete t where a", "type\n"}, {two, "delete t where a + 1", "type\n"}, {two, "delete t where not b", "type\n"}, {two, "delete t where null + 1", "ok 0\n"},
		{two, "delete t where 1 / c > 0", "zero\n"}, {two, "delete t where a > 1 and 1 / c > 0", "zero\n"}, {two, "delete t where 999999999999999999999999999999 * c > 0", "over\n"}, {two, "delete t where a * 999999999999999999999999999999 > 0 or 1 / c > 0", "over\n"}, {two, "delete t where 1 / c > 0 or a * 999999999999999999999999999999 > 0", "zero\n"}, {with(two, "delete t where c = 0"), "delete t where 1 / c > 0", "ok 1\n"}, {with(two, "delete t"), "delete t where 1 / 0 > 0", "ok 0\n"},
		{two, "update t set c = 7", "ok 3\n"}, {two, "update t set c = 7 where a = 1", "ok 1\n"}, {two, "update t set c = 7, b = 'z' where a = 9", "ok 0\n"}, {two, "update t set b = null", "ok 3\n"}, {two, "update t set c = c", "ok 3\n"}, {two, "update t set c = null + c", "ok 3\n"},
		{nil, "update t set a = 1", "none\n"}, {two, "update u set q = q", "none\n"}, {two, "update t set d = 1", "name\n"}, {two, "update t set a = d", "name\n"}, {two, "update t set a = t.a", "name\n"}, {two, "update t set a = 'x', d = 1", "name\n"}, {two, "update t set a = 'x', c = d", "name\n"}, {two, "update t set a = 1 where d = 1", "name\n"},
		{two, "update t set a = 'x'", "type\n"}, {two, "update t set b = 1", "type\n"}, {two, "update t set a = a = 1", "type\n"}, {two, "update t set a = a + b", "type\n"}, {two, "update t set c = 1, a = 'x'", "type\n"}, {two, "update t set a = 'x' where d = 1", "type\n"}, {two, "update t set a = 1 where a", "type\n"}, {two, "update t set a = 1 where a = 'x'", "type\n"}, {two, "update t set a = 'x' where 1 / c > 0", "type\n"}, {two, "update t set a = 1 / 0 where a = 'x'", "type\n"},
		{two, "update t set a = 1 where 1 / c > 0", "zero\n"}, {two, "update t set a = 1 / 0 where 999999999999999999999999999999 * c > 0", "over\n"}, {two, "update t set a = 1000 where 1 / c > 0", "zero\n"}, {two, "update t set a = 1 / c", "zero\n"}, {two, "update t set a = 1 / c where c > 0", "ok 1\n"}, {two, "update t set c = 999999999999999999999999999999 * a", "over\n"}, {two, "update t set a = 1000", "over\n"}, {two, "update t set a = 1000 where a = 9", "ok 0\n"}, {two, "update t set a = 1 / 0 where a = 9", "ok 0\n"}, {two, "update t set a = a * 400", "over\n"}, {two, "update t set a = 1000, c = 1 / c", "over\n"}, {two, "update t set c = 1 / c, a = 1000", "zero\n"}, {two, "update t set a = null + 1, c = 1000", "over\n"},
		{two, "update t set a = null", "null\n"}, {two, "update t set a = null where a = 9", "ok 0\n"}, {two, "update t set a = c", "null\n"}, {two, "update t set a = c where c is not null", "ok 2\n"}, {two, "update t set a = null, c = 1000", "over\n"},
		{only, "update t set b = 'x'", "only\n"}, {only, "update t set b = 'x' where a > 2 and b is null", "only\n"}, {only, "update t set b = 'x' where b = 'x'", "ok 1\n"}, {only, "update t set b = 'z' where b is null", "ok 1\n"}, {only, "update t set b = null", "ok 3\n"}, {only, "update t set b = 'z', a = null", "null\n"}, {only, "update t set b = 'y', a = null where a = 1", "null\n"},
		{two, "select * from t where a > 9", "rows 0\n"}, {two, "select a, b, c from t", "rows 3\n1.0, 'x', 0\n2.6, 'y', 2\n3.0, null, null\n"}, {two, "select * from t order by c down limit 1", "rows 1\n2.6, 'y', 2\n"}, {two, "select count from t where a > 9", "rows 1\n0\n"}, {two, "select c, count from t group by c", "rows 3\nnull, 1\n0, 1\n2, 1\n"}, {two, "select a, t.b from t join t on a = t.a limit 2", "rows 2\n1.0, 'x'\n2.6, 'y'\n"},
		{nil, "select * from t", "none\n"}, {two, "select * from t join u on a = u.a", "none\n"}, {two, "select d from t", "name\n"}, {two, "select * from t join t on d = t.a", "name\n"}, {two, "select * from t order by d", "name\n"}, {two, "select count from t group by d", "name\n"}, {two, "select * from t where d = 1", "name\n"}, {two, "select sum(b) from t", "type\n"}, {two, "select * from t where b", "type\n"}, {two, "select * from t join t on a = t.b", "type\n"}, {two, "select a, count from t", "group\n"}, {two, "select * from t group by a", "group\n"}, {two, "select a from t group by a order by a", "group\n"}, {two, "select a from t where 1 / c > 0", "zero\n"}, {two, "select a from t where 1 / c > 0 limit 0", "zero\n"}, {two, "select a from t where 999999999999999999999999999999 * c > 0", "over\n"},
		{with(nil, "table t (a num(30,0))", "insert t (999999999999999999999999999999)", "insert t (1)"), "select sum(a) from t", "over\n"},
		{nil, "begin", "ok\n"}, {with(two, "begin"), "begin", "open\n"}, {nil, "commit", "none\n"}, {nil, "rollback", "none\n"}, {with(two, "begin"), "commit", "ok\n"}, {with(two, "begin"), "rollback", "ok\n"}, {with(two, "begin", "delete t"), "commit", "ok\n"}, {with(two, "begin", "delete t"), "rollback", "ok\n"}, {with(two, "begin", "commit"), "commit", "none\n"}, {with(two, "begin", "rollback"), "rollback", "none\n"}, {with(two, "begin", "commit"), "begin", "ok\n"}, {with(two, "begin", "delete t"), "begin", "open\n"}, {with(two, "begin", "delete t"), "select count from t", "rows 1\n0\n"}, {with(two, "begin", "delete t", "rollback"), "select count from t", "rows 1\n3\n"}, {with(two, "begin", "delete t", "commit"), "select count from t", "rows 1\n0\n"},
	}
}

func TestP116WhatIsAnswered(t *testing.T) {
	for _, a := range answerings() {
		e := impl.EngineNew()
		for _, line := range a.ahead {
			x, answer := mustEngineDo(t, e, line)
			if !isDone(answer) {
				t.Fatal(line, answer)
			}
			e = x
		}
		if _, answer := mustEngineDo(t, e, a.text); answer != a.answer {
			t.Errorf("behind %q %q answers %q, want %q", a.ahead, a.text, answer, a.answer)
		}
		// In the midst of many statements the same is answered, and nothing is kept.
		if st, ok := wantStmtGet(a.text); e.In || ok && st.Kind >= stBegin {
			continue
		}
		in, _ := mustEngineDo(t, e, "begin")
		x, answer := mustEngineDo(t, in, a.text)
		if answer != a.answer || !x.In || !sameBase(x.Kept, e.Kept) || !sameStore(x.Store, e.Store) {
			t.Errorf("in the midst %q answers %q, want %q\n%s", a.text, answer, a.answer, tellEngine(x))
		}
	}
}

// crowded is an engine whose tree has no room for one more row.
func crowded() impl.Engine {
	e := engineOf("table t (a num(3,0), b num(3,0))", "index i on t (a)", "index j on t (b down) only")
	for n := 1; ; n++ {
		x, answer := wantEngineDo(e, fmt.Sprintf("insert t (%d, %d)", n*37%100, n))
		if answer == "full\n" {
			return e
		}
		e = x
	}
}

func TestP116ATreeThatIsFull(t *testing.T) {
	e := crowded()
	if n := len(wantBaseRows(e.Base, "t")); n < 9 {
		t.Fatal(n)
	}
	words := map[string]int{}
	for a := range 30 {
		for _, form := range []string{"insert t (%d, 500)", "update t set a = %d where b = 3", "update t set b = b + 100, a = %d", "update t set a = a * %d"} {
			x, answer := mustEngineDo(t, e, fmt.Sprintf(form, a*4))
			words[strings.Fields(form)[0]+" "+answer]++
			if answer == "full\n" && !sameEngine(x, e) {
				t.Error(form, a)
			}
		}
	}
	if words["insert full\n"] == 0 {
		t.Error(words)
	}
	// An index more needs a key for each row.
	less, _ := mustEngineDo(t, e, "drop index i on t")
	more := less
	for n := 1; n < 30; n++ {
		x, answer := mustEngineDo(t, more, fmt.Sprintf("insert t (%d, %d)", n, 100+n))
		if answer == "full\n" {
			break
		}
		more = x
	}
	if x, answer := mustEngineDo(t, more, "index i on t (a)"); answer != "full\n" || !sameEngine(x, more) {
		t.Error(answer)
	}
	// Statements that come later are done.
	if _, answer := mustEngineDo(t, more, "delete t"); !isDone(answer) {
		t.Error(answer)
	}
	// Numbers of rows come to an end.
	for next, want := range map[int]string{9998: "ok\n", 9999: "ok\n", 10000: "full\n"} {
		e := keptIn(withNext(twoIndexes(), next))
		if _, answer := mustEngineDo(t, e, "insert t (1, 'z')"); answer != want {
			t.Error(next, answer)
		}
	}
}

// An update that finds no room in the midst of its rows is not done at all.
func TestP116AnUpdateThatFindsNoRoom(t *testing.T) {
	source := rand.New(rand.NewSource(150))
	full := 0
	for range 150 {
		e := engineOf("table t (a num(3,0), b num(3,0))", "index i on t (a)", "index j on t (b)")
		b := e.Base
		for range 14 {
			x, code := wantInsert(b, "t", rowOf(fmt.Sprint(source.Intn(900)), fmt.Sprint(source.Intn(900))))
			if code == 0 {
				b = x
			}
		}
		e = keptIn(b)
		text := fmt.Sprintf("update t set a = %d - a, b = %d - b where b > %d", 900+source.Intn(90), 900+source.Intn(90), source.Intn(500))
		want, answer := wantEngineDo(e, text)
		if answer == "full\n" {
			full++
			got, told := impl.EngineDo(e, text)
			mustEngine(t, got, told, want, answer, text)
			if !sameEngine(got, e) {
				t.Error(text)
			}
		}
	}
	if full == 0 {
		t.Error("no update was refused by a full tree")
	}
}

func TestP116ValuesThatComeIn(t *testing.T) {
	types := []string{"bool", "num(4,1)", "num(3,3)", "num(1,0)", "num(30,12)", "num(30,0)", "day", "span", "text"}
	words := map[string]int{}
	for _, kind := range types {
		e := engineOf("table t (a "+kind+")", "insert t (null)")
		for _, v := range append(otherValues(), rowOf("0", "0.0", "0.05", "0.04", "0.95", "9.5", "9.4", "-9.5", "0.9995", "0.9994", "-0.9995", "999.95", "999.949999999999", "1", "-1", "null", "''", "'true'", "'1'")...) {
			row, word := wantTaken(v, typeOf(kind))
			if word == "" {
				word = "ok"
			}
			words[word]++
			x, answer := mustEngineDo(t, e, "insert t ("+wantPut(v)+")")
			if answer != word+"\n" || word == "ok" && !sameValue(impl.BaseRows(x.Kept, "t")[1].Vals[0], row) {
				t.Fatal(kind, wantPut(v), answer, word)
			}
			if word == "ok" {
				word = "ok 1"
			}
			if len(wantExprPut([]impl.Part{{Op: opVal, Val: v}})) > 0 {
				x, answer = mustEngineDo(t, e, "update t set a = "+wantPut(v))
				if answer != word+"\n" || word == "ok 1" && !sameValue(impl.BaseRows(x.Kept, "t")[0].Vals[0], row) {
					t.Fatal(kind, wantPut(v), answer, word)
				}
			}
		}
	}
	if words["ok"] < 30 || words["over"] < 10 || words["type"] < 50 {
		t.Error(words)
	}
}

// mustTell holds what a table's rows are.
func mustTell(t *testing.T, e impl.Engine, text string, want string) {
	t.Helper()
	if _, answer := impl.EngineDo(e, text); answer != want {
		t.Errorf("%q answers %q, want %q", text, answer, want)
	}
}

// doneAll is an engine behind statements, each with its answer.
func doneAll(t *testing.T, e impl.Engine, lines ...string) impl.Engine {
	t.Helper()
	for _, line := range lines {
		text, want, _ := strings.Cut(line, " => ")
		x, answer := mustEngineDo(t, e, text)
		if answer != want+"\n" {
			t.Fatalf("%q answers %q, want %q", text, answer, want)
		}
		e = x
	}
	return e
}

func TestP116UpdatesReadWhatTheRowHad(t *testing.T) {
	e := engineOf("table t (a num(3,0), b num(3,0), c text)", "insert t (1, 2, 'x')", "insert t (3, 4, 'y')")
	x := doneAll(t, e, "update t set a = b, b = a => ok 2")
	mustTell(t, x, "select * from t", "rows 2\n2, 1, 'x'\n4, 3, 'y'\n")
	x = doneAll(t, e, "update t set a = a + b, b = a * b where b > a => ok 2")
	mustTell(t, x, "select * from t", "rows 2\n3, 2, 'x'\n7, 12, 'y'\n")
	x = doneAll(t, e, "update t set a = a / 2 + 0.4 where a = 3 => ok 1")
	mustTell(t, x, "select a from t", "rows 2\n1\n2\n")
	// Rows are set one behind the other, by their numbers: an index that has all but once refuses what is in the way yet.
	e = engineOf("table t (a num(3,0))", "index i on t (a) only", "insert t (1)", "insert t (2)", "insert t (3)")
	doneAll(t, e, "update t set a = a + 1 => only", "update t set a = a - 1 => ok 3", "update t set a = a + 1 => only", "update t set a = a + 10 => ok 3", "update t set a = 23 - a => only", "update t set a = 5 => only", "update t set a = 5 where a = 11 => ok 1")
	e = doneAll(t, e, "update t set a = a + 1 where a = 3 => ok 1", "update t set a = a + 1 where a = 2 => ok 1", "update t set a = a + 1 where a = 1 => ok 1")
	mustTell(t, e, "select a from t", "rows 3\n2\n3\n4\n")
	// A row that is refused last takes all that was set ahead of it back.
	e = engineOf("table t (a num(1,0))", "insert t (1)", "insert t (2)", "insert t (9)")
	x, answer := mustEngineDo(t, e, "update t set a = a + 1")
	if answer != "over\n" || !sameEngine(x, e) {
		t.Error(answer)
	}
	e = engineOf("table t (a num(3,0))", "index i on t (a) only", "insert t (1)", "insert t (5)", "insert t (3)", "insert t (4)")
	x, answer = mustEngineDo(t, e, "update t set a = a + 1 where a < 4")
	if answer != "only\n" || !sameEngine(x, e) {
		t.Error(answer)
	}
}

// mustPlayOn does any statements, held against the second engine at each step.
func mustPlayOn(t *testing.T, source *rand.Rand, e impl.Engine, steps int, words map[string]int) {
	t.Helper()
	for range steps {
		text := stmtMaker{source: source, base: e.Base, wrong: 15}.text()
		switch source.Intn(12) {
		case 0, 1:
			text = []string{"begin", "commit", "rollback", "commit"}[source.Intn(4)]
		case 2:
			text = spoilt(source, text)
		}
		room := []int{-1, -1, -1, -1, 0, 1, 3, 9}[source.Intn(8)]
		x, answer := mustEngineDo(t, lasting(e, room, -1), text)
		if !impl.EngineOk(x) {
			t.Fatal(text, tellEngine(x))
		}
		words[strings.Fields(answer)[0]]++
		e = lasting(x, -1, -1)
	}
}

func TestP116StatementsThatAreMade(t *testing.T) {
	source := rand.New(rand.NewSource(151))
	words := map[string]int{}
	for _, e := range someEngines() {
		mustPlayOn(t, source, e, 40, words)
	}
	for range 10 {
		mustPlayOn(t, source, impl.EngineNew(), 60, words)
	}
	for _, word := range []string{"ok", "rows", "form", "open", "none", "twice", "type", "null", "only", "full", "name", "zero", "over"} {
		if words[word] == 0 {
			t.Error("never answered:", word, words)
		}
	}
}

func TestP117WhoAsksChangesNothing(t *testing.T) {
	source := rand.New(rand.NewSource(152))
	for _, e := range someEngines() {
		if len(e.Base.Tables) == 0 {
			continue
		}
		m := queryMaker{source: source, base: e.Base, wrong: 15, joins: true, groups: true, sorts: true}
		for range 8 {
			text := wantStmtPut(impl.Stmt{Kind: stSelect, Query: m.query()})
			for _, d := range []impl.Engine{e, lasting(e, 0, -1), lasting(e, -1, 0), lasting(e, 0, 0), lasting(e, 3, 7)} {
				x, answer := mustEngineDo(t, d, text)
				if !sameEngine(x, d) || text != "" && answer == "form\n" || answer == "full\n" || answer == "down\n" {
					t.Fatal(text, answer, tellEngine(x))
				}
			}
		}
	}
}

// Statements that change no page need no disk.
func TestP117WhatChangesNoPageWritesNothing(t *testing.T) {
	e := engineOf(accounts...)
	for _, d := range []impl.Engine{lasting(e, 0, -1), lasting(e, -1, 0), lasting(e, 0, 0)} {
		for text, want := range map[string]string{"delete acct where id > 9": "ok 0\n", "update acct set id = id": "ok 3\n", "update acct set id = 7 where id > 9": "ok 0\n", "update acct set owner = owner, bal = bal": "ok 3\n", "commit": "none\n", "rollback": "none\n", "table acct (a text)": "twice\n", "insert acct (1, null, null, null)": "only\n", "no": "form\n"} {
			x, answer := mustEngineDo(t, d, text)
			if answer != want || !sameEngine(x, d) {
				t.Error(text, answer, tellEngine(x))
			}
		}
		in, answer := mustEngineDo(t, d, "begin")
		if answer != "ok\n" || !sameStore(in.Store, d.Store) || !in.In {
			t.Error(answer)
		}
		// What is done in the midst is not written until it is kept.
		more, answer := mustEngineDo(t, in, "delete acct")
		if answer != "ok 3\n" || !sameStore(more.Store, d.Store) || !sameBase(more.Kept, e.Kept) {
			t.Error(answer, tellEngine(more))
		}
		for _, line := range []string{"commit", "rollback"} {
			x, answer := mustEngineDo(t, in, line)
			if answer != "ok\n" || !sameEngine(x, d) {
				t.Error(line, answer, tellEngine(x))
			}
		}
		if x, answer := mustEngineDo(t, more, "rollback"); answer != "ok\n" || !sameEngine(x, d) {
			t.Error(answer, tellEngine(x))
		}
	}
	// A table that comes and goes in the midst leaves nothing to write.
	d := begun(lasting(e, 0, 0), "table q (a text)", "drop table q")
	if x, answer := mustEngineDo(t, d, "commit"); answer != "ok\n" || !sameEngine(x, lasting(e, 0, 0)) {
		t.Error(answer)
	}
}

// deed is a statement to an engine, behind which power may be lost.
type deed struct {
	engine impl.Engine
	text   string
}

// someDeeds is statements that write: alone, many in one, with a log that has no room, and tried too often.
func someDeeds() []deed {
	e := engineOf(accounts...)
	tried := e
	tried.Store.Try = 99
	list := []deed{
		{newEngine(), "table t (a text)"}, {e, "delete acct where id < 3"}, {e, "update acct set bal = bal * 2, owner = 'z'"}, {e, "insert acct (4, 'dan', 1, null)"}, {e, "drop table acct"}, {e, "select * from acct"}, {e, "insert acct (1, 'dan', 1, null)"}, {e, "nothing"}, {tried, "delete acct"},
		{begun(e, "delete acct where id = 1", "insert acct (9, 'eve', 1, null)"), "commit"}, {begun(e, "delete acct"), "rollback"}, {begun(e, "delete acct"), "insert acct (5, null, null, null)"}, {begun(e), "commit"}, {e, "begin"}, {begun(newEngine(), accounts...), "commit"},
		{keptIn(longestBase()), "delete xxxxxxxx"}, {keptIn(shopBase()), "update item set kind = 'z'"},
	}
	// The log is filled, so that the store comes to rest first.
	full := e
	for n := 10; full.Store.Next < 18; n++ {
		full, _ = wantEngineDo(full, fmt.Sprintf("update acct set bal = %d where id = 1", n))
	}
	return append(list, deed{full, "delete acct"}, deed{full, "update acct set id = id + 10, owner = 'q'"}, deed{begun(full, "insert acct (4, null, null, null)"), "commit"})
}

// actsOf is how many acts a deed takes.
func actsOf(d deed) int {
	x, _ := wantEngineDo(lasting(d.engine, -1, 1000), d.text)
	return 1000 - x.Store.Disk.Left
}

// cut is which of what waits stays, and which is torn behind so many bytes.
type cut struct {
	mask, tear, bytes int
}

// someCuts is cuts of all sorts.
func someCuts(source *rand.Rand) []cut {
	list := []cut{{0, -1, 0}, {math.MaxInt, -1, 0}, {1<<60 - 1, 0, 9}, {0, 0, 0}, {0, 0, 1}, {0, 0, 30}, {0, 1, 10000}, {1, 1, 12}, {2, 0, math.MaxInt}, {0, 3, math.MinInt}}
	for range 4 {
		list = append(list, cut{source.Intn(1 << 12), source.Intn(8) - 1, source.Intn(200)})
	}
	return list
}

// mustFall lets power be lost in a deed, and holds what is up again to P118 and P123.
func mustFall(t *testing.T, d deed, left int, c cut) impl.Engine {
	t.Helper()
	disk := impl.EngineFall(d.engine, d.text, left, c.mask, c.tear, c.bytes)
	if want := wantEngineFall(d.engine, d.text, left, c.mask, c.tear, c.bytes); !sameDisk(disk, want) {
		t.Fatal(d.text, left, c, "another disk")
	}
	up, ok := impl.EngineRise(disk)
	want, wantOk := wantEngineRise(disk)
	if ok != wantOk || !sameEngine(up, want) {
		t.Fatal(d.text, left, c, ok, tellEngine(up), tellEngine(want))
	}
	if !ok || !impl.EngineOk(up) || up.In || !sameBase(up.Base, up.Kept) {
		t.Fatal(d.text, left, c, ok, tellEngine(up))
	}
	return up
}

func TestP118AllOfAStatementIsThereOrNothing(t *testing.T) {
	source := rand.New(rand.NewSource(153))
	for i, d := range someDeeds() {
		then, _ := impl.EngineDo(d.engine, d.text)
		acts := actsOf(d)
		was, is := 0, 0
		for left := -1; left <= acts+1; left++ {
			for _, c := range someCuts(source) {
				up := mustFall(t, d, left, c)
				old, whole := sameBase(up.Base, d.engine.Kept), sameBase(up.Base, then.Kept)
				if !old && !whole || (left < 0 || left > acts) && !whole || left == 0 && !old {
					t.Fatal(i, d.text, left, c, tellEngine(up))
				}
				if whole {
					is++
				} else {
					was++
				}
			}
		}
		if is == 0 || acts > 0 && was == 0 {
			t.Error(i, d.text, acts, was, is)
		}
	}
}

// Power is lost while an engine that fell before rises, at whatever act, and once more.
func TestP118PowerIsLostWhileItRises(t *testing.T) {
	source := rand.New(rand.NewSource(154))
	for i, d := range someDeeds() {
		for _, left := range []int{-1, source.Intn(actsOf(d) + 1), actsOf(d), max(0, actsOf(d)-1)} {
			c := someCuts(source)[source.Intn(14)]
			disk := impl.EngineFall(d.engine, d.text, left, c.mask, c.tear, c.bytes)
			up := mustFall(t, d, left, c)
			for again := 0; again < 14; again++ {
				x, ok := impl.EngineRise(impl.DiskSet(disk, impl.DiskForever, again))
				store, code := wantRise(withEnds(disk, -1, again))
				if ok != (code == 0) || !ok && !noEngine(x) || ok && !sameBase(x.Base, up.Base) || ok && !sameStore(x.Store, store) {
					t.Fatal(i, d.text, left, again, ok, code)
				}
				for _, c := range someCuts(source) {
					y, ok := impl.EngineRise(impl.DiskCrash(store.Disk, c.mask, c.tear, c.bytes))
					if !ok || !impl.EngineOk(y) || !sameBase(y.Base, up.Base) {
						t.Fatal(i, d.text, left, again, c, ok)
					}
				}
			}
		}
	}
}

func TestP118FallsOfNoSuchKind(t *testing.T) {
	e := engineOf(accounts...)
	for _, n := range append([]int{-2, -3}, badInts...) {
		if n >= 0 {
			continue
		}
		if d := impl.EngineFall(e, "delete acct", n, 0, 0, 0); !noDisk(d) {
			t.Error("left", n)
		}
		if d := impl.EngineFall(e, "delete acct", -1, n, 0, 0); !noDisk(d) {
			t.Error("mask", n)
		}
	}
	if d := impl.EngineFall(e, "delete acct", -1, -1, 0, 0); !noDisk(d) {
		t.Error("mask")
	}
	// Of tear and bytes there are no wrong ones.
	for _, n := range append([]int{-1, 100}, badInts...) {
		for left := -1; left < 5; left++ {
			mustFall(t, deed{e, "delete acct"}, left, cut{0, n, 5})
			mustFall(t, deed{e, "delete acct"}, left, cut{0, 0, n})
		}
		if n >= -1 {
			mustFall(t, deed{e, "delete acct"}, n, cut{0, 0, 0})
		}
		if n >= 0 {
			mustFall(t, deed{e, "delete acct"}, 1, cut{n, 0, 0})
		}
	}
	// How much room the disk has stays as it was.
	for room := -1; room < 6; room++ {
		for left := -1; left < 6; left++ {
			mustFall(t, deed{lasting(e, room, 3), "update acct set owner = 'z'"}, left, cut{3, 2, 40})
		}
	}
}

func TestP119WhatWasAnsweredWithDoneIsThere(t *testing.T) {
	source := rand.New(rand.NewSource(155))
	done := 0
	for i, d := range someDeeds() {
		for left := -1; left <= actsOf(d)+2; left++ {
			x, answer := mustEngineDo(t, lasting(d.engine, -1, left), d.text)
			if !isDone(answer) || x.In {
				continue
			}
			done++
			for _, c := range someCuts(source) {
				up, ok := impl.EngineRise(impl.DiskCrash(x.Store.Disk, c.mask, c.tear, c.bytes))
				if !ok || !sameBase(up.Base, x.Base) || up.In {
					t.Fatal(i, d.text, left, c, ok, tellEngine(up))
				}
			}
		}
	}
	if done < 30 {
		t.Error(done)
	}
}

// A disk that stops in the midst of a statement is told of.
func TestP119ADiskThatStops(t *testing.T) {
	for i, d := range someDeeds() {
		acts := actsOf(d)
		for left := 0; left <= acts+1 && acts > 0; left++ {
			x, answer := mustEngineDo(t, lasting(d.engine, -1, left), d.text)
			if (answer == "down\n") != (left <= acts) {
				t.Fatal(i, d.text, left, acts, answer)
			}
			if answer == "down\n" && (x.In || !sameBase(x.Base, d.engine.Kept) || !sameBase(x.Kept, d.engine.Kept)) {
				t.Fatal(i, d.text, left, tellEngine(x))
			}
		}
	}
}

// writesOf is how many writes a deed takes.
func writesOf(d deed) int {
	x, _ := wantEngineDo(lasting(d.engine, 1000, -1), d.text)
	return 1000 - x.Store.Disk.Room
}

func TestP120WhatTheDiskRefusesIsAsIfItHadNotBeenAsked(t *testing.T) {
	for i, d := range someDeeds() {
		then, answer := impl.EngineDo(d.engine, d.text)
		writes := writesOf(d)
		for room := 0; room <= writes+1; room++ {
			x, told := mustEngineDo(t, lasting(d.engine, room, -1), d.text)
			if told == answer && room >= writes {
				if !sameBase(x.Base, then.Base) || !sameBase(x.Kept, then.Kept) || x.In != then.In {
					t.Fatal(i, d.text, room, tellEngine(x))
				}
				continue
			}
			if told != "full\n" || room >= writes || x.In || !sameBase(x.Base, d.engine.Kept) || !sameBase(x.Kept, d.engine.Kept) {
				t.Fatal(i, d.text, room, told, tellEngine(x))
			}
			// What was refused is not there behind a fall, either; with room it is done then.
			x = lasting(x, -1, -1)
			up, ok := impl.EngineRise(x.Store.Disk)
			if !impl.EngineOk(x) || !ok || !sameBase(up.Base, d.engine.Kept) {
				t.Fatal(i, d.text, room, ok)
			}
			if d.engine.In {
				continue
			}
			y, told := mustEngineDo(t, x, d.text)
			if told != answer || !sameBase(y.Base, then.Base) || !sameBase(y.Kept, then.Kept) {
				t.Fatal(i, d.text, room, told, tellEngine(y))
			}
		}
	}
}

// What comes behind a full: it is done, it is refused again, it is asked, and power is lost in it.
func TestP120WhatComesBehindAFull(t *testing.T) {
	source := rand.New(rand.NewSource(156))
	e := engineOf(accounts...)
	for room := range 3 {
		x, answer := mustEngineDo(t, lasting(e, room, -1), "update acct set bal = bal + 1, id = id + 10")
		if answer != "full\n" {
			t.Fatal(room, answer)
		}
		again, answer := mustEngineDo(t, lasting(x, room, -1), "update acct set bal = bal + 1, id = id + 10")
		if answer != "full\n" {
			t.Fatal(room, answer)
		}
		again = lasting(again, -1, -1)
		mustTell(t, again, "select id, bal from acct", "rows 3\n1, 100.01\n2, -3.50\n3, 7.00\n")
		d := deed{again, "delete acct where id = 2"}
		then, _ := impl.EngineDo(d.engine, d.text)
		for left := -1; left <= actsOf(d); left++ {
			for _, c := range someCuts(source) {
				if up := mustFall(t, d, left, c); !sameBase(up.Base, e.Kept) && !sameBase(up.Base, then.Kept) {
					t.Fatal(room, left, c, tellEngine(up))
				}
			}
		}
	}
	// In the midst of many statements a disk that is full is not seen until they are kept, and then they are all gone.
	in := begun(e, "delete acct where id = 1", "insert acct (7, null, null, null)")
	x, answer := mustEngineDo(t, lasting(in, 1, -1), "commit")
	if answer != "full\n" || x.In || !sameBase(x.Base, e.Base) {
		t.Error(answer, tellEngine(x))
	}
	doneAll(t, lasting(x, -1, -1), "commit => none", "rollback => none", "begin => ok", "delete acct where id = 1 => ok 1", "commit => ok")
	// A store that may not come to rest any more is full, too.
	late := lateEngine(99999, accounts...)
	late.Store.Try = 99
	if x, answer := mustEngineDo(t, late, "delete acct"); answer != "full\n" || !sameEngine(x, late) {
		t.Error(answer)
	}
	if _, ok := impl.EngineRise(late.Store.Disk); ok {
		t.Error("up at the last turn")
	}
	if x, answer := mustEngineDo(t, begun(late, "delete acct"), "commit"); answer != "full\n" || !sameEngine(x, late) {
		t.Error(answer, tellEngine(x))
	}
}

// someTexts is statements to a base, one behind the other; some of them are refused.
func someTexts(source *rand.Rand, b impl.Base, n int) []string {
	var texts []string
	for range n {
		text := stmtMaker{source: source, base: b, wrong: 20}.text()
		texts = append(texts, text)
		if st, ok := wantStmtGet(text); ok {
			b, _ = wantDo(b, st)
		}
	}
	return texts
}

func TestP121WhatIsTakenBackIsAsIfItHadNotBeen(t *testing.T) {
	source := rand.New(rand.NewSource(157))
	for i, e := range someEngines() {
		if e.In {
			e, _ = wantEngineDo(e, "rollback")
		}
		for range 4 {
			x, _ := mustEngineDo(t, e, "begin")
			for _, text := range someTexts(source, e.Base, 1+source.Intn(4)) {
				x, _ = mustEngineDo(t, x, text)
				if !x.In || !sameStore(x.Store, e.Store) || !sameBase(x.Kept, e.Kept) {
					t.Fatal(i, text, tellEngine(x))
				}
			}
			x, answer := mustEngineDo(t, x, "rollback")
			if answer != "ok\n" || !sameEngine(x, e) {
				t.Fatal(i, answer, tellEngine(x))
			}
		}
	}
}

func TestP122ManyStatementsAsOne(t *testing.T) {
	source := rand.New(rand.NewSource(158))
	for i, e := range someEngines() {
		if e.In {
			e, _ = wantEngineDo(e, "rollback")
		}
		for range 4 {
			texts := someTexts(source, e.Base, 2+source.Intn(3))
			one, _ := mustEngineDo(t, e, "begin")
			by := e
			for _, text := range texts {
				x, answer := mustEngineDo(t, one, text)
				y, alone := mustEngineDo(t, by, text)
				if answer != alone || !sameBase(x.Base, y.Base) {
					t.Fatal(i, text, answer, alone)
				}
				one, by = x, y
			}
			x, answer := mustEngineDo(t, one, "commit")
			if answer != "ok\n" || x.In || !sameBase(x.Base, by.Base) || !sameBase(x.Kept, by.Kept) {
				t.Fatal(i, texts, answer, tellEngine(x))
			}
		}
	}
}

// A statement that is refused in the midst of many changes nothing of what the others made.
func TestP122ARefusalInTheMidst(t *testing.T) {
	e := engineOf(accounts...)
	lines := []string{"begin => ok", "delete acct where id = 1 => ok 1", "insert acct (2, null, null, null) => only", "insert acct (null, 'x', 1, null) => null", "insert acct (1) => type", "insert acct (99999, null, null, null) => over", "update acct set id = 5 => only", "update acct set id = null => null", "update acct set bal = 1 / (id - 2) => zero", "delete acct where 1 / (id - 3) > 0 => zero", "table acct (a text) => twice", "index own on acct (id) => twice", "index q on acct (id) => full", "index q on acct (q) => name", "drop table q => none", "drop index q on acct => none", "begin => open", "nonsense => form", "select q from acct => name", "insert acct (1, 'eve', 5, null) => ok", "commit => ok"}
	x := doneAll(t, e, lines...)
	if x.In {
		t.Error("in")
	}
	mustTell(t, x, "select id, owner from acct", "rows 3\n2, 'bob'\n3, 'ann'\n1, 'eve'\n")
	up, ok := impl.EngineRise(x.Store.Disk)
	if !ok || !sameBase(up.Kept, x.Base) {
		t.Error(ok)
	}
	// All of it was written at once.
	if x.Store.Try != e.Store.Try+1 && x.Store.Turn == e.Store.Turn {
		t.Error(x.Store.Try, e.Store.Try)
	}
}

func TestP123WhatIsUpAgainHasWhatItsDiskTells(t *testing.T) {
	for i, e := range someEngines() {
		up, ok := impl.EngineRise(e.Store.Disk)
		want, wantOk := wantEngineRise(e.Store.Disk)
		if !ok || !wantOk || !sameEngine(up, want) || !impl.EngineOk(up) || up.In || !sameBase(up.Base, e.Kept) || !sameBase(up.Kept, e.Kept) {
			t.Fatal(i, ok, tellEngine(up))
		}
		again, ok := impl.EngineRise(up.Store.Disk)
		if !ok || !sameBase(again.Base, up.Base) || again.Store.Turn != up.Store.Turn+1 {
			t.Fatal(i, ok, tellEngine(again))
		}
		if _, answer := mustEngineDo(t, up, "commit"); answer != "none\n" {
			t.Error(i, answer)
		}
	}
}

// mustNotRise is a disk of which no engine comes up.
func mustNotRise(t *testing.T, d impl.Disk, what ...any) {
	t.Helper()
	e, ok := impl.EngineRise(d)
	if _, want := wantEngineRise(d); ok || want || !noEngine(e) {
		t.Error(what, ok, want)
	}
}

func TestP123DisksOfWhichNothingComesUp(t *testing.T) {
	for i, d := range badDisks() {
		mustNotRise(t, d, "disk", i)
	}
	e := engineOf(accounts...)
	mustNotRise(t, impl.Disk{}, "nothing")
	mustNotRise(t, impl.DiskNew(), "empty")
	mustNotRise(t, newStore().Disk, "a store without a base")
	mustNotRise(t, withWaits(e.Store.Disk, impl.Wait{At: 3, Text: "x"}), "waits")
	mustNotRise(t, lateEngine(99999, accounts...).Store.Disk, "the last turn")
	for _, n := range []int{0, 1, 2} {
		mustNotRise(t, withEnds(e.Store.Disk, -1, n), "left", n)
		mustNotRise(t, withEnds(e.Store.Disk, n, -1), "room", n)
	}
	// Pages that are no base.
	for at := range 20 {
		for _, text := range []string{"x", "root 0\n", "L", "N0:", " ", "L1,0:a"} {
			s, _ := wantCommit(e.Store, onePage(at, text))
			if s.Pages[at] != e.Store.Pages[at] {
				mustNotRise(t, s.Disk, at, text)
			}
		}
	}
	if _, ok := impl.EngineRise(lateEngine(99998, accounts...).Store.Disk); !ok {
		t.Error("the last turn but one")
	}
}

// madeEvent is any event, seldom one of no kind.
func madeEvent(source *rand.Rand, b impl.Base) impl.Event {
	text := stmtMaker{source: source, base: b, wrong: 20}.text()
	if source.Intn(5) == 0 {
		text = []string{"begin", "commit", "rollback", "commit", ""}[source.Intn(5)]
	}
	v := impl.Event{Kind: 1 + source.Intn(6)/4, Text: text, Room: []int{-1, -1, -1, 0, 1, 2, 5, 50}[source.Intn(8)], Left: source.Intn(14) - 1, Mask: source.Intn(64) * source.Intn(2), Tear: source.Intn(5) - 1, Bytes: source.Intn(90) - 2}
	switch source.Intn(30) {
	case 0:
		v.Kind = []int{0, -1, 3, 4, math.MaxInt, math.MinInt}[source.Intn(6)]
	case 1:
		v.Room = []int{-2, -3, math.MinInt}[source.Intn(3)]
	case 2:
		v.Left = []int{-2, -3, math.MinInt}[source.Intn(3)]
	case 3:
		v.Mask = []int{-1, -2, math.MinInt, math.MaxInt}[source.Intn(4)]
	case 4:
		v.Room, v.Left, v.Mask = math.MaxInt, math.MaxInt, math.MaxInt
	}
	return v
}

// madeEvents is events, one behind the other.
func madeEvents(source *rand.Rand, n int) []impl.Event {
	e := newEngine()
	var list []impl.Event
	for range n {
		v := madeEvent(source, e.Base)
		if len(list) == 0 {
			v = impl.Event{Kind: 1, Text: "table t (a num(4,1), b2 text, selects day)", Room: -1}
		}
		list = append(list, v)
		e, _ = wantEvent(e, v)
	}
	return list
}

// mustPlayEvents plays events, and holds all to the second engine, and to P124.
func mustPlayEvents(t *testing.T, list []impl.Event) (impl.Engine, []string) {
	t.Helper()
	got, answers := impl.EnginePlay(list)
	e := newEngine()
	if len(answers) != min(len(list), 12) {
		t.Fatal(len(list), answers)
	}
	for i, answer := range answers {
		x, want := wantEvent(e, list[i])
		if answer != want || !wantEngineOk(x) {
			t.Fatal(i, list, answers, want)
		}
		if list[i].Kind == 1 && !isDone(answer) && !sameBase(x.Kept, e.Kept) {
			t.Fatal(i, list, answers)
		}
		e = x
	}
	mustEngine(t, got, "", e, "", list)
	up, ok := impl.EngineRise(got.Store.Disk)
	if !impl.EngineOk(got) || !ok || !sameBase(up.Kept, got.Kept) {
		t.Fatal(list, ok, tellEngine(got))
	}
	return got, answers
}

func TestP124EventsOneBehindTheOther(t *testing.T) {
	source := rand.New(rand.NewSource(159))
	told := map[string]int{}
	for range 120 {
		list := madeEvents(source, 4+source.Intn(9))
		for n := range list {
			if n%3 == 0 {
				mustPlayEvents(t, list[:n])
			}
		}
		_, answers := mustPlayEvents(t, list)
		for _, answer := range answers {
			told[strings.TrimRight(strings.SplitAfter(answer+" ", " ")[0], " \n")]++
		}
	}
	for _, word := range []string{"", "ok", "rows", "up", "full", "form", "none"} {
		if told[word] == 0 {
			t.Error("never answered:", word, told)
		}
	}
}

func TestP124ManyEvents(t *testing.T) {
	insert := func(n int) impl.Event {
		return impl.Event{Kind: 1, Text: fmt.Sprintf("insert t (%d)", n), Room: -1}
	}
	list := []impl.Event{{Kind: 1, Text: "table t (a num(2,0))", Room: -1}}
	for n := 1; n < 40; n++ {
		e, answers := mustPlayEvents(t, list)
		if rows := len(impl.BaseRows(e.Kept, "t")); rows != min(len(list), 12)-1 || len(answers) != min(len(list), 12) {
			t.Error(n, rows, len(answers))
		}
		list = append(list, insert(n))
	}
	// Events of no kind count, too.
	none := slices.Repeat([]impl.Event{{Kind: 3}}, 11)
	if e, answers := mustPlayEvents(t, append(none, list[0], insert(1))); len(answers) != 12 || len(e.Base.Tables) != 1 || len(impl.BaseRows(e.Base, "t")) != 0 {
		t.Error(answers)
	}
	if e, answers := mustPlayEvents(t, append(none, impl.Event{}, list[0])); len(answers) != 12 || len(e.Base.Tables) != 0 {
		t.Error(answers)
	}
	e, answers := mustPlayEvents(t, nil)
	if len(answers) != 0 || !sameEngine(e, newEngine()) {
		t.Error(answers)
	}
}

func TestP124EventsOfNoKind(t *testing.T) {
	table := impl.Event{Kind: 1, Text: "table t (a num(2,0))", Room: -1}
	row := impl.Event{Kind: 1, Text: "insert t (1)", Room: -1}
	was, _ := impl.EnginePlay([]impl.Event{table, row})
	for _, v := range []impl.Event{
		{}, {Kind: 3, Text: "delete t"}, {Kind: -1, Text: "delete t"}, {Kind: 1, Text: "delete t", Room: -2}, {Kind: 1, Text: "delete t", Room: math.MinInt}, {Kind: 2, Text: "delete t", Left: -2}, {Kind: 2, Text: "delete t", Mask: -1}, {Kind: 2, Text: "delete t", Left: math.MinInt}, {Kind: 2, Text: "delete t", Mask: math.MinInt},
		{Kind: math.MaxInt, Room: math.MaxInt}, {Kind: math.MinInt, Text: strings.Repeat("x", 1000)},
	} {
		e, answers := mustPlayEvents(t, []impl.Event{table, row, v})
		if answers[2] != "" || !sameEngine(e, was) {
			t.Error(v, answers)
		}
	}
	// What a kind does not look at does not count.
	for _, v := range []impl.Event{{Kind: 1, Text: "delete t", Room: -1, Left: -5, Mask: -5, Tear: -5, Bytes: -5}, {Kind: 2, Text: "delete t", Room: -5, Left: -1, Tear: math.MinInt, Bytes: math.MinInt}, {Kind: 1, Text: "delete t", Room: math.MaxInt}, {Kind: 2, Text: "delete t", Left: math.MaxInt, Mask: math.MaxInt}} {
		e, answers := mustPlayEvents(t, []impl.Event{table, row, v})
		if answers[2] == "" || len(impl.BaseRows(e.Kept, "t")) != 0 {
			t.Error(v, answers)
		}
	}
	// Room is given to one event alone, and power that was lost is back.
	full := impl.Event{Kind: 1, Text: "insert t (2)", Room: 0}
	down := impl.Event{Kind: 2, Text: "insert t (2)", Left: 0}
	for _, v := range []impl.Event{full, down} {
		e, answers := mustPlayEvents(t, []impl.Event{table, row, v, row})
		if answers[3] != "ok\n" || len(impl.BaseRows(e.Kept, "t")) != 2 || e.Store.Disk.Room != -1 || e.Store.Disk.Left != -1 {
			t.Error(v, answers)
		}
	}
}

func TestP125ARowThatCameInIsFound(t *testing.T) {
	source := rand.New(rand.NewSource(160))
	found := 0
	for range 150 {
		e, _ := impl.EnginePlay(madeEvents(source, 1+source.Intn(11)))
		if e.In {
			e, _ = impl.EngineDo(e, []string{"commit", "rollback"}[source.Intn(2)])
		}
		x, answer := mustEngineDo(t, e, "table zz (z num(1,0), y text)")
		if answer == "full\n" {
			continue
		}
		x, answer = mustEngineDo(t, x, "insert zz (7.4, 'it''s')")
		if answer == "full\n" {
			continue
		}
		found++
		for _, c := range someCuts(source) {
			up, ok := impl.EngineRise(impl.DiskCrash(x.Store.Disk, c.mask, c.tear, c.bytes))
			if !ok {
				t.Fatal(c)
			}
			mustTell(t, up, "select y, z from zz", "rows 1\n'it''s', 7\n")
			mustTell(t, up, "select count from zz where z = 7", "rows 1\n1\n")
		}
	}
	if found < 60 {
		t.Error(found)
	}
}

// line is a line of a session, and what is told of it.
type line struct {
	text string
	told string
}

// example is the document's example of a session.
var example = []line{
	{"table acct (id num(4,0) must, owner text, bal num(10,2), since day)", "ok\n"},
	{"index own on acct (owner, bal down)", "ok\n"},
	{"index ids on acct (id) only", "ok\n"},
	{"insert acct (1, 'ann', 100.005, @2024-01-31)", "ok\n"},
	{"insert acct (2, 'bob', -3.5, @2024-02-29)", "ok\n"},
	{"insert acct (1, 'eve', 0, null)", "only\n"},
	{"insert acct (3, 'ann', 7, null)", "ok\n"},
	{"select * from acct where owner = 'ann' order by bal", "rows 2\n3, 'ann', 7.00, null\n1, 'ann', 100.01, @2024-01-31\n"},
	{"plan select * from acct where owner = 'ann'", "by own\n"},
	{"select owner, sum(bal), count from acct group by owner", "rows 2\n'ann', 107.01, 2\n'bob', -3.50, 1\n"},
	{"update acct set since = since + #1m0d, bal = bal / 3 where bal > 0", "ok 2\n"},
	{"select id, bal, since from acct", "rows 3\n1, 33.34, @2024-02-29\n2, -3.50, @2024-02-29\n3, 2.33, null\n"},
	{"begin", "ok\n"},
	{"delete acct where id < 3", "ok 2\n"},
	{"select count from acct", "rows 1\n1\n"},
	{"fall 2 commit", "up\n"},
	{"select count, avg(bal), least(owner), most(since) from acct", "rows 1\n3, 10.723333, 'ann', @2024-02-29\n"},
	{"room 1 insert acct (4, 'it''s', 1, null)", "full\n"},
	{"insert acct (4, 'it''s', 99999999.995, null)", "over\n"},
	{"select id from acct where 1 / (id - 2) > 0", "zero\n"},
	{"plan select id from acct order by id", "sorted ids\n"},
	{"plan select id from acct where id * 2 = 4", "all\n"},
	{"select a.x from acct", "name\n"},
	{"drop index own on acct", "ok\n"},
	{"plan select * from acct where owner = 'ann'", "all\n"},
}

// mustSession holds what is told of lines against the second engine.
func mustSession(t *testing.T, lines []string) string {
	t.Helper()
	told := impl.Session(lines)
	if want := wantSession(lines); told != want {
		t.Fatalf("session of\n%s\ntells\n%s\nwant\n%s", strings.Join(lines, "\n"), told, want)
	}
	return told
}

func TestP126TheExampleLineByLine(t *testing.T) {
	var lines []string
	want := ""
	for i, l := range example {
		lines, want = append(lines, l.text), want+l.told
		if told := mustSession(t, lines); told != want {
			t.Fatalf("line %d, %q: told\n%s\nwant\n%s", i+1, l.text, told, want)
		}
	}
	// The same by events, and by statements.
	e := impl.EngineNew()
	for _, l := range example {
		if strings.HasPrefix(l.text, "plan ") || strings.HasPrefix(l.text, "fall ") || strings.HasPrefix(l.text, "room ") {
			e, _ = wantLine(e, l.text)
			continue
		}
		x, answer := mustEngineDo(t, e, l.text)
		if answer != l.told {
			t.Error(l.text, answer)
		}
		e = x
	}
}

// madeLines is lines of a session.
func madeLines(source *rand.Rand, n int) []string {
	e := newEngine()
	var lines []string
	for range n {
		text := stmtMaker{source: source, base: e.Base, wrong: 20}.text()
		if source.Intn(6) == 0 {
			text = []string{"begin", "commit", "rollback", "commit"}[source.Intn(4)]
		}
		switch source.Intn(9) {
		case 0:
			text = fmt.Sprintf("fall %d %s", source.Intn(12), text)
		case 1:
			text = fmt.Sprintf("room %d %s", source.Intn(8), text)
		case 2:
			if len(e.Base.Tables) > 0 {
				text = wantStmtPut(impl.Stmt{Kind: stSelect, Query: queryMaker{source: source, base: e.Base, wrong: 20, plain: true, sorts: true, groups: true}.query()})
			}
			text = "plan " + text
		}
		lines = append(lines, text)
		e, _ = wantLine(e, text)
	}
	return lines
}

func TestP126WhatWasToldOfTheFirstLinesIsToldFirst(t *testing.T) {
	source := rand.New(rand.NewSource(161))
	for range 40 {
		lines := madeLines(source, 10+source.Intn(24))
		all := mustSession(t, lines)
		for n := range lines {
			if n%5 == 0 && !strings.HasPrefix(all, mustSession(t, lines[:n])) {
				t.Fatal(n, lines)
			}
		}
	}
	if impl.Session(nil) != "" || impl.Session([]string{}) != "" {
		t.Error("no lines")
	}
}

func TestP126LinesBehindSessionMaxTellNothing(t *testing.T) {
	var lines []string
	for n := 1; n <= 40; n++ {
		lines = append(lines, fmt.Sprintf("table t%d (a text)", n))
		told := mustSession(t, lines)
		if strings.Count(told, "\n") != min(n, 30) {
			t.Error(n, told)
		}
	}
	lines = append(slices.Repeat([]string{"begin"}, 29), "rollback", "begin", "select * from t")
	if told := mustSession(t, lines); told != "ok\n"+strings.Repeat("open\n", 28)+"ok\n" {
		t.Error(told)
	}
}

func TestP126LinesThatAreNoStatements(t *testing.T) {
	ahead := []string{"table t (a num(2,0))", "index i on t (a)", "insert t (1)"}
	for _, l := range []line{
		{"plan select * from t", "all\n"}, {"plan select * from t where a = 1", "by i\n"}, {"plan select a from t where a > 0 and a < 9 limit 0", "by i\n"}, {"plan select * from t order by a", "sorted i\n"}, {"plan select * from t order by a down", "all\n"}, {"plan   select*from t  ", "all\n"}, {"plan select count from t where a = 1", "by i\n"}, {"plan select * from t join t on a = t.a where a = 1", "all\n"}, {"plan select * from t where a + 1 = 2", "all\n"},
		{"plan select * from u", "none\n"}, {"plan select b from t", "name\n"}, {"plan select * from t where a", "type\n"}, {"plan select * from t group by a", "group\n"}, {"plan select * from t where 1 / 0 = 1", "all\n"}, {"plan select * from t limit 10000", "form\n"},
		{"plan", "form\n"}, {"plan ", "form\n"}, {"plan  ", "form\n"}, {"plan begin", "form\n"}, {"plan commit", "form\n"}, {"plan delete t", "form\n"}, {"plan insert t (2)", "form\n"}, {"plan plan select * from t", "form\n"}, {"planselect * from t", "form\n"}, {" plan select * from t", "form\n"}, {"Plan select * from t", "form\n"}, {"plan\tselect * from t", "form\n"}, {"plan room 1 select * from t", "form\n"}, {"plan select", "form\n"},
		{"plan select * from t" + strings.Repeat(" ", 385), "all\n"}, {"plan select * from t" + strings.Repeat(" ", 386), "form\n"},
		{"fall 0 delete t", "up\n"}, {"fall 999999999 delete t", "up\n"}, {"fall 1000000000 delete t", "form\n"}, {"fall 00 delete t", "form\n"}, {"fall 01 delete t", "form\n"}, {"fall -1 delete t", "form\n"}, {"fall +1 delete t", "form\n"}, {"fall 1.0 delete t", "form\n"}, {"fall a delete t", "form\n"}, {"fall delete t", "form\n"}, {"fall  1 delete t", "form\n"}, {"fall 1", "form\n"}, {"fall 1 ", "up\n"}, {"fall 1  ", "up\n"}, {"fall ", "form\n"}, {"fall", "form\n"}, {"fall 1\tdelete t", "form\n"}, {"fall 1 nonsense", "up\n"}, {"fall 1 plan select * from t", "up\n"}, {" fall 1 delete t", "form\n"}, {"fall 1 fall 1 delete t", "up\n"}, {"Fall 1 delete t", "form\n"}, {"fall 123456789 ", "up\n"}, {"fall 18446744073709551616 delete t", "form\n"},
		{"room 0 delete t", "full\n"}, {"room 1 delete t", "ok 1\n"}, {"room 2 insert t (2)", "ok\n"}, {"room 1 insert t (2)", "full\n"}, {"room 999999999 delete t", "ok 1\n"}, {"room 1000000000 delete t", "form\n"}, {"room 00 delete t", "form\n"}, {"room 01 delete t", "form\n"}, {"room -1 delete t", "form\n"}, {"room 1", "form\n"}, {"room 1 ", "form\n"}, {"room ", "form\n"}, {"room", "form\n"}, {"room delete t", "form\n"}, {"room  1 delete t", "form\n"}, {"room 0 select * from t", "rows 1\n1\n"}, {"room 0 begin", "ok\n"}, {"room 0 plan select * from t", "form\n"}, {"room 0 room 9 delete t", "form\n"}, {"room 9 delete t where a = 9", "ok 0\n"}, {"room 0 delete t where a = 9", "ok 0\n"}, {"rooms 1 delete t", "form\n"}, {"room 3   delete t", "ok 1\n"}, {"room 1 " + strings.Repeat("x", 1000), "form\n"},
		{"", "form\n"}, {" ", "form\n"}, {"select * from t", "rows 1\n1\n"}, {strings.Repeat("x", 100000), "form\n"}, {"\xff", "form\n"},
	} {
		head := "ok\nok\nok\n"
		told := mustSession(t, append(slices.Clone(ahead), l.text))
		if told != head+l.told {
			t.Errorf("%q tells %q, want %q", l.text, strings.TrimPrefix(told, head), l.told)
		}
	}
	// A fall ends what is begun; what it did, was not safe.
	told := mustSession(t, append(slices.Clone(ahead), "begin", "delete t", "fall 9 ", "commit", "select a from t", "fall 0 delete t", "select a from t", "fall 999999999 delete t", "select a from t"))
	if want := "ok\nok\nok\nok\nok 1\nup\nnone\nrows 1\n1\nup\nrows 1\n1\nup\nrows 0\n"; told != want {
		t.Errorf("%q, want %q", told, want)
	}
	// A plan is of what is begun.
	told = mustSession(t, append(slices.Clone(ahead), "begin", "drop index i on t", "plan select * from t where a = 1", "rollback", "plan select * from t where a = 1"))
	if want := "ok\nok\nok\nok\nok\nall\nok\nby i\n"; told != want {
		t.Errorf("%q, want %q", told, want)
	}
}

func TestP127WhoAsksForAPlanOrForRowsChangesNothing(t *testing.T) {
	source := rand.New(rand.NewSource(162))
	for range 40 {
		lines := madeLines(source, 10+source.Intn(18))
		at := source.Intn(len(lines) + 1)
		ahead, all := mustSession(t, lines[:at]), mustSession(t, lines)
		for text, word := range map[string]string{"plan select * from zz": "none\n", "select * from zz": "none\n", "plan select a, sum(b) from zz where 1 / 0 = 1 group by a": "none\n", "select count from zz join zz on a = zz.b": "none\n"} {
			told := mustSession(t, slices.Insert(slices.Clone(lines), at, text))
			if told != ahead+word+strings.TrimPrefix(all, ahead) {
				t.Fatal(at, text, lines, told, all)
			}
		}
	}
}
