package tests

import (
	"fmt"
	"math/rand"
	"slices"
	"strings"
	"testing"

	"loop.example/jetton/impl"
)

// reading is a text, how the statement is written that it says, and the statement.
type reading struct {
	text string
	put  string
	st   impl.Stmt
}

func numCol(name string, digits, scale int) impl.Col {
	return impl.Col{Name: name, Type: impl.Type{Kind: impl.KindNum, Digits: digits, Scale: scale}}
}

// stmtReadings is statements of each kind, written out.
func stmtReadings() []reading {
	all := impl.Query{From: "t", Limit: -1}
	asking := func(by func(q *impl.Query)) impl.Stmt {
		q := all
		by(&q)
		return impl.Stmt{Kind: 8, Query: q}
	}
	must := numCol("a", 5, 2)
	must.Must = true
	text := impl.Type{Kind: impl.KindText}
	one, two := exprOf("1"), exprOf("a = 2")
	return []reading{
		{"table t(a num(5,2)must,b text)", "table t (a num(5,2) must, b text)", impl.Stmt{Kind: 1, Name: "t", Cols: []impl.Col{must, {Name: "b", Type: text}}}},
		{"  table   t ( a   num ( 5 , 2 ) )  ", "table t (a num(5,2))", impl.Stmt{Kind: 1, Name: "t", Cols: []impl.Col{numCol("a", 5, 2)}}},
		{"table t(a bool,b day must,c span,d text must)", "table t (a bool, b day must, c span, d text must)", impl.Stmt{Kind: 1, Name: "t", Cols: []impl.Col{{Name: "a", Type: impl.Type{Kind: 1}}, {Name: "b", Type: impl.Type{Kind: 3}, Must: true}, {Name: "c", Type: impl.Type{Kind: 4}}, {Name: "d", Type: text, Must: true}}}},
		{"table t (t num(30,12))", "table t (t num(30,12))", impl.Stmt{Kind: 1, Name: "t", Cols: []impl.Col{numCol("t", 30, 12)}}},
		{"drop table t", "drop table t", impl.Stmt{Kind: 2, Name: "t"}},
		{" drop  table  eightbyt ", "drop table eightbyt", impl.Stmt{Kind: 2, Name: "eightbyt"}},
		{"index i on t(a)", "index i on t (a)", impl.Stmt{Kind: 3, Name: "i", On: "t", Keys: []impl.Sort{{Col: "a"}}}},
		{"index i on t(b,a down)only", "index i on t (b, a down) only", impl.Stmt{Kind: 3, Name: "i", On: "t", Keys: []impl.Sort{{Col: "b"}, {Col: "a", Down: true}}, Only: true}},
		{"index t on t (t down)", "index t on t (t down)", impl.Stmt{Kind: 3, Name: "t", On: "t", Keys: []impl.Sort{{Col: "t", Down: true}}}},
		{"index i on t (a) only", "index i on t (a) only", impl.Stmt{Kind: 3, Name: "i", On: "t", Keys: []impl.Sort{{Col: "a"}}, Only: true}},
		{"drop index i on t", "drop index i on t", impl.Stmt{Kind: 4, Name: "i", On: "t"}},
		{"insert t(1,-2,'it''s',null)", "insert t (1, -2, 'it''s', null)", impl.Stmt{Kind: 5, Name: "t", Vals: rowOf("1", "-2", "'it''s'", "null")}},
		{"insert t(-1)", "insert t (-1)", impl.Stmt{Kind: 5, Name: "t", Vals: rowOf("-1")}},
		{"insert t( -1.50 , -2 )", "insert t (-1.50, -2)", impl.Stmt{Kind: 5, Name: "t", Vals: rowOf("-1.50", "-2")}},
		{"insert t (true, @2024-01-31, #-1m2d, 'a, (b)')", "insert t (true, @2024-01-31, #-1m2d, 'a, (b)')", impl.Stmt{Kind: 5, Name: "t", Vals: rowOf("true", "@2024-01-31", "#-1m2d", "'a, (b)'")}},
		{"delete t", "delete t", impl.Stmt{Kind: 6, Name: "t"}},
		{"delete t where a=2", "delete t where (a = 2)", impl.Stmt{Kind: 6, Name: "t", Query: impl.Query{Where: two}}},
		{"delete t where(a=2)", "delete t where (a = 2)", impl.Stmt{Kind: 6, Name: "t", Query: impl.Query{Where: two}}},
		{"delete t where u.a is null", "delete t where (u.a is null)", impl.Stmt{Kind: 6, Name: "t", Query: impl.Query{Where: exprOf("u.a is null")}}},
		{"update t set a=1", "update t set a = 1", impl.Stmt{Kind: 7, Name: "t", Sets: []impl.Set{{Col: "a", Expr: one}}}},
		{"update t set a= -1,b=null", "update t set a = -1, b = null", impl.Stmt{Kind: 7, Name: "t", Sets: []impl.Set{{Col: "a", Expr: exprOf("-1")}, {Col: "b", Expr: exprOf("null")}}}},
		{"update t set a=a+1,b=null where a<2 or b is null", "update t set a = (a + 1), b = null where ((a < 2) or (b is null))", impl.Stmt{Kind: 7, Name: "t", Sets: []impl.Set{{Col: "a", Expr: exprOf("a + 1")}, {Col: "b", Expr: exprOf("null")}}, Query: impl.Query{Where: exprOf("a < 2 or b is null")}}},
		{"update t set a = a = 2 where a = 2", "update t set a = (a = 2) where (a = 2)", impl.Stmt{Kind: 7, Name: "t", Sets: []impl.Set{{Col: "a", Expr: two}}, Query: impl.Query{Where: two}}},
		{"select*from t", "select * from t", asking(func(q *impl.Query) {})},
		{"select a from t", "select a from t", asking(func(q *impl.Query) { q.Items = []impl.Item{{Col: "a"}} })},
		{"select a,u.b,a,a from t", "select a, u.b, a, a from t", asking(func(q *impl.Query) { q.Items = []impl.Item{{Col: "a"}, {Col: "u.b"}, {Col: "a"}, {Col: "a"}} })},
		{"select count from t", "select count from t", asking(func(q *impl.Query) { q.Items = []impl.Item{{Agg: 1}} })},
		{"select sum(a),avg ( b ) , least(u.c),most(a) from t", "select sum(a), avg(b), least(u.c), most(a) from t", asking(func(q *impl.Query) {
			q.Items = []impl.Item{{Agg: 2, Col: "a"}, {Agg: 3, Col: "b"}, {Agg: 4, Col: "u.c"}, {Agg: 5, Col: "a"}}
		})},
		{"select * from t join u on a=u.b", "select * from t join u on a = u.b", asking(func(q *impl.Query) { q.Join = impl.Join{Table: "u", Mine: "a", Its: "b"} })},
		{"select * from t outer join t on a = t.a", "select * from t outer join t on a = t.a", asking(func(q *impl.Query) { q.Join = impl.Join{Table: "t", Mine: "a", Its: "a", Outer: true} })},
		{"select * from t where a=2", "select * from t where (a = 2)", asking(func(q *impl.Query) { q.Where = two })},
		{"select * from t group by a", "select * from t group by a", asking(func(q *impl.Query) { q.Group = "a" })},
		{"select u.x from t group by u.x", "select u.x from t group by u.x", asking(func(q *impl.Query) { q.Items, q.Group = []impl.Item{{Col: "u.x"}}, "u.x" })},
		{"select * from t order by a", "select * from t order by a", asking(func(q *impl.Query) { q.Sorts = []impl.Sort{{Col: "a"}} })},
		{"select * from t order by a down,u.b", "select * from t order by a down, u.b", asking(func(q *impl.Query) { q.Sorts = []impl.Sort{{Col: "a", Down: true}, {Col: "u.b"}} })},
		{"select * from t order by a, a down", "select * from t order by a, a down", asking(func(q *impl.Query) { q.Sorts = []impl.Sort{{Col: "a"}, {Col: "a", Down: true}} })},
		{"select * from t limit 0", "select * from t limit 0", asking(func(q *impl.Query) { q.Limit = 0 })},
		{"select * from t limit 9999", "select * from t limit 9999", asking(func(q *impl.Query) { q.Limit = 9999 })},
		{"select u.x,sum(a) from t outer join u on a=u.b where not a=1 group by u.x order by a limit 3", "select u.x, sum(a) from t outer join u on a = u.b where (not (a = 1)) group by u.x order by a limit 3", asking(func(q *impl.Query) {
			q.Items, q.Join = []impl.Item{{Col: "u.x"}, {Agg: 2, Col: "a"}}, impl.Join{Table: "u", Mine: "a", Its: "b", Outer: true}
			q.Where, q.Group, q.Sorts, q.Limit = exprOf("not a = 1"), "u.x", []impl.Sort{{Col: "a"}}, 3
		})},
		{"begin", "begin", impl.Stmt{Kind: 9}},
		{" commit", "commit", impl.Stmt{Kind: 10}},
		{"rollback   ", "rollback", impl.Stmt{Kind: 11}},
	}
}

func TestP114StatementsAreReadAsTheyAreTold(t *testing.T) {
	for _, r := range stmtReadings() {
		st, ok := mustStmtGet(t, r.text)
		if !ok || !sameStmt(st, r.st) {
			t.Errorf("%q: %v %+v, want %+v", r.text, ok, st, r.st)
		}
		if put := impl.StmtPut(st); put != r.put {
			t.Errorf("%q: %q, want %q", r.text, put, r.put)
		}
		if again, is := impl.StmtGet(r.put); !is || !sameStmt(again, st) {
			t.Errorf("%q: %v %+v", r.put, is, again)
		}
	}
}

// noStatements is texts that are none, each in one way.
var noStatements = []string{
	"", " ", "a", "1", "(", "'begin'", "begin now", "now begin", "begin begin", "begin,", "(begin)", "begin;", "Begin", "BEGIN", "commit begin", "rollback t", "roll back", "beginn", "end", "\tbegin", "begin\n", "begin\x00", "é",
	"plan select * from t", "fall 1 begin", "room 1 begin", "null", "true", "where", "set", "from t",
	"table", "table t", "table t ()", "table t (a)", "table t a text", "table t (a text", "table t a text)", "table t (a text))", "table t ((a text))", "table t (a text,)", "table t (,a text)", "table t (a text b day)", "table t (a text, a day)", "table t (a text, b day, c span, d bool, e text)",
	"table select (a text)", "table t (select text)", "table 1 (a text)", "table t (1 text)", "table t.u (a text)", "table t (t.a text)", "table ninebytes (a text)", "table t (ninebytes text)", "table t (a num)", "table t (a num())", "table t (a num(5))", "table t (a num(5,))", "table t (a num(,2))", "table t (a num(5 2))", "table t (a num 5,2)", "table t (a num(5,2)", "table t (a num(5,2,1))", "table t (a num(0,0))", "table t (a num(31,0))", "table t (a num(30,13))", "table t (a num(2,3))", "table t (a num(5,-2))", "table t (a num(-5,2))", "table t (a num(05,2))", "table t (a num(5.0,2))", "table t (a num(a,2))", "table t (a num('5',2))", "table t (a null)", "table t (a none)", "table t (a texts)", "table t (a text(5))", "table t (a day(1,0))", "table t (a must)", "table t (a must text)", "table t (a text must must)", "table t (a text down)", "table t (a text only)", "table t (a text) only", "table t (a text) must", "tables t (a text)", "table t t (a text)", "table (a text)",
	"drop", "drop t", "drop table", "drop table t t", "drop table t, u", "drop table (t)", "drop table select", "drop table t.u", "drop table 1", "drop table 't'", "drop index", "drop index i", "drop index i on", "drop index on t", "drop index i t", "drop index i on t (a)", "drop index i on t on t", "drop index select on t", "drop index i on select", "drop index i.j on t", "drop table i on t", "drop index i on t.u", "table drop t",
	"index", "index i", "index i on t", "index i on t ()", "index i on t a", "index i on t (a", "index i on t a)", "index i on t (a,)", "index i on t (,a)", "index i on t (a b)", "index i on t (a, a)", "index i on t (a, a down)", "index i on t (a, b, c)", "index i on t (t.a)", "index i on t (1)", "index i on t ('a')", "index i on t (down)", "index i on t (down a)", "index i on t (a up)", "index i on t (a down down)", "index i on t (a only)", "index i on t only (a)", "index i on t (a) down", "index i on t (a) only only", "index i t (a)", "index on t (a)", "index i on (a)", "index i on t on t (a)", "index select on t (a)", "index i on select (a)", "index only on t (a)", "index i on t (select)", "index ninebytes on t (a)", "only index i on t (a)",
	"insert", "insert t", "insert t ()", "insert t 1", "insert t (1", "insert t 1)", "insert t (1,)", "insert t (,1)", "insert t (1 2)", "insert t (1,2,3,4,5)", "insert t (a)", "insert t (- 1)", "insert t (1 + 1)", "insert t ((1))", "insert t (1) (2)", "insert t (1), (2)", "insert into t (1)", "insert t values (1)", "insert select (1)", "insert t.u (1)", "insert t (1a)", "insert t (01)", "insert t (1.)", "insert t (.5)", "insert t (--1)", "insert t (+1)", "insert t (-)", "insert t (1-1)", "insert t (-01)", "insert t (-0)", "insert t (@2024-02-30)", "insert t (@)", "insert t (#1m)", "insert t ('thirteen byte')", "insert t ('a)", "insert t (\"a\")", "insert t (not)", "insert t (1, null,)", "insert t (1234567890123456789012345678901)", "insert t (1.1234567890123)", "insert (1)", "insert t(1) where a = 1",
	"delete", "delete from t", "delete t u", "delete t,", "delete t where", "delete t where where", "delete t where a =", "delete t where = a", "delete t where (a = 1", "delete t where a = 1)", "delete t a = 1", "delete select", "delete t.u", "delete 1", "delete t where a = 1 where a = 1", "delete t where a = 1 limit 1", "delete t where a = 1, b = 1", "delete t limit 1", "delete t order by a", "delete where a = 1", "delete t where count", "delete t where sum(a) = 1", "delete t where *",
	"update", "update t", "update t set", "update t set a", "update t set a =", "update t set a = ,", "update t set = 1", "update t set a = 1,", "update t set ,a = 1", "update t set a = 1 b = 2", "update t set a = 1, a = 2", "update t set a = 1, b = 2, c = 3", "update t set t.a = 1", "update t set 1 = a", "update t set (a) = 1", "update t set (a = 1)", "update t set a == 1", "update t set a=-1", "update t set a < 1", "update t a = 1", "update set a = 1", "update t set a = 1 where", "update t set a = 1 a = 1", "update t where a = 1 set a = 1", "update select set a = 1", "update t set select = 1", "update t set a = select", "update t set a = 1 limit 1", "update t set set a = 1", "update t set ninebytes = 1",
	"select", "select *", "select from t", "select * t", "select * from", "select * from t u", "select * from t, u", "select *, a from t", "select a, * from t", "select ** from t", "select (*) from t", "select a b from t", "select ,a from t", "select a, from t", "select a,,b from t", "select a, b, c, d, e from t", "select 1 from t", "select 'a' from t", "select null from t", "select (a) from t", "select a + 1 from t", "select -a from t", "select a.b.c from t", "select a. from t", "select select from t", "select ninebytes from t", "select by from t",
	"select count(a) from t", "select count() from t", "select count(*) from t", "select sum from t", "select sum() from t", "select sum(*) from t", "select sum(a from t", "select sum a from t", "select sum(a, b) from t", "select sum((a)) from t", "select sum(1) from t", "select sum(count) from t", "select avg(select) from t", "select max(a) from t", "select min(a) from t", "select least from t", "select most(a.b.c) from t", "select avg from t",
	"select * from select", "select * from t.u", "select * from 1", "select * from (t)", "select * from 't'", "select * from ninebytes", "select * from from t", "from t select *", "select distinct a from t", "select * from t t",
	"select * from t join", "select * from t join u", "select * from t join u on", "select * from t join u on a", "select * from t join u on a =", "select * from t join u on a = b", "select * from t join u on a = v.b", "select * from t join u on u.b = a", "select * from t join u on t.a = u.b", "select * from t join u on a < u.b", "select * from t join u on a = u.", "select * from t join u on a = .b", "select * from t join u on a = u.b.c", "select * from t join u on a = u . b", "select * from t join u on (a = u.b)", "select * from t join u on a = u.b and a = u.b", "select * from t join u on a = u.b join v on a = v.b", "select * from t join u a = u.b", "select * from t join on a = u.b", "select * from t join select on a = select.b", "select * from t join u on select = u.b", "select * from t join u on a = u.select", "select * from t join u on 1 = u.b", "select * from t join u on a = 1", "select * from t join u.v on a = u.v.b",
	"select * from t outer", "select * from t outer u on a = u.b", "select * from t join outer u on a = u.b", "select * from t outer outer join u on a = u.b", "select * from t inner join u on a = u.b", "select * outer from t join u on a = u.b", "select * from t outer where a = 1", "select * from t join u outer on a = u.b", "select * from join u on a = u.b",
	"select * from t where", "select * from t where where a = 1", "select * from t where a = 1 where a = 1", "select * from t where a = 1 join u on a = u.b", "select * from t where (a = 1", "select * from t where a = 1)", "select * from t where a = ", "select * from t where a 1", "select * where a = 1 from t", "select * from t where select", "select * from t where a in (1)", "select * from t where a -1 = 0", "select * from t where not", "select * from t where a is",
	"select * from t group", "select * from t group by", "select * from t group a", "select * from t group by a, b", "select * from t group by (a)", "select * from t group by 1", "select * from t group by a down", "select * from t group by a group by a", "select * from t group by count", "select * from t group by a.b.c", "select * from t group by a where a = 1", "select * from t by a", "select * from t group by group", "select * from t group by a join u on a = u.b",
	"select * from t order", "select * from t order by", "select * from t order a", "select * from t order by a,", "select * from t order by ,a", "select * from t order by a b", "select * from t order by a, b, c", "select * from t order by 1", "select * from t order by (a)", "select * from t order by down", "select * from t order by down a", "select * from t order by a up", "select * from t order by a down down", "select * from t order by a order by b", "select * from t order by a group by a", "select * from t order by a where a = 1", "select * from t order by count", "select * from t order by a.b.c",
	"select * from t limit", "select * from t limit -1", "select * from t limit -2", "select * from t limit 10000", "select * from t limit 01", "select * from t limit 00", "select * from t limit 1.0", "select * from t limit 1.", "select * from t limit +1", "select * from t limit a", "select * from t limit null", "select * from t limit '1'", "select * from t limit 1 2", "select * from t limit 1, 2", "select * from t limit 1 limit 2", "select * from t limit (1)", "select * from t limit 1 order by a", "select * from t limit 1 where a = 1", "select * from t limit 18446744073709551617", "select * from t limit 99999999999999999999", "select * from t limit1", "select limit 1 * from t", "select * limit 1 from t", "select * from t limit - 1", "select * from t limit 1 group by a",
}

func TestP114WhatIsNoStatementIsNotRead(t *testing.T) {
	for _, s := range noStatements {
		if st, ok := mustStmtGet(t, s); ok || !sameStmt(st, impl.Stmt{}) {
			t.Errorf("%q: %v %+v", s, ok, st)
		}
	}
	for _, name := range badNames() {
		if strings.Trim(name, " ") == "a" {
			continue
		}
		for _, form := range []string{"table %s (a text)", "table t (%s text)", "drop table %s", "index %s on t (a)", "index i on %s (a)", "index i on t (%s)", "index i on t (b, %s down)", "drop index %s on t", "drop index i on %s", "insert %s (1)", "delete %s", "update %s set a = 1", "update t set %s = 1", "select * from %s", "select * from t join u on %s = u.b", "select * from t join u on a = u.%s"} {
			if _, ok := mustStmtGet(t, fmt.Sprintf(form, name)); ok {
				t.Errorf(form, name)
			}
		}
		if wantColumn(name) || name == "count" {
			continue
		}
		for _, form := range []string{"select %s from t", "select sum(%s) from t", "select * from t group by %s", "select * from t order by %s"} {
			if _, ok := mustStmtGet(t, fmt.Sprintf(form, name)); ok {
				t.Errorf(form, name)
			}
		}
	}
}

// apart is words with blanks between all of them, and with as few as there may be.
func apart(words []string) (string, string) {
	var close strings.Builder
	isWord := func(x byte) bool {
		return x >= 'a' && x <= 'z' || x >= '0' && x <= '9' || x == '@' || x == '#' || x == '.'
	}
	for i, w := range words {
		if i > 0 {
			last := words[i-1][len(words[i-1])-1]
			minus := w[0] == '-' && len(w) > 1 && last != '(' && last != ','
			marked := (words[i-1][0] == '@' || words[i-1][0] == '#') && w[0] == '-'
			pair := strings.ContainsRune("<>", rune(last)) && strings.ContainsRune("=>", rune(w[0]))
			quotes := last == '\'' && w[0] == '\''
			figure := last == '-' && len(words[i-1]) == 1 && w[0] >= '0' && w[0] <= '9'
			if isWord(last) && isWord(w[0]) || minus || marked || pair || quotes || figure {
				close.WriteByte(' ')
			}
		}
		close.WriteString(w)
	}
	return "  " + strings.Join(words, "   ") + "    ", close.String()
}

func TestP114BlanksChangeNothing(t *testing.T) {
	texts := []string{}
	for _, r := range stmtReadings() {
		texts = append(texts, r.text, r.put)
	}
	source := rand.New(rand.NewSource(140))
	for _, b := range queryBases() {
		texts = append(texts, stmtMaker{source: source, base: b, wrong: 30}.text())
	}
	for _, s := range texts {
		words, ok := wantSplit(s)
		if !ok || len(words) == 0 {
			t.Fatalf("%q", s)
		}
		want, _ := impl.StmtGet(s)
		wide, close := apart(words)
		if len(wide) <= 400 {
			if st, ok := mustStmtGet(t, wide); !ok || !sameStmt(st, want) {
				t.Errorf("%q: %v %+v, want %+v", wide, ok, st, want)
			}
		}
		if st, ok := mustStmtGet(t, close); !ok || !sameStmt(st, want) {
			t.Errorf("%q: %v %+v, want %+v", close, ok, st, want)
		}
	}
}

func TestP114WhatIsReadOfSpoiltTexts(t *testing.T) {
	source := rand.New(rand.NewSource(141))
	var texts []string
	for _, r := range stmtReadings() {
		texts = append(texts, r.text, r.put)
	}
	for _, b := range queryBases() {
		m := stmtMaker{source: source, base: b, wrong: 20}
		for range 12 {
			texts = append(texts, m.text())
		}
	}
	good := 0
	for range 12 {
		for _, s := range texts {
			if _, ok := mustStmtGet(t, spoilt(source, s)); ok {
				good++
			}
		}
	}
	if good < 500 {
		t.Error("few are statements:", good)
	}
	for _, s := range texts {
		for at := range s {
			mustStmtGet(t, s[:at])
		}
	}
}

func TestP115StatementsThatAreMade(t *testing.T) {
	source := rand.New(rand.NewSource(142))
	kinds := map[int]int{}
	for _, b := range queryBases() {
		m := stmtMaker{source: source, base: b, wrong: 25}
		for range 120 {
			st := m.stmt()
			if mustStmt(t, st) != "" {
				kinds[st.Kind]++
			}
		}
	}
	for kind := stTable; kind <= stSelect; kind++ {
		if kinds[kind] < 50 {
			t.Error("few of a kind:", kind, kinds[kind])
		}
	}
}

// Each value may come in, and is read back as it was.
func TestP115StatementsOfEachValueAndType(t *testing.T) {
	for _, v := range someValues() {
		mustStmt(t, impl.Stmt{Kind: stInsert, Name: "t", Vals: []impl.Value{v}})
		mustStmt(t, impl.Stmt{Kind: stInsert, Name: "t", Vals: []impl.Value{v, {}, v, v}})
		mustStmt(t, impl.Stmt{Kind: stUpdate, Name: "t", Sets: []impl.Set{{Col: "a", Expr: []impl.Part{{Op: opVal, Val: v}}}}})
		where := []impl.Part{{Op: opVal, Val: v}, {Op: opVal, Val: v}, {Op: opSub}}
		mustStmt(t, impl.Stmt{Kind: stDelete, Name: "t", Query: impl.Query{Where: where}})
		mustStmt(t, impl.Stmt{Kind: stSelect, Query: impl.Query{From: "t", Where: where, Limit: -1}})
	}
	for _, kind := range allTypes() {
		for _, must := range bothWays {
			col := impl.Col{Name: "a", Type: kind, Must: must}
			other := col
			other.Name = "b"
			mustStmt(t, impl.Stmt{Kind: stTable, Name: "t", Cols: []impl.Col{col, other}})
		}
	}
}

// partsOf is each part that a statement can have, alone.
func partsOf() []impl.Stmt {
	where := exprOf("a = 1")
	return []impl.Stmt{
		{Name: "t"}, {On: "t"}, {Cols: []impl.Col{{Name: "a", Type: impl.Type{Kind: 5}}}}, {Keys: []impl.Sort{{Col: "a"}}}, {Only: true}, {Vals: rowOf("1")}, {Vals: rowOf("null")}, {Sets: []impl.Set{{Col: "a", Expr: exprOf("1")}}}, {Sets: []impl.Set{{}}},
		{Query: impl.Query{Items: []impl.Item{{Col: "a"}}}}, {Query: impl.Query{From: "t"}}, {Query: impl.Query{Join: impl.Join{Table: "u", Mine: "a", Its: "b"}}}, {Query: impl.Query{Join: impl.Join{Mine: "a"}}}, {Query: impl.Query{Join: impl.Join{Its: "a"}}}, {Query: impl.Query{Join: impl.Join{Outer: true}}},
		{Query: impl.Query{Where: where}}, {Query: impl.Query{Group: "a"}}, {Query: impl.Query{Sorts: []impl.Sort{{Col: "a"}}}}, {Query: impl.Query{Limit: -1}}, {Query: impl.Query{Limit: 1}},
	}
}

// withPart is a statement with one more part.
func withPart(st, part impl.Stmt) impl.Stmt {
	st.Name += part.Name
	st.On += part.On
	st.Cols = append(slices.Clone(st.Cols), part.Cols...)
	st.Keys = append(slices.Clone(st.Keys), part.Keys...)
	st.Only = st.Only || part.Only
	st.Vals = append(slices.Clone(st.Vals), part.Vals...)
	st.Sets = append(slices.Clone(st.Sets), part.Sets...)
	st.Query.Items = append(slices.Clone(st.Query.Items), part.Query.Items...)
	st.Query.From += part.Query.From
	if part.Query.Join != (impl.Join{}) {
		st.Query.Join = part.Query.Join
	}
	if part.Query.Where != nil {
		st.Query.Where = part.Query.Where
	}
	st.Query.Group += part.Query.Group
	st.Query.Sorts = append(slices.Clone(st.Query.Sorts), part.Query.Sorts...)
	if part.Query.Limit != 0 {
		st.Query.Limit = part.Query.Limit
	}
	return st
}

// plainStmts is a statement of each kind.
func plainStmts() []impl.Stmt {
	var list []impl.Stmt
	for _, s := range []string{"table t (b text)", "drop table t", "index i on t (b)", "drop index i on t", "insert t (2)", "delete t", "update t set b = 2", "select * from t", "begin", "commit", "rollback", "delete t where b = 2", "update t set b = 2 where b = 2"} {
		list = append(list, stmtOf(s))
	}
	return list
}

func TestP115StatementsWithPartsThatAreNotTold(t *testing.T) {
	good, bad := 0, 0
	for _, st := range append(plainStmts(), impl.Stmt{}) {
		for _, part := range partsOf() {
			if mustStmt(t, withPart(st, part)) == "" {
				bad++
			} else {
				good++
			}
		}
		for kind := -1; kind < 14; kind++ {
			other := st
			other.Kind = kind
			mustStmt(t, other)
		}
		for _, kind := range badInts {
			other := st
			other.Kind = kind
			mustStmt(t, other)
		}
	}
	if good < 20 || bad < 150 {
		t.Error(good, bad)
	}
	// Empty lists are nothing.
	st := impl.Stmt{Kind: stBegin, Cols: []impl.Col{}, Keys: []impl.Sort{}, Vals: []impl.Value{}, Sets: []impl.Set{}, Query: impl.Query{Items: []impl.Item{}, Where: []impl.Part{}, Sorts: []impl.Sort{}}}
	if mustStmt(t, st) != "begin" {
		t.Error("empty lists")
	}
}

// badStmts is statements that are not ok, each in one way.
func badStmts() []impl.Stmt {
	var list []impl.Stmt
	add := func(text string, by func(st *impl.Stmt)) {
		st := stmtOf(text)
		by(&st)
		list = append(list, st)
	}
	named := []string{"table t (b text)", "drop table t", "index i on t (b)", "drop index i on t", "insert t (2)", "delete t", "update t set b = 2"}
	const index, update, query, joined = "index i on t (a, b down) only", "update t set a = 1, b = 2 where a = 1", "select a, sum(b) from t where a = 1 group by a order by a, b limit 3", "select * from t join u on a = u.b"
	for _, name := range badNames() {
		for _, text := range named {
			add(text, func(st *impl.Stmt) { st.Name = name })
		}
		add(index, func(st *impl.Stmt) { st.On = name })
		add(index, func(st *impl.Stmt) { st.Keys[1].Col = name })
		add("drop index i on t", func(st *impl.Stmt) { st.On = name })
		add("table t (a text, b text)", func(st *impl.Stmt) { st.Cols[1].Name = name })
		add(update, func(st *impl.Stmt) { st.Sets[1].Col = name })
		add(query, func(st *impl.Stmt) { st.Query.From = name })
		add(joined, func(st *impl.Stmt) { st.Query.Join.Table = name })
		add(joined, func(st *impl.Stmt) { st.Query.Join.Mine = name })
		add(joined, func(st *impl.Stmt) { st.Query.Join.Its = name })
		if !wantColumn(name) {
			add(query, func(st *impl.Stmt) { st.Query.Items[0].Col = name })
			add(query, func(st *impl.Stmt) { st.Query.Items[1].Col = name })
			add(query, func(st *impl.Stmt) { st.Query.Sorts[1].Col = name })
			if name != "" {
				add(query, func(st *impl.Stmt) { st.Query.Group = name })
			}
		}
	}
	for _, cols := range badCols() {
		add("table t (b text)", func(st *impl.Stmt) { st.Cols = cols })
	}
	for _, kind := range badTypes() {
		add("table t (a text, b text)", func(st *impl.Stmt) { st.Cols[1].Type = kind })
	}
	key := impl.Sort{Col: "c"}
	for _, keys := range [][]impl.Sort{nil, {}, {{}}, {key, key}, {key, {Col: "c", Down: true}}, {key, {Col: "d"}, {Col: "e"}}, make([]impl.Sort, 1000), {{Col: "t.a"}}} {
		add(index, func(st *impl.Stmt) { st.Keys = keys })
	}
	one := impl.Set{Col: "c", Expr: exprOf("1")}
	for _, sets := range [][]impl.Set{nil, {}, {{}}, {one, one}, {one, {Col: "d"}}, {{Expr: exprOf("1")}}, {one, {Col: "d", Expr: exprOf("1")}, {Col: "e", Expr: exprOf("1")}}, make([]impl.Set, 1000), {{Col: "t.a", Expr: exprOf("1")}}} {
		add(update, func(st *impl.Stmt) { st.Sets = sets })
	}
	for _, vals := range [][]impl.Value{nil, {}, rowOf("1", "2", "3", "4", "5"), make([]impl.Value, 1000)} {
		add("insert t (2)", func(st *impl.Stmt) { st.Vals = vals })
	}
	for _, v := range badValues() {
		add("insert t (2, 3)", func(st *impl.Stmt) { st.Vals[1] = v })
	}
	for _, e := range badExprs() {
		add(update, func(st *impl.Stmt) { st.Sets[1].Expr = e })
		if len(e) > 0 {
			add(update, func(st *impl.Stmt) { st.Query.Where = e })
			add(query, func(st *impl.Stmt) { st.Query.Where = e })
			add("delete t", func(st *impl.Stmt) { st.Query.Where = e })
		}
	}
	for _, n := range append([]int{-2, 10000}, badInts...) {
		add(query, func(st *impl.Stmt) { st.Query.Limit = n })
	}
	for _, n := range append([]int{-1, 6}, badInts...) {
		add(query, func(st *impl.Stmt) { st.Query.Items[1].Agg = n })
	}
	add(query, func(st *impl.Stmt) { st.Query.Items[0].Agg = 1 })
	add(query, func(st *impl.Stmt) { st.Query.Items[1].Agg, st.Query.Items[1].Col = 0, "" })
	add(query, func(st *impl.Stmt) { st.Query.Items = make([]impl.Item, 1000) })
	add(query, func(st *impl.Stmt) { st.Query.Items = slices.Repeat([]impl.Item{{Col: "a"}}, 5) })
	add(query, func(st *impl.Stmt) { st.Query.Sorts = slices.Repeat([]impl.Sort{{Col: "a"}}, 3) })
	add(query, func(st *impl.Stmt) { st.Query.Join = impl.Join{Outer: true} })
	add(query, func(st *impl.Stmt) { st.Query.Join = impl.Join{Mine: "a", Its: "b"} })
	add(joined, func(st *impl.Stmt) { st.Query.Join.Mine = "t.a" })
	add(joined, func(st *impl.Stmt) { st.Query.Join.Its = "u.b" })
	return append(list, impl.Stmt{})
}

func TestP115WhatIsNotOkIsNotWritten(t *testing.T) {
	for _, st := range badStmts() {
		if impl.StmtOk(st) || mustStmt(t, st) != "" {
			t.Errorf("ok: %+v", st)
		}
	}
}

func TestP115StatementsAtTheirLimits(t *testing.T) {
	texts := []string{
		"table eightbyt (a num(30,12) must, b num(1,0) must, c num(12,12) must, eightbyt num(1,1) must)",
		"index eightbyt on eightbyt (eightbyt down, ightbyte down) only",
		"insert eightbyt (-999999999999999999.999999999999, #-120000m-4000000d, '''''''''''''''''''''''''', @9999-12-31)",
		"select least(eightbyt.eightbyt), most(eightbyt.eightbyt), sum(eightbyt.eightbyt), avg(eightbyt.eightbyt) from eightbyt outer join eightbyt on eightbyt = eightbyt.eightbyt group by eightbyt.eightbyt order by eightbyt.eightbyt down, eightbyt.eightbyt down limit 9999",
		"update t set a = 1 + 1 + 1 + 1 + 1 + 1 + 1 + 1, b = a + a + a + a + a + a + a + a where b = b + b + b + b + b + b + b",
	}
	for _, s := range texts {
		if _, ok := mustStmtGet(t, s); !ok {
			t.Error(s)
		}
	}
	for _, s := range []string{
		"update t set a = 1 + 1 + 1 + 1 + 1 + 1 + 1 + 1 + 1", "update t set a = 1, b = 1 + 1 + 1 + 1 + 1 + 1 + 1 + 1 + 1",
		"delete t where not 1 + 1 + 1 + 1 + 1 + 1 + 1 = 1 is null", "select * from t where 1 + 1 + 1 + 1 + 1 + 1 + 1 + 1 = 1",
	} {
		if _, ok := mustStmtGet(t, s); ok {
			t.Error(s)
		}
	}
	// Parentheses are counted for each expression.
	deep := func(n int) string { return strings.Repeat("(", n) + "a" + strings.Repeat(")", n) }
	for _, n := range []int{0, 1, 19, 20, 21} {
		for _, form := range []string{"delete t where %s", "select * from t where %s", "update t set a = %s", "update t set b = " + deep(20) + ", a = %s where " + deep(20), "update t set a = 1 where %s"} {
			if _, ok := mustStmtGet(t, fmt.Sprintf(form, deep(n))); ok != (n <= 20) {
				t.Error(form, n, ok)
			}
		}
	}
}

// sized is a statement that is written in so many bytes, and is read of a text of fewer.
func sized(t *testing.T, bytes int) (impl.Stmt, string) {
	t.Helper()
	long := "eightbyt.eightbyt" + strings.Repeat(" + eightbyt.eightbyt", 5)
	head := "update t set a = " + long + ", b = " + long + " where a"
	for terms := range 5 {
		for n := range 13 {
			for m := range 13 {
				text := head + strings.Repeat(" + eightbyt.eightbyt", terms) + " = '" + strings.Repeat("x", n) + "' or a <> '" + strings.Repeat("y", m) + "'"
				words, _ := wantSplit(text)
				if st, ok := readStmt(words); ok && len(text) <= 400 && len(wantStmtText(st)) == bytes {
					return st, text
				}
			}
		}
	}
	t.Fatal("no statement of so many bytes:", bytes)
	return impl.Stmt{}, ""
}

func TestP115StatementsOfLineMaxBytes(t *testing.T) {
	for bytes := 396; bytes <= 404; bytes++ {
		st, text := sized(t, bytes)
		if put := mustStmt(t, st); (put != "") != (bytes <= 400) || put != "" && len(put) != bytes {
			t.Error(bytes, put)
		}
		if _, ok := mustStmtGet(t, text); ok != (bytes <= 400) {
			t.Error(bytes, ok, text)
		}
	}
	// A text of more than LineMax bytes is none, also if it is blanks that it has too many of.
	for _, s := range []string{"begin", "delete t", "insert t (1)", "select * from t"} {
		for _, n := range []int{399, 400, 401, 1000} {
			blanks := strings.Repeat(" ", n-len(s))
			for _, text := range []string{s + blanks, blanks + s, strings.Replace(s, " ", " "+blanks, 1)} {
				if len(text) != n {
					continue
				}
				if _, ok := mustStmtGet(t, text); ok != (n <= 400) {
					t.Error(n, ok, s)
				}
			}
		}
	}
}
