package tests

import (
	"math/rand"
	"runtime"
	"slices"
	"strings"
	"testing"
	"time"

	"loop.example/jetton/impl"
)

func (l *loan) sets(sets []impl.Set) []impl.Set {
	list := make([]impl.Set, len(sets))
	for i, s := range sets {
		s.Expr = l.expr(s.Expr)
		list[i] = s
	}
	return lent(l, list, impl.Set{Col: "spare", Expr: exprOf("1")})
}

func (l *loan) stmt(st impl.Stmt) impl.Stmt {
	st.Cols = l.cols(st.Cols)
	st.Keys = lent(l, st.Keys, impl.Sort{Col: "spare"})
	st.Vals = l.row(st.Vals)
	st.Sets = l.sets(st.Sets)
	st.Query = l.query(st.Query)
	return st
}

func (l *loan) engine(e impl.Engine) impl.Engine {
	return impl.Engine{Store: l.store(e.Store), Base: l.base(e.Base), Kept: l.base(e.Kept), In: e.In}
}

func (l *loan) events(list []impl.Event) []impl.Event {
	return lent(l, list, impl.Event{Kind: 1, Text: "table spare (a text)", Room: -1})
}

func (l *loan) lines(list []string) []string {
	return lent(l, list, "table spare (a text)")
}

func mustKeepStmt(t *testing.T, st impl.Stmt) {
	t.Helper()
	l := &loan{}
	x := l.stmt(st)
	for name, call := range map[string]func(){"StmtOk": func() { impl.StmtOk(x) }, "StmtPut": func() { impl.StmtPut(x) }} {
		askedAny(t, l, []any{x}, func() []any { call(); return nil }, name, st.Kind)
	}
}

func TestStatementsKeepMemoryApart(t *testing.T) {
	source := rand.New(rand.NewSource(170))
	for _, r := range stmtReadings() {
		mustKeepStmt(t, r.st)
	}
	for _, b := range queryBases() {
		m := stmtMaker{source: source, base: b, wrong: 15}
		for range 20 {
			mustKeepStmt(t, m.stmt())
		}
	}
	for _, st := range badStmts() {
		mustKeepStmt(t, st)
	}
	// What is not ok in all that it has, whatever its kind is.
	whole := impl.Stmt{Name: "t", On: "t", Cols: make([]impl.Col, 1000), Keys: make([]impl.Sort, 1000), Vals: badValues(), Sets: []impl.Set{{Expr: make([]impl.Part, 1000)}, {Expr: []impl.Part{{Op: 99}}}}, Query: impl.Query{Items: []impl.Item{{Agg: 99}, {Agg: -1}}, Where: []impl.Part{{Op: -1}}, Sorts: make([]impl.Sort, 1000), Limit: 99999}}
	for _, kind := range append([]int{0, 1, 2, 3, 4, 5, 6, 7, 8, 9, 10, 11, 12}, badInts...) {
		whole.Kind = kind
		mustKeepStmt(t, whole)
		mustKeepStmt(t, impl.Stmt{Kind: kind})
		if impl.StmtOk(whole) || impl.StmtPut(whole) != "" {
			t.Error(kind)
		}
	}
}

func TestStatementsThatAreReadAreApart(t *testing.T) {
	texts := slices.Concat(noStatements, []string{strings.Repeat(" ", 1000000), "select " + strings.Repeat("a,", 500000), strings.Repeat("(", 1000000), "\xff", "insert t (123456789012345678901234567890, 123456789012345678901234567890)"})
	for _, r := range stmtReadings() {
		texts = append(texts, r.text, r.put)
	}
	source := rand.New(rand.NewSource(171))
	for _, b := range queryBases() {
		m := stmtMaker{source: source, base: b, wrong: 15}
		for range 10 {
			texts = append(texts, m.text())
		}
	}
	for _, s := range texts {
		askedAny(t, &loan{}, nil, func() []any {
			a, _ := impl.StmtGet(s)
			b, _ := impl.StmtGet(s)
			return []any{a, b}
		}, s)
	}
}

func engineCalls(e impl.Engine, text string, n, mask int) []anyCall {
	return []anyCall{
		{"EngineOk", func() []any { impl.EngineOk(e); return nil }},
		{"EngineDo", func() []any {
			x, _ := impl.EngineDo(e, text)
			y, _ := impl.EngineDo(e, text)
			return []any{x, y}
		}},
		{"EngineFall", func() []any {
			return []any{impl.EngineFall(e, text, n, mask, n, n), impl.EngineFall(e, text, n, mask, n, n)}
		}},
	}
}

func mustKeepEngine(t *testing.T, e impl.Engine, text string, n, mask int) {
	t.Helper()
	l := &loan{}
	x := l.engine(e)
	for _, c := range engineCalls(x, text, n, mask) {
		askedAny(t, l, []any{x}, c.call, c.name, text, n, mask)
	}
}

func TestEnginesKeepMemoryApart(t *testing.T) {
	source := rand.New(rand.NewSource(172))
	fixed := []string{"", "none", "begin", "commit", "rollback", "table zz (a text)"}
	for i, e := range someEngines() {
		m := stmtMaker{source: source, base: e.Base, wrong: 15}
		texts := slices.Clone(fixed)
		for range 8 {
			texts = append(texts, m.text())
		}
		for j, text := range texts {
			mustKeepEngine(t, e, text, (i+j)%7-1, source.Intn(9)-1)
			mustKeepEngine(t, lasting(e, source.Intn(6)-1, source.Intn(6)-1), text, (i+j)%7-1, source.Intn(9)-1)
		}
	}
	for i, e := range badEngines() {
		mustKeepEngine(t, e, fixed[i%len(fixed)], i%7-1, i%5-1)
		mustKeepEngine(t, e, "select * from acct", -1, 0)
	}
	e := engineOf(accounts...)
	for _, n := range badInts {
		mustKeepEngine(t, e, "delete acct", n, 5)
		mustKeepEngine(t, e, "delete acct", 2, n)
		mustKeepEngine(t, lasting(e, n, n), "delete acct", -1, 0)
	}
	// One base may be both, in the same memory.
	l := &loan{}
	e.Store, e.Base = l.store(e.Store), l.base(e.Base)
	e.Kept = e.Base
	for _, text := range []string{"select * from acct", "begin", "delete acct", "delete acct where id > 9", "commit", "form"} {
		for _, c := range engineCalls(e, text, 2, 1) {
			askedAny(t, l, []any{e}, c.call, c.name, text)
		}
	}
}

func TestEnginesThatAreUpKeepMemoryApart(t *testing.T) {
	disks := append(someDisks(), badDisks()...)
	for _, e := range append(someEngines(), badEngines()...) {
		disks = append(disks, e.Store.Disk)
	}
	for i, d := range disks {
		l := &loan{}
		x := l.disk(d)
		askedAny(t, l, []any{x}, func() []any {
			a, _ := impl.EngineRise(x)
			b, _ := impl.EngineRise(x)
			return []any{a, b}
		}, "EngineRise", i)
	}
}

func TestEventsAndLinesKeepMemoryApart(t *testing.T) {
	source := rand.New(rand.NewSource(173))
	for range 40 {
		l := &loan{}
		x := l.events(madeEvents(source, source.Intn(14)))
		askedAny(t, l, []any{x}, func() []any {
			a, told := impl.EnginePlay(x)
			b, again := impl.EnginePlay(x)
			return []any{a, told, b, again}
		}, "EnginePlay", x)
		y := l.lines(madeLines(source, source.Intn(33)))
		askedAny(t, l, []any{y}, func() []any { impl.Session(y); return nil }, "Session", y)
	}
	for _, list := range [][]impl.Event{nil, make([]impl.Event, 12), make([]impl.Event, 13), make([]impl.Event, 100000)} {
		l := &loan{}
		x := l.events(list)
		askedAny(t, l, []any{x}, func() []any { a, told := impl.EnginePlay(x); return []any{a, told} }, "EnginePlay", len(list))
	}
	for _, n := range badInts {
		v := impl.Event{Kind: 1 + source.Intn(2), Text: "table t (a text)", Room: n, Left: n, Mask: n, Tear: n, Bytes: n}
		x := []impl.Event{v, {Kind: n}, v}
		askedAny(t, &loan{}, []any{x}, func() []any { a, told := impl.EnginePlay(x); return []any{a, told} }, "EnginePlay", n)
	}
	for _, lines := range [][]string{nil, make([]string, 30), make([]string, 31), make([]string, 100000), {strings.Repeat("x", 1000000), "plan " + strings.Repeat("(", 1000000), "fall 1 " + strings.Repeat("'", 1000000), "room " + strings.Repeat("9", 1000000) + " begin"}, {"\xff\x00", "plan \x00", "fall \x00 ", "room 1 \xff"}} {
		askedAny(t, &loan{}, []any{lines}, func() []any { impl.Session(lines); return nil }, "Session", len(lines))
	}
	askedAny(t, &loan{}, nil, func() []any { return []any{impl.EngineNew(), impl.EngineNew()} }, "EngineNew")
}

// What is answered does not hang on what was answered before, nor on what became of that.
func TestEnginesAnswerAgainTheSame(t *testing.T) {
	want := mustSession(t, accounts)
	for range 3 {
		e := impl.EngineNew()
		for i := range e.Store.Pages {
			e.Store.Pages[i] = "spoilt"
		}
		for i := range e.Base.Tree.Nodes {
			e.Base.Tree.Nodes[i] = leafOf("spoilt")
			e.Kept.Tree.Nodes[i] = leafOf("spoilt")
		}
		if told := mustSession(t, accounts); told != want {
			t.Error(told)
		}
		mustEngine(t, impl.EngineNew(), "", newEngine(), "", "new")
	}
}

// No goroutine is left behind by a statement, be it done, refused or down.
func TestNoGoroutineStaysBehindAStatement(t *testing.T) {
	before := runtime.NumGoroutine()
	for _, e := range someEngines() {
		for room := -1; room < 3; room++ {
			for left := -1; left < 3; left++ {
				x := lasting(e, room, left)
				for _, text := range []string{"commit", "begin", "delete acct", "table zz (a text)"} {
					impl.EngineDo(x, text)
					impl.EngineRise(impl.EngineFall(x, text, left, 1, 0, 5))
				}
			}
		}
	}
	// One that has told all may take a moment to go.
	for range 1000 {
		if runtime.NumGoroutine() <= before {
			return
		}
		time.Sleep(time.Millisecond)
	}
	t.Error(runtime.NumGoroutine()-before, "goroutines stay")
}
