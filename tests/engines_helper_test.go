package tests

import (
	"fmt"
	"math/rand"
	"regexp"
	"slices"
	"strings"
	"testing"

	"loop.example/jetton/impl"
)

// The second engine: it does statements by the second base, queries and store, one rule of the document behind the other.

func sameEngine(a, b impl.Engine) bool {
	return sameStore(a.Store, b.Store) && sameBase(a.Base, b.Base) && sameBase(a.Kept, b.Kept) && a.In == b.In
}

func noEngine(e impl.Engine) bool {
	return sameEngine(e, impl.Engine{})
}

// tellEngine is an engine in a few words.
func tellEngine(e impl.Engine) string {
	return fmt.Sprintf("in %v\nbase %s\nkept %s\nstore %s", e.In, tellBase(e.Base), tellBase(e.Kept), tell(e.Store))
}

func wantStoreOk(s impl.Store) bool {
	x, ok := wantRead(s.Disk)
	return ok && x.Turn == s.Turn && x.Next == s.Next && slices.Equal(x.Pages, s.Pages) && s.Try >= x.Try && s.Try <= 99
}

func wantEngineOk(e impl.Engine) bool {
	if !wantStoreOk(e.Store) || !wantBaseOk(e.Base) || !wantBaseOk(e.Kept) || !slices.Equal(wantPages(e.Kept), e.Store.Pages) {
		return false
	}
	return e.In || slices.Equal(wantPages(e.Base), e.Store.Pages)
}

// newEngine is a new engine: the first page and the first node of an empty base are in the log.
func newEngine() impl.Engine {
	s, _ := wantCommit(newStore(), []impl.Page{{At: 0, Text: "root 0\n"}, {At: 1, Text: "L"}})
	return impl.Engine{Store: s, Base: newBase(), Kept: newBase()}
}

// wantKeep is an engine that is to keep a base, and what is answered.
func wantKeep(e impl.Engine, b impl.Base, answer string) (impl.Engine, string) {
	was, list := wantPages(e.Kept), []impl.Page(nil)
	for at, text := range wantPages(b) {
		if was[at] != text {
			list = append(list, impl.Page{At: at, Text: text})
		}
	}
	code := 0
	if len(list) > 0 {
		e.Store, code = wantCommit(e.Store, list)
	}
	e.In = false
	if code == 0 {
		e.Base, e.Kept = b, b
		return e, answer
	}
	e.Base = e.Kept
	if code == 3 {
		return e, "down\n"
	}
	return e, "full\n"
}

// Words of codes.
var (
	baseWords  = []string{"ok", "form", "none", "twice", "type", "null", "only", "full"}
	queryWords = []string{"ok", "form", "none", "name", "type", "group", "zero", "over"}
)

// wantTaken is a value as it comes into a column; a word, if it cannot.
func wantTaken(v impl.Value, kind impl.Type) (impl.Value, string) {
	if v.Kind == 0 {
		return v, ""
	}
	if v.Kind != kind.Kind {
		return v, "type"
	}
	x, code := wantCast(v, kind)
	if code != 0 {
		return v, "over"
	}
	return x, ""
}

// wantWhere is the rows of a table that is there, of which it is so; a word, if it goes wrong.
func wantWhere(b impl.Base, table impl.Table, where []impl.Part) ([]impl.Row, string) {
	if len(where) == 0 {
		return wantBaseRows(b, table.Name), ""
	}
	kind, code := wantExprKind(table.Cols, where)
	switch {
	case code == 2:
		return nil, "name"
	case code != 0 || kind > 1:
		return nil, "type"
	}
	var list []impl.Row
	for _, r := range wantBaseRows(b, table.Name) {
		v, code := wantExprRun(table.Cols, r.Vals, where)
		if code != 0 {
			return nil, map[int]string{4: "zero", 5: "over"}[code]
		}
		if v.Kind == 1 && v.Yes {
			list = append(list, r)
		}
	}
	return list, ""
}

// wantNewer is what a row is to say; a word, if it goes wrong.
func wantNewer(table impl.Table, r impl.Row, sets []impl.Set) ([]impl.Value, string) {
	vals := slices.Clone(r.Vals)
	for _, s := range sets {
		v, code := wantExprRun(table.Cols, r.Vals, s.Expr)
		if code != 0 {
			return nil, map[int]string{4: "zero", 5: "over"}[code]
		}
		at := colAt(table.Cols, s.Col)
		x, word := wantTaken(v, table.Cols[at].Type)
		if word != "" {
			return nil, word
		}
		vals[at] = x
	}
	return vals, ""
}

// wantUpdate is a base behind an update of a table that is there; how many rows, or a word.
func wantUpdate(b impl.Base, table impl.Table, st impl.Stmt) (impl.Base, int, string) {
	for _, s := range st.Sets {
		if _, code := wantExprKind(table.Cols, s.Expr); code == 2 || colAt(table.Cols, s.Col) < 0 {
			return b, 0, "name"
		}
	}
	for _, s := range st.Sets {
		kind, code := wantExprKind(table.Cols, s.Expr)
		if code != 0 || kind != 0 && kind != table.Cols[colAt(table.Cols, s.Col)].Type.Kind {
			return b, 0, "type"
		}
	}
	rows, word := wantWhere(b, table, st.Query.Where)
	if word != "" {
		return b, 0, word
	}
	newer := map[int][]impl.Value{}
	for _, r := range rows {
		if newer[r.Num], word = wantNewer(table, r, st.Sets); word != "" {
			return b, 0, word
		}
	}
	x := b
	for _, r := range rows {
		then, code := wantSet(x, table.Name, r.Num, newer[r.Num])
		if code != 0 {
			return b, 0, baseWords[code]
		}
		x = then
	}
	return x, len(rows), ""
}

// wantRowIn is a base with one more row of values that come in; or a word.
func wantRowIn(b impl.Base, table impl.Table, vals []impl.Value) (impl.Base, string) {
	if len(vals) != len(table.Cols) {
		return b, "type"
	}
	var row []impl.Value
	for i, v := range vals {
		x, word := wantTaken(v, table.Cols[i].Type)
		if word != "" {
			return b, word
		}
		row = append(row, x)
	}
	x, code := wantInsert(b, table.Name, row)
	return x, baseWords[code]
}

// wantIndexed is a base with one more index; or a word.
func wantIndexed(b impl.Base, table impl.Table, st impl.Stmt) (impl.Base, string) {
	ix := impl.Index{Name: st.Name, Only: st.Only}
	for _, k := range st.Keys {
		at := colAt(table.Cols, k.Col)
		if at < 0 {
			return b, "name"
		}
		ix.Cols, ix.Downs = append(ix.Cols, at), append(ix.Downs, k.Down)
	}
	x, code := wantIndex(b, table.Name, ix)
	return x, baseWords[code]
}

// wantAnswer is what a query is answered with.
func wantAnswer(b impl.Base, q impl.Query) string {
	rows, code := wantQuery(b, q)
	if code != 0 {
		return queryWords[code] + "\n"
	}
	text := fmt.Sprintf("rows %d\n", len(rows))
	for _, r := range rows {
		text += told(r.Vals, wantPut) + "\n"
	}
	return text
}

// wantDo is a base behind a statement but those of many in one, and what is answered.
func wantDo(b impl.Base, st impl.Stmt) (impl.Base, string) {
	name, code, word := st.Name, 0, ""
	if st.Kind == stIndex {
		name = st.On
	}
	at := tableAt(b, name)
	if at < 0 && (st.Kind == stIndex || st.Kind >= stInsert && st.Kind <= stUpdate) {
		return b, "none\n"
	}
	n := 0
	switch st.Kind {
	case stTable:
		b, code = wantTable(b, st.Name, st.Cols)
		word = baseWords[code]
	case stGone:
		b, code = wantGone(b, st.Name)
		word = baseWords[code]
	case stLess:
		b, code = wantLess(b, st.On, st.Name)
		word = baseWords[code]
	case stIndex:
		b, word = wantIndexed(b, b.Tables[at], st)
	case stInsert:
		b, word = wantRowIn(b, b.Tables[at], st.Vals)
	case stDelete:
		rows, wrong := wantWhere(b, b.Tables[at], st.Query.Where)
		for _, r := range rows {
			b, _ = wantDelete(b, name, r.Num)
		}
		n, word = len(rows), wrong
	case stUpdate:
		b, n, word = wantUpdate(b, b.Tables[at], st)
	case stSelect:
		return b, wantAnswer(b, st.Query)
	}
	if word == "" {
		return b, fmt.Sprintf("ok %d\n", n)
	}
	return b, word + "\n"
}

// isDone says whether an answer is that it was done.
func isDone(answer string) bool {
	return strings.HasPrefix(answer, "ok") || strings.HasPrefix(answer, "rows ")
}

// wantEngineDo is an engine that is ok behind a statement, and what is answered.
func wantEngineDo(e impl.Engine, text string) (impl.Engine, string) {
	st, ok := wantStmtGet(text)
	switch {
	case !ok:
		return e, "form\n"
	case st.Kind == stBegin && e.In:
		return e, "open\n"
	case st.Kind == stBegin:
		e.In = true
		return e, "ok\n"
	case st.Kind >= stCommit && !e.In:
		return e, "none\n"
	case st.Kind == stCommit:
		return wantKeep(e, e.Base, "ok\n")
	case st.Kind == stBack:
		e.Base, e.In = e.Kept, false
		return e, "ok\n"
	}
	b, answer := wantDo(e.Base, st)
	switch {
	case !isDone(answer):
		return e, answer
	case e.In:
		e.Base = b
		return e, answer
	}
	return wantKeep(e, b, answer)
}

// lasting is an engine whose disk has so much room, and so many acts left.
func lasting(e impl.Engine, room, left int) impl.Engine {
	e.Store = ended(e.Store, room, left)
	return e
}

// wantEngineFall is the disk of an engine that is ok behind a fall.
func wantEngineFall(e impl.Engine, text string, left, mask, tear, bytes int) impl.Disk {
	x, _ := wantEngineDo(lasting(e, e.Store.Disk.Room, left), text)
	return wantCrash(x.Store.Disk, mask, tear, bytes)
}

// wantEngineRise is an engine that is up again. The second base is read by the program, and held against what is written of it.
func wantEngineRise(d impl.Disk) (impl.Engine, bool) {
	s, code := wantRise(d)
	if code != 0 {
		return impl.Engine{}, false
	}
	b, ok := impl.BaseLoad(s.Pages)
	if !ok || !slices.Equal(wantPages(b), s.Pages) {
		return impl.Engine{}, false
	}
	return impl.Engine{Store: s, Base: b, Kept: b}, true
}

// wantEvent is an engine that is ok behind an event, and what is answered.
func wantEvent(e impl.Engine, v impl.Event) (impl.Engine, string) {
	switch {
	case v.Kind == 1 && v.Room >= -1:
		x, answer := wantEngineDo(lasting(e, v.Room, -1), v.Text)
		return lasting(x, -1, -1), answer
	case v.Kind == 2 && v.Left >= -1 && v.Mask >= 0:
		x, _ := wantEngineRise(wantEngineFall(e, v.Text, v.Left, v.Mask, v.Tear, v.Bytes))
		return x, "up\n"
	}
	return e, ""
}

// eventForm is a line that tells an event.
var eventForm = regexp.MustCompile(`(?s)^(fall|room) (0|[1-9][0-9]{0,8}) (.*)$`)

// wantLine is an engine that is ok behind a line of a session, and what is told.
func wantLine(e impl.Engine, line string) (impl.Engine, string) {
	if text, is := strings.CutPrefix(line, "plan "); is {
		st, ok := wantStmtGet(text)
		if !ok || st.Kind != stSelect {
			return e, "form\n"
		}
		if code := wantQueryCode(e.Base, st.Query); code != 0 {
			return e, queryWords[code] + "\n"
		}
		switch plan := wantPlan(e.Base, st.Query); {
		case plan.Index == "":
			return e, "all\n"
		case plan.Sorted:
			return e, "sorted " + plan.Index + "\n"
		default:
			return e, "by " + plan.Index + "\n"
		}
	}
	found := eventForm.FindStringSubmatch(line)
	switch {
	case found == nil:
		return wantEngineDo(e, line)
	case found[1] == "fall":
		return wantEvent(e, impl.Event{Kind: 2, Left: atoi(found[2]), Text: found[3]})
	}
	return wantEvent(e, impl.Event{Kind: 1, Room: atoi(found[2]), Text: found[3]})
}

// wantSession is what is told of lines.
func wantSession(lines []string) string {
	e, all := newEngine(), ""
	for i, line := range lines {
		if i == 30 {
			break
		}
		x, answer := wantLine(e, line)
		e, all = x, all+answer
	}
	return all
}

// mustEngine holds an engine and an answer against those that are wanted.
func mustEngine(t *testing.T, got impl.Engine, gotAnswer string, want impl.Engine, wantAnswer string, what ...any) {
	t.Helper()
	if gotAnswer != wantAnswer {
		t.Fatalf("%v: answers %q, want %q\n%s", what, gotAnswer, wantAnswer, tellEngine(got))
	}
	if !sameEngine(got, want) {
		t.Fatalf("%v: answers %q, is\n%s\nwant\n%s", what, gotAnswer, tellEngine(got), tellEngine(want))
	}
}

// mustEngineDo does a statement, and holds all against the second engine, and to P116, P117, and what is said of words.
func mustEngineDo(t *testing.T, e impl.Engine, text string) (impl.Engine, string) {
	t.Helper()
	got, answer := impl.EngineDo(e, text)
	want, wanted := wantEngineDo(e, text)
	mustEngine(t, got, answer, want, wanted, text)
	done := isDone(answer)
	if !done && answer != "full\n" && answer != "down\n" && !sameEngine(got, e) {
		t.Fatalf("%q answers %q, and changes the engine", text, answer)
	}
	if strings.HasPrefix(answer, "rows ") && !sameEngine(got, e) {
		t.Fatalf("%q asks, and changes the engine", text)
	}
	// At the last turn a store may not come to rest any more, and so is not up again.
	if e.Store.Disk.Left != -1 || e.Store.Disk.Room != -1 || got.Store.Turn == 99999 {
		return got, answer
	}
	up, ok := impl.EngineRise(got.Store.Disk)
	if !impl.EngineOk(got) || answer == "down\n" || !ok || !sameBase(up.Kept, got.Kept) {
		t.Fatalf("behind %q: ok %v, %q, up %v\n%s", text, impl.EngineOk(got), answer, ok, tellEngine(got))
	}
	return got, answer
}

// engineOf is an engine behind statements that must all be done.
func engineOf(lines ...string) impl.Engine {
	e := newEngine()
	for _, line := range lines {
		x, answer := wantEngineDo(e, line)
		if !isDone(answer) {
			panic(line + ": " + answer)
		}
		e = x
	}
	return e
}

// accounts is the lines that make a table with two indexes, and rows.
var accounts = []string{
	"table acct (id num(4,0) must, owner text, bal num(10,2), since day)", "index own on acct (owner, bal down)", "index ids on acct (id) only",
	"insert acct (1, 'ann', 100.005, @2024-01-31)", "insert acct (2, 'bob', -3.5, @2024-02-29)", "insert acct (3, 'ann', 7, null)",
}

// baseLines is statements that make a base of the same tables, indexes and rows; the numbers of rows that went are left out.
func baseLines(b impl.Base) []string {
	var lines []string
	for _, t := range b.Tables {
		lines = append(lines, wantStmtText(impl.Stmt{Kind: stTable, Name: t.Name, Cols: t.Cols}))
		for _, x := range t.Indexes {
			st := impl.Stmt{Kind: stIndex, Name: x.Name, On: t.Name, Only: x.Only}
			for i, col := range x.Cols {
				st.Keys = append(st.Keys, impl.Sort{Col: t.Cols[col].Name, Down: x.Downs[i]})
			}
			lines = append(lines, wantStmtText(st))
		}
		for _, r := range wantBaseRows(b, t.Name) {
			lines = append(lines, wantStmtText(impl.Stmt{Kind: stInsert, Name: t.Name, Vals: r.Vals}))
		}
	}
	return lines
}

// keptIn is an engine that has kept a base.
func keptIn(b impl.Base) impl.Engine {
	e, _ := wantKeep(newEngine(), b, "")
	return e
}

// begun is an engine in the midst of statements that must all be done.
func begun(e impl.Engine, lines ...string) impl.Engine {
	for _, line := range append([]string{"begin"}, lines...) {
		x, answer := wantEngineDo(e, line)
		if !isDone(answer) {
			panic(line + ": " + answer)
		}
		e = x
	}
	return e
}

// someEngines is engines that are ok: new, with rows, in the midst of statements, with little and with much in the log.
func someEngines() []impl.Engine {
	list := []impl.Engine{
		newEngine(), engineOf(accounts[0]), engineOf(accounts...), begun(engineOf(accounts...)), begun(engineOf(accounts...), "delete acct where id < 3"), begun(newEngine(), accounts...),
		keptIn(shopBase()), keptIn(longestBase()), keptIn(listsBase(true)), begun(keptIn(twoIndexes()), "delete t", "insert t (1, 'x')"),
	}
	for _, s := range list {
		if s.In {
			continue
		}
		tried, rested := s, s
		tried.Store.Try = 99
		rested.Store, _ = wantRest(s.Store)
		list = append(list, tried, rested)
	}
	source := rand.New(rand.NewSource(143))
	for range 12 {
		e := newEngine()
		for i := range 40 {
			text := stmtMaker{source: source, base: e.Base, wrong: 40}.text()
			if i%13 == 5 {
				text = []string{"begin", "commit", "rollback"}[source.Intn(3)]
			}
			x, _ := wantEngineDo(lasting(e, []int{-1, -1, -1, 0, 2, 6}[source.Intn(6)], -1), text)
			e = lasting(x, -1, -1)
		}
		list = append(list, e)
	}
	return list
}

// lateEngine is an engine whose store is at a turn.
func lateEngine(turn int, lines ...string) impl.Engine {
	e := engineOf(lines...)
	d := emptyDisk()
	d.Cells[turn%2] = wantHead(turn)
	for i, text := range e.Store.Pages {
		d.Cells[2+i] = text
	}
	e.Store, _ = wantRead(d)
	return e
}

// badEngines is engines that are not ok, each in one way.
func badEngines() []impl.Engine {
	e := engineOf(accounts...)
	in := begun(e, "delete acct where id = 1")
	var list []impl.Engine
	add := func(e impl.Engine, by func(e *impl.Engine)) {
		by(&e)
		list = append(list, e)
	}
	for _, s := range badStores() {
		add(e, func(e *impl.Engine) { e.Store = s })
	}
	for i, b := range badBases() {
		if i%7 > 0 {
			continue
		}
		add(e, func(e *impl.Engine) { e.Base = b })
		add(e, func(e *impl.Engine) { e.Kept = b })
		add(in, func(e *impl.Engine) { e.Base = b })
		add(in, func(e *impl.Engine) { e.Kept = b })
		add(e, func(e *impl.Engine) { e.Base, e.Kept = b, b })
	}
	for _, by := range []func(s *impl.Store){func(s *impl.Store) { s.Turn++ }, func(s *impl.Store) { s.Turn-- }, func(s *impl.Store) { s.Try-- }, func(s *impl.Store) { s.Try = 100 }, func(s *impl.Store) { s.Next++ }, func(s *impl.Store) { s.Next-- }, func(s *impl.Store) { s.Pages = s.Pages[:19] }} {
		add(e, func(e *impl.Engine) { by(&e.Store) })
		add(in, func(e *impl.Engine) { by(&e.Store) })
	}
	add(e, func(e *impl.Engine) { e.Base = newBase() })
	add(e, func(e *impl.Engine) { e.Kept = newBase() })
	add(e, func(e *impl.Engine) { e.Base, e.Kept = newBase(), newBase() })
	add(e, func(e *impl.Engine) { e.Store = newStore() })
	add(e, func(e *impl.Engine) { e.Store = newEngine().Store })
	add(e, func(e *impl.Engine) { e.Store = engineOf(accounts[:5]...).Store })
	add(in, func(e *impl.Engine) { e.In = false })
	add(in, func(e *impl.Engine) { e.Kept = e.Base })
	add(in, func(e *impl.Engine) { e.Base, e.Kept, e.In = e.Kept, e.Base, false })
	add(e, func(e *impl.Engine) { e.Base = withNext(e.Base, 9) })
	add(e, func(e *impl.Engine) { e.Kept = withNext(e.Kept, 9) })
	add(e, func(e *impl.Engine) { e.Store.Disk = withWaits(e.Store.Disk, impl.Wait{At: 41}) })
	add(e, func(e *impl.Engine) { e.Store.Disk = withEnds(e.Store.Disk, -2, -1) })
	add(e, func(e *impl.Engine) { e.Store.Disk = withEnds(e.Store.Disk, -1, -2) })
	add(e, func(e *impl.Engine) { e.Store.Pages = append(slices.Clone(e.Store.Pages), "") })
	down, _ := wantEngineDo(lasting(e, -1, 1), "delete acct")
	return append(list, down, impl.Engine{}, impl.Engine{In: true}, impl.Engine{Base: newBase(), Kept: newBase()}, impl.Engine{Store: newStore(), Base: newBase(), Kept: newBase()}, impl.Engine{Store: newStore(), In: true})
}
