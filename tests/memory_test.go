package tests

import (
	"math"
	"math/rand"
	"reflect"
	"slices"
	"testing"

	"loop.example/jetton/impl"
)

// loan is memory that arguments lie in, with spare room behind each of them.
type loan struct {
	rooms [][]int
	// stays says, of each list that is not of limbs, whether it is as it was.
	stays []func() bool
}

// big lays a number into memory of its own; what stands behind it must stay, too.
func (l *loan) big(a impl.Big) impl.Big {
	room := append(slices.Clone(a.Limbs), 7777, 7777, 7777, 7777)
	l.rooms = append(l.rooms, room)
	a.Limbs = room[:len(a.Limbs)]
	return a
}

func (l *loan) dec(d impl.Dec) impl.Dec {
	d.Num = l.big(d.Num)
	return d
}

func (l *loan) value(v impl.Value) impl.Value {
	v.Num = l.dec(v.Num)
	return v
}

func (l *loan) row(row []impl.Value) []impl.Value {
	list := make([]impl.Value, len(row))
	for i, v := range row {
		list[i] = l.value(v)
	}
	return lent(l, list, textValue("spare"))
}

// lent lays a list into memory of its own; what stands behind it must stay, too.
func lent[T any](l *loan, list []T, spare T) []T {
	room := append(slices.Clone(list), spare, spare, spare)
	before := slices.Clone(room)
	l.stays = append(l.stays, func() bool { return reflect.DeepEqual(room, before) })
	return room[:len(list)]
}

// isKept says whether all that was lent is as it was.
func (l *loan) isKept(before [][]int) bool {
	for _, stays := range l.stays {
		if !stays() {
			return false
		}
	}
	return sameLists(l.rooms, before)
}

func copied(lists [][]int) [][]int {
	var out [][]int
	for _, list := range lists {
		out = append(out, slices.Clone(list))
	}
	return out
}

func sameLists(a, b [][]int) bool {
	return slices.EqualFunc(a, b, slices.Equal[[]int])
}

// asked makes a call that must not panic, write into what was lent, or answer with memory that is not new.
func asked(t *testing.T, l *loan, call func() []impl.Big, what ...any) {
	t.Helper()
	defer func() {
		if e := recover(); e != nil {
			t.Fatal("panics:", e, what)
		}
	}()
	before := copied(l.rooms)
	var lists [][]int
	for _, a := range call() {
		lists = append(lists, a.Limbs[:cap(a.Limbs)])
	}
	if !l.isKept(before) {
		t.Fatal("writes into an argument:", what)
	}
	for i, list := range lists {
		want := copied(lists)
		for j := range list {
			list[j], want[i][j] = -1, -1
		}
		if !l.isKept(before) {
			t.Fatal("answers with memory of an argument:", what)
		}
		if !sameLists(lists, want) {
			t.Fatal("answers with two lists that share memory:", what)
		}
	}
}

// bigCalls is each function of chapter 1 that takes numbers.
func bigCalls(a, b impl.Big) map[string]func() []impl.Big {
	return map[string]func() []impl.Big{
		"BigOk":  func() []impl.Big { impl.BigOk(a); return nil },
		"BigPut": func() []impl.Big { impl.BigPut(a); return nil },
		"BigCmp": func() []impl.Big { impl.BigCmp(a, b); return nil },
		"BigAdd": func() []impl.Big { x, _ := impl.BigAdd(a, b); return []impl.Big{x} },
		"BigSub": func() []impl.Big { x, _ := impl.BigSub(a, b); return []impl.Big{x} },
		"BigMul": func() []impl.Big { x, _ := impl.BigMul(a, b); return []impl.Big{x} },
		"BigDiv": func() []impl.Big { x, y, _ := impl.BigDiv(a, b); return []impl.Big{x, y} },
	}
}

// decCalls is each function of chapter 2 that takes decimals.
func decCalls(a, b impl.Dec, scale int, mode int) map[string]func() []impl.Big {
	return map[string]func() []impl.Big{
		"DecOk":    func() []impl.Big { impl.DecOk(a); return nil },
		"DecPut":   func() []impl.Big { impl.DecPut(a); return nil },
		"DecCmp":   func() []impl.Big { impl.DecCmp(a, b); return nil },
		"DecTrim":  func() []impl.Big { return []impl.Big{impl.DecTrim(a).Num} },
		"DecAdd":   func() []impl.Big { x, _ := impl.DecAdd(a, b); return []impl.Big{x.Num} },
		"DecSub":   func() []impl.Big { x, _ := impl.DecSub(a, b); return []impl.Big{x.Num} },
		"DecMul":   func() []impl.Big { x, _ := impl.DecMul(a, b); return []impl.Big{x.Num} },
		"DecDiv":   func() []impl.Big { x, _ := impl.DecDiv(a, b, scale, mode); return []impl.Big{x.Num} },
		"DecRound": func() []impl.Big { x, _ := impl.DecRound(a, scale, mode); return []impl.Big{x.Num} },
	}
}

func TestBigsKeepMemoryApart(t *testing.T) {
	list := append(someBigs(), badBigs()...)
	for _, a := range list {
		for _, b := range list {
			l := &loan{}
			x, y := l.big(a), l.big(b)
			for name, call := range bigCalls(x, y) {
				asked(t, l, call, name, a, b)
			}
		}
		l := &loan{}
		x := l.big(a)
		for name, call := range bigCalls(x, x) {
			asked(t, l, call, name, a, "with itself")
		}
	}
}

func TestDecsKeepMemoryApart(t *testing.T) {
	list := append(edgeDecs(), badDecs()...)
	for i, a := range list {
		for j, b := range list {
			l := &loan{}
			x, y := l.dec(a), l.dec(b)
			for name, call := range decCalls(x, y, (i+j)%13, 1+(i+j)%7) {
				asked(t, l, call, name, a, b)
			}
		}
		decsWithThemselves(t, a)
	}
}

// decsWithThemselves takes one decimal for both, at each scale, and by each way that there is, or is beside.
func decsWithThemselves(t *testing.T, a impl.Dec) {
	t.Helper()
	scales, modes := slices.Clone(badScales), slices.Clone(badModes)
	for n := range 13 {
		scales = append(scales, n)
	}
	for n := 1; n <= 7; n++ {
		modes = append(modes, n)
	}
	for _, scale := range scales {
		for _, mode := range modes {
			l := &loan{}
			x := l.dec(a)
			for name, call := range decCalls(x, x, scale, mode) {
				asked(t, l, call, name, a, scale, mode)
			}
		}
	}
}

// What takes no list must still answer with new memory, call by call.
func TestAnswersOfTwoCallsAreApart(t *testing.T) {
	calls := map[string]func() impl.Big{
		"BigOf":  func() impl.Big { return impl.BigOf(math.MinInt) },
		"BigTen": func() impl.Big { x, _ := impl.BigTen(63); return x },
		"BigGet": func() impl.Big { x, _ := impl.BigGet("-123456789"); return x },
		"DecGet": func() impl.Big { x, _ := impl.DecGet("-12345.6789"); return x.Num },
	}
	for name, call := range calls {
		l := &loan{rooms: [][]int{call().Limbs}}
		asked(t, l, func() []impl.Big { return []impl.Big{call(), call()} }, name)
	}
}

// bigsOf is the numbers of values, those in the spare room behind them, too.
func bigsOf(list []impl.Value) []impl.Big {
	var bigs []impl.Big
	for _, v := range list[:cap(list)] {
		bigs = append(bigs, v.Num.Num)
	}
	return bigs
}

// valueCalls is each function of chapters 4 to 6 that takes values.
func valueCalls(a, b impl.Value, x impl.Type) map[string]func() []impl.Big {
	return map[string]func() []impl.Big{
		"ValueOk":    func() []impl.Big { impl.ValueOk(a); return nil },
		"ValueFits":  func() []impl.Big { impl.ValueFits(a, x); return nil },
		"ValueCmp":   func() []impl.Big { impl.ValueCmp(a, b); return nil },
		"ValueOrder": func() []impl.Big { impl.ValueOrder(a, b); return nil },
		"ValueCast":  func() []impl.Big { v, _ := impl.ValueCast(a, x); return []impl.Big{v.Num.Num} },
		"ValuePut":   func() []impl.Big { impl.ValuePut(a); return nil },
		"KeyPut":     func() []impl.Big { impl.KeyPut(a, false); impl.KeyPut(a, true); return nil },
	}
}

// rowCalls is each function of chapters 5 and 6 that takes lists.
func rowCalls(types []impl.Type, a, b []impl.Value, cols []int, downs []bool, text string) map[string]func() []impl.Big {
	return map[string]func() []impl.Big{
		"KeyAll":   func() []impl.Big { impl.KeyAll(a, downs); return nil },
		"KeyRead":  func() []impl.Big { row, _ := impl.KeyRead(text, downs); return bigsOf(row) },
		"RowOk":    func() []impl.Big { impl.RowOk(types, a); return nil },
		"RowPut":   func() []impl.Big { impl.RowPut(types, a); return nil },
		"RowGet":   func() []impl.Big { row, _ := impl.RowGet(types, text); return bigsOf(row) },
		"RowOrder": func() []impl.Big { impl.RowOrder(a, b, cols, downs); return nil },
	}
}

func TestValuesKeepMemoryApart(t *testing.T) {
	types := []impl.Type{{Kind: 1}, {Kind: 2, Digits: 30, Scale: 12}, {Kind: 2, Digits: 30}, {Kind: 2, Digits: 1}, {Kind: 3}, {Kind: 4}, {Kind: 5}, {}, {Kind: 2}, {Kind: 9}}
	list := append(someValues(), badValues()...)
	for i, a := range list {
		for j := range types {
			l := &loan{}
			x, y := l.value(a), l.value(list[(i*31+j)%len(list)])
			for name, call := range valueCalls(x, y, types[j]) {
				asked(t, l, call, name, a, y, types[j])
			}
			for name, call := range valueCalls(x, x, types[j]) {
				asked(t, l, call, name, a, "with itself", types[j])
			}
		}
	}
}

func TestRowsKeepMemoryApart(t *testing.T) {
	list := append(fewValues(), badValues()...)
	types := append([]impl.Type{{Kind: 2, Digits: 30}, {Kind: 2, Digits: 12, Scale: 1}, {Kind: 5}, {Kind: 1}}, badTypes()...)
	source := rand.New(rand.NewSource(6))
	for range 5000 {
		l := &loan{}
		a, b := make([]impl.Value, source.Intn(6)), make([]impl.Value, source.Intn(6))
		for i := range a {
			a[i] = list[source.Intn(len(list))]
		}
		for i := range b {
			b[i] = list[source.Intn(len(list))]
		}
		kinds := make([]impl.Type, source.Intn(6))
		for i := range kinds {
			kinds[i] = types[source.Intn(len(types))]
		}
		cols, downs := make([]int, source.Intn(4)), make([]bool, source.Intn(4))
		for i := range cols {
			cols[i] = source.Intn(8) - 1
		}
		text := []string{"", "\x03\x81\x41\x02\x00\x03\x7f\xbe\xfd\xff", "\x01\x01", "1\n1.5\n", "null\n", "\xff"}[source.Intn(6)]
		calls := rowCalls(lent(l, kinds, impl.Type{Kind: 1}), l.row(a), l.row(b), lent(l, cols, 77), lent(l, downs, true), text)
		for name, call := range calls {
			asked(t, l, call, name, kinds, a, b, cols, downs, text)
		}
	}
}

// Rows of numbers: what is read has a list of limbs for each of them.
func TestRowsThatAreReadAreApart(t *testing.T) {
	num := impl.Type{Kind: impl.KindNum, Digits: 30}
	value := numValue(decFrom("123456789012345678901234567890", 0))
	row := []impl.Value{value, value, value, value}
	types := []impl.Type{num, num, num, num}
	l := &loan{}
	text := wantLines(row)
	read, ok := impl.RowGet(types, text)
	if !ok {
		t.Fatal(text)
	}
	for _, a := range bigsOf(read) {
		l.rooms = append(l.rooms, a.Limbs)
	}
	l.stays = append(l.stays, func() bool { return sameRow(read, row) })
	asked(t, l, func() []impl.Big { row, _ := impl.RowGet(types, text); return bigsOf(row) }, "RowGet")
	key := wantKey(value, false) + wantKey(value, true)
	asked(t, l, func() []impl.Big { row, _ := impl.KeyRead(key, []bool{false, true}); return bigsOf(row) }, "KeyRead")
	for _, down := range bothWays {
		asked(t, l, func() []impl.Big {
			v, _, _ := impl.KeyGet(wantKey(value, down), down)
			w, _, _ := impl.KeyGet(wantKey(value, down), down)
			return []impl.Big{v.Num.Num, w.Num.Num}
		}, "KeyGet", down)
	}
	asked(t, l, func() []impl.Big {
		v, _ := impl.ValueGet(wantPut(value))
		w, _ := impl.ValueGet(wantPut(value))
		return []impl.Big{v.Num.Num, w.Num.Num}
	}, "ValueGet")
}
