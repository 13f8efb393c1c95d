package tests

import (
	"math"
	"slices"
	"testing"

	"loop.example/jetton/impl"
)

// loan is memory that arguments lie in, with spare room behind each of them.
type loan struct {
	rooms [][]int
}

// big lays a number into memory of its own; what stands behind it must stay, too.
func (l *loan) big(a impl.Big) impl.Big {
	room := append(slices.Clone(a.Limbs), 7777, 7777, 7777, 7777)
	l.rooms = append(l.rooms, room)
	a.Limbs = room[:len(a.Limbs)]
	return a
}

func (l *loan) dec(d impl.Dec) impl.Dec {
	d.Num = l.big(d.Num)
	return d
}

func copied(lists [][]int) [][]int {
	var out [][]int
	for _, list := range lists {
		out = append(out, slices.Clone(list))
	}
	return out
}

func sameLists(a, b [][]int) bool {
	return slices.EqualFunc(a, b, slices.Equal[[]int])
}

// asked makes a call that must not panic, write into what was lent, or answer with memory that is not new.
func asked(t *testing.T, l *loan, call func() []impl.Big, what ...any) {
	t.Helper()
	defer func() {
		if e := recover(); e != nil {
			t.Fatal("panics:", e, what)
		}
	}()
	before := copied(l.rooms)
	var lists [][]int
	for _, a := range call() {
		lists = append(lists, a.Limbs[:cap(a.Limbs)])
	}
	if !sameLists(l.rooms, before) {
		t.Fatal("writes into an argument:", what)
	}
	for i, list := range lists {
		want := copied(lists)
		for j := range list {
			list[j], want[i][j] = -1, -1
		}
		if !sameLists(l.rooms, before) {
			t.Fatal("answers with memory of an argument:", what)
		}
		if !sameLists(lists, want) {
			t.Fatal("answers with two lists that share memory:", what)
		}
	}
}

// bigCalls is each function of chapter 1 that takes numbers.
func bigCalls(a, b impl.Big) map[string]func() []impl.Big {
	return map[string]func() []impl.Big{
		"BigOk":  func() []impl.Big { impl.BigOk(a); return nil },
		"BigPut": func() []impl.Big { impl.BigPut(a); return nil },
		"BigCmp": func() []impl.Big { impl.BigCmp(a, b); return nil },
		"BigAdd": func() []impl.Big { x, _ := impl.BigAdd(a, b); return []impl.Big{x} },
		"BigSub": func() []impl.Big { x, _ := impl.BigSub(a, b); return []impl.Big{x} },
		"BigMul": func() []impl.Big { x, _ := impl.BigMul(a, b); return []impl.Big{x} },
		"BigDiv": func() []impl.Big { x, y, _ := impl.BigDiv(a, b); return []impl.Big{x, y} },
	}
}

// decCalls is each function of chapter 2 that takes decimals.
func decCalls(a, b impl.Dec, scale int, mode int) map[string]func() []impl.Big {
	return map[string]func() []impl.Big{
		"DecOk":    func() []impl.Big { impl.DecOk(a); return nil },
		"DecPut":   func() []impl.Big { impl.DecPut(a); return nil },
		"DecCmp":   func() []impl.Big { impl.DecCmp(a, b); return nil },
		"DecTrim":  func() []impl.Big { return []impl.Big{impl.DecTrim(a).Num} },
		"DecAdd":   func() []impl.Big { x, _ := impl.DecAdd(a, b); return []impl.Big{x.Num} },
		"DecSub":   func() []impl.Big { x, _ := impl.DecSub(a, b); return []impl.Big{x.Num} },
		"DecMul":   func() []impl.Big { x, _ := impl.DecMul(a, b); return []impl.Big{x.Num} },
		"DecDiv":   func() []impl.Big { x, _ := impl.DecDiv(a, b, scale, mode); return []impl.Big{x.Num} },
		"DecRound": func() []impl.Big { x, _ := impl.DecRound(a, scale, mode); return []impl.Big{x.Num} },
	}
}

func TestBigsKeepMemoryApart(t *testing.T) {
	list := append(someBigs(), badBigs()...)
	for _, a := range list {
		for _, b := range list {
			l := &loan{}
			x, y := l.big(a), l.big(b)
			for name, call := range bigCalls(x, y) {
				asked(t, l, call, name, a, b)
			}
		}
		l := &loan{}
		x := l.big(a)
		for name, call := range bigCalls(x, x) {
			asked(t, l, call, name, a, "with itself")
		}
	}
}

func TestDecsKeepMemoryApart(t *testing.T) {
	list := append(edgeDecs(), badDecs()...)
	for i, a := range list {
		for j, b := range list {
			l := &loan{}
			x, y := l.dec(a), l.dec(b)
			for name, call := range decCalls(x, y, (i+j)%13, 1+(i+j)%7) {
				asked(t, l, call, name, a, b)
			}
		}
		decsWithThemselves(t, a)
	}
}

// decsWithThemselves takes one decimal for both, at each scale, and by each way that there is, or is beside.
func decsWithThemselves(t *testing.T, a impl.Dec) {
	t.Helper()
	scales, modes := slices.Clone(badScales), slices.Clone(badModes)
	for n := range 13 {
		scales = append(scales, n)
	}
	for n := 1; n <= 7; n++ {
		modes = append(modes, n)
	}
	for _, scale := range scales {
		for _, mode := range modes {
			l := &loan{}
			x := l.dec(a)
			for name, call := range decCalls(x, x, scale, mode) {
				asked(t, l, call, name, a, scale, mode)
			}
		}
	}
}

// What takes no list must still answer with new memory, call by call.
func TestAnswersOfTwoCallsAreApart(t *testing.T) {
	calls := map[string]func() impl.Big{
		"BigOf":  func() impl.Big { return impl.BigOf(math.MinInt) },
		"BigTen": func() impl.Big { x, _ := impl.BigTen(63); return x },
		"BigGet": func() impl.Big { x, _ := impl.BigGet("-123456789"); return x },
		"DecGet": func() impl.Big { x, _ := impl.DecGet("-12345.6789"); return x.Num },
	}
	for name, call := range calls {
		l := &loan{rooms: [][]int{call().Limbs}}
		asked(t, l, func() []impl.Big { return []impl.Big{call(), call()} }, name)
	}
}
