package tests

import (
	"math"
	"math/rand"
	"slices"
	"strings"
	"testing"

	"loop.example/jetton/impl"
)

// madeRow is types, and a row of them, of values of a list, or none.
func madeRow(source *rand.Rand, kinds []impl.Type, list []impl.Value) ([]impl.Type, []impl.Value) {
	n := 1 + source.Intn(4)
	var types []impl.Type
	var row []impl.Value
	for len(types) < n {
		x := kinds[source.Intn(len(kinds))]
		if source.Intn(2) == 0 {
			x = kinds[source.Intn(4)]
		}
		v := list[source.Intn(len(list))]
		if source.Intn(2) == 0 && v.Kind != 0 {
			x = ownType(v)
		}
		if !wantFits(v, x) {
			v = impl.Value{}
		}
		types, row = append(types, x), append(row, v)
	}
	return types, row
}

// wantLines writes a row.
func wantLines(row []impl.Value) string {
	s := ""
	for _, v := range row {
		s += wantPut(v) + "\n"
	}
	return s
}

func mustRowGet(t *testing.T, types []impl.Type, s string, want []impl.Value, wantOk bool) {
	t.Helper()
	row, ok := impl.RowGet(types, s)
	if ok != wantOk || !sameRow(row, want) {
		t.Fatalf("RowGet %v %q: %v %v, want %v %v", types, s, row, ok, want, wantOk)
	}
}

func TestP53RowsAreReadBack(t *testing.T) {
	if impl.ColMax != 4 || impl.ValMax != 140 {
		t.Error(impl.ColMax, impl.ValMax)
	}
	source := rand.New(rand.NewSource(5))
	kinds, list := allTypes(), someValues()
	for range 20000 {
		types, row := madeRow(source, kinds, list)
		text := impl.RowPut(types, row)
		if !impl.RowOk(types, row) || text != wantLines(row) || len(text) > impl.ValMax {
			t.Fatalf("%v %v: %q", types, row, text)
		}
		mustRowGet(t, types, text, row, true)
	}
}

func TestP53TheLongestRows(t *testing.T) {
	longest := []impl.Value{numValue(decFrom("-"+strings.Repeat("9", 30), 12)), spanValue(-120000, -4000000), textValue(strings.Repeat("'", 12)), dayValue(lastDay)}
	for _, v := range longest {
		types, row := []impl.Type{}, []impl.Value{}
		for range 4 {
			types, row = append(types, ownType(v)), append(row, v)
			text := impl.RowPut(types, row)
			if text != wantLines(row) || len(text) > impl.ValMax {
				t.Fatalf("%v: %q", row, text)
			}
			mustRowGet(t, types, text, row, true)
		}
	}
}

// badRow is types and values that are no row.
func badRow(t *testing.T, types []impl.Type, row []impl.Value) {
	t.Helper()
	if impl.RowOk(types, row) || impl.RowPut(types, row) != "" {
		t.Fatalf("%v %v: %v %q", types, row, impl.RowOk(types, row), impl.RowPut(types, row))
	}
}

func TestP53RowsThatAreNone(t *testing.T) {
	day, none := impl.Type{Kind: impl.KindDay}, impl.Value{}
	badRow(t, nil, nil)
	badRow(t, []impl.Type{}, []impl.Value{})
	badRow(t, nil, []impl.Value{none})
	badRow(t, []impl.Type{day}, nil)
	for n := 1; n <= 6; n++ {
		for m := range 7 {
			types, row := slices.Repeat([]impl.Type{day}, n), slices.Repeat([]impl.Value{none}, m)
			if n == m && n <= 4 {
				mustRowGet(t, types, strings.Repeat("null\n", m), row, true)
				continue
			}
			badRow(t, types, row)
			mustRowGet(t, types, strings.Repeat("null\n", m), nil, false)
		}
	}
	for _, x := range badTypes() {
		badRow(t, []impl.Type{x}, []impl.Value{none})
		badRow(t, []impl.Type{day, x}, []impl.Value{none, none})
		mustRowGet(t, []impl.Type{x}, "null\n", nil, false)
		mustRowGet(t, []impl.Type{day, x}, "null\nnull\n", nil, false)
	}
	for _, v := range badValues() {
		for _, x := range []impl.Type{{Kind: 1}, {Kind: 2, Digits: 30}, {Kind: 3}, {Kind: 4}, {Kind: 5}} {
			badRow(t, []impl.Type{x}, []impl.Value{v})
			badRow(t, []impl.Type{x, x}, []impl.Value{none, v})
		}
	}
	for _, v := range someValues() {
		for _, x := range allTypes() {
			if !wantFits(v, x) {
				badRow(t, []impl.Type{x}, []impl.Value{v})
				mustRowGet(t, []impl.Type{x}, wantPut(v)+"\n", nil, false)
			}
		}
	}
}

func TestP54WhatIsReadAsARowIsOne(t *testing.T) {
	num := impl.Type{Kind: impl.KindNum, Digits: 3, Scale: 1}
	rows := map[string][]impl.Type{
		"1.5\n":                         {num},
		"-99.9\n''\n":                   {num, {Kind: impl.KindText}},
		"null\ntrue\n#0m0d\n":           {num, {Kind: impl.KindBool}, {Kind: impl.KindSpan}},
		"@2024-02-29\n'a'\nnull\n0.0\n": {{Kind: impl.KindDay}, {Kind: impl.KindText}, {Kind: impl.KindDay}, num},
	}
	for s, types := range rows {
		read := 0
		eachBeside(s, "\n' 0159-.nul@#md\x00\xff\r", func(s string) {
			row, ok := impl.RowGet(types, s)
			if ok && (!impl.RowOk(types, row) || impl.RowPut(types, row) != s || wantLines(row) != s) || !ok && len(row) > 0 {
				t.Fatalf("%v %q: %v %v", types, s, row, ok)
			}
			if ok {
				read++
			}
		})
		if read == 0 {
			t.Errorf("%q is not read", s)
		}
	}
	types := []impl.Type{num, {Kind: impl.KindText}}
	bad := []string{"", "\n", "\n\n", "1.5", "1.5\n", "1.5\n'a'", "1.5\n'a'\n\n", "\n1.5\n'a'\n", "1.5\n\n'a'\n", "1.50\n'a'\n", "100.0\n'a'\n", "1.5\n'a\n'\n", "1.5\r\n'a'\r\n", "'a'\n1.5\n", "1.5\nx\n", "x\n'a'\n", "1.5 \n'a'\n", "1.5\n'a'\n'a'\n", "1.5,'a'\n", strings.Repeat("1.5\n", 1000)}
	for _, s := range bad {
		mustRowGet(t, types, s, nil, false)
	}
	mustRowGet(t, nil, "", nil, false)
	mustRowGet(t, nil, "null\n", nil, false)
}

func TestRowOrderOfWhatIsNotOk(t *testing.T) {
	one, two := numValue(decFrom("1", 0)), numValue(decFrom("20", 1))
	a, b := []impl.Value{one, two}, []impl.Value{two, two}
	bad := func(a, b []impl.Value, cols []int, downs []bool) {
		t.Helper()
		if order := impl.RowOrder(a, b, cols, downs); order != 2 {
			t.Error(a, b, cols, downs, order)
		}
	}
	for _, col := range append([]int{-1, 2, 3, math.MinInt, math.MaxInt}, badInts...) {
		bad(a, b, []int{col}, []bool{false})
		bad(a, b, []int{0, col}, []bool{true, false})
	}
	bad(a, b, []int{0}, nil)
	bad(a, b, nil, []bool{true})
	bad(a, b, []int{0, 1}, []bool{true})
	bad(a, b[:1], []int{0}, []bool{true})
	bad(a[:1], b, nil, nil)
	bad(nil, nil, []int{0}, []bool{false})
	for _, v := range badValues() {
		// Also where no place asks for it.
		bad([]impl.Value{one, v}, b, []int{0}, []bool{false})
		bad(a, []impl.Value{v, two}, []int{1}, []bool{false})
		bad([]impl.Value{v}, []impl.Value{v}, nil, nil)
	}
}

func TestRowOrderOfWhatIsOk(t *testing.T) {
	one, two, same := numValue(decFrom("1", 0)), numValue(decFrom("20", 1)), numValue(decFrom("200", 2))
	rows := []struct {
		a, b  []impl.Value
		cols  []int
		downs []bool
		want  int
	}{
		{nil, nil, nil, nil, 0},
		{[]impl.Value{one}, []impl.Value{two}, nil, nil, 0},
		{[]impl.Value{one}, []impl.Value{two}, []int{0}, []bool{false}, -1},
		{[]impl.Value{one}, []impl.Value{two}, []int{0}, []bool{true}, 1},
		{[]impl.Value{two}, []impl.Value{same}, []int{0, 0}, []bool{false, true}, 0},
		{[]impl.Value{two, one}, []impl.Value{same, two}, []int{0, 1}, []bool{true, false}, -1},
		{[]impl.Value{two, one}, []impl.Value{one, two}, []int{1, 0}, []bool{false, false}, -1},
		{[]impl.Value{two, one}, []impl.Value{one, two}, []int{0, 1}, []bool{false, false}, 1},
		{[]impl.Value{one}, []impl.Value{two}, []int{0, 0}, []bool{true, false}, 1},
		{[]impl.Value{{}}, []impl.Value{{}}, []int{0}, []bool{true}, 0},
		{slices.Repeat([]impl.Value{one}, 9), slices.Repeat([]impl.Value{two}, 9), []int{8, 0, 0, 0, 0, 0}, make([]bool, 6), -1},
	}
	for _, r := range rows {
		if order := impl.RowOrder(r.a, r.b, r.cols, r.downs); order != r.want {
			t.Error(r, order)
		}
	}
}
