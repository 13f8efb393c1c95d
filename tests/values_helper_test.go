package tests

import (
	"fmt"
	"math"
	"math/big"
	"strings"
	"testing"

	"loop.example/jetton/impl"
)

func sameValue(a, b impl.Value) bool {
	return a.Kind == b.Kind && a.Yes == b.Yes && sameDec(a.Num, b.Num) && a.Day == b.Day && a.Span == b.Span && a.Text == b.Text
}

func noValue(v impl.Value) bool {
	return sameValue(v, impl.Value{})
}

func sameRow(a, b []impl.Value) bool {
	if len(a) != len(b) {
		return false
	}
	for i := range a {
		if !sameValue(a[i], b[i]) {
			return false
		}
	}
	return true
}

func boolValue(yes bool) impl.Value {
	return impl.Value{Kind: 1, Yes: yes}
}

func numValue(d impl.Dec) impl.Value {
	return impl.Value{Kind: 2, Num: d}
}

func dayValue(n int) impl.Value {
	return impl.Value{Kind: 3, Day: n}
}

func spanValue(months, days int) impl.Value {
	return impl.Value{Kind: 4, Span: impl.Span{Months: months, Days: days}}
}

func textValue(s string) impl.Value {
	return impl.Value{Kind: 5, Text: s}
}

// edgeTexts is texts that a value may say.
var edgeTexts = []string{
	"", " ", "  ", "!", "'", "''", "'''", "~", "~~", "a", "a ", "aa", "ab", "a'b", "A", "b", "null", "true", "false", " true", "True", "tru", "true ",
	"0", "1", "-1", "1.0", "1.00", "-0", "01", "1.", ".5", "0.5", "+1", "9.995", "-9.995", "0.045", "1e3", "123456789012", "-12345678901", "0.0000000001", "99999999.999", "00000000000.",
	"2024-02-29", "2024-02-30", "0001-01-01", "9999-12-31", "@2024-02-29", "0000-01-01", "10000-01-01",
	"0m0d", "3m-4d", "-1m0d", "-0m0d", "1m", "#0m0d", "-99999m-999d", "120000m0d", "120001m0d",
	strings.Repeat("'", 12), strings.Repeat("~", 12), strings.Repeat(" ", 12), "twelve bytes",
}

// someValues is values of each kind; numbers that are as much at several scales among them.
func someValues() []impl.Value {
	list := []impl.Value{{}, boolValue(false), boolValue(true)}
	for _, d := range someDecs() {
		list = append(list, numValue(d))
	}
	return append(list, otherValues()...)
}

// otherValues is days, spans and texts.
func otherValues() []impl.Value {
	var list []impl.Value
	for _, n := range []int{1, 2, 9, 10, 99, 255, 256, 257, 65535, 65536, 65537, 738945, lastDay - 1, lastDay} {
		list = append(list, dayValue(n))
	}
	numbers := []int{0, 1, 2, 255, 256, 31071, 31072, 65535, 65536, 119999, 120000}
	for i, n := range numbers {
		for _, m := range []int{0, 1, 999, 3999999, 4000000, numbers[len(numbers)-1-i]} {
			list = append(list, spanValue(n, m), spanValue(-n, m), spanValue(n, -m), spanValue(-n, -m))
		}
	}
	for _, s := range edgeTexts {
		list = append(list, textValue(s))
	}
	return list
}

// fewValues is values of each kind, few enough for each three of them.
func fewValues() []impl.Value {
	list := []impl.Value{{}, boolValue(false), boolValue(true)}
	for _, s := range []string{"0", "1", "10", "100", "-1", "-10", "5", "-5", "999999999999", "-999999999999"} {
		for _, scale := range []int{0, 1, 2, 12} {
			list = append(list, numValue(decFrom(s, scale)))
		}
	}
	for _, s := range []string{"", "a", "a ", "ab", "b", "'", "~"} {
		list = append(list, textValue(s))
	}
	return append(list, dayValue(1), dayValue(2), dayValue(lastDay), spanValue(0, 0), spanValue(0, 1), spanValue(0, -1), spanValue(1, -9), spanValue(-1, 9), spanValue(120000, 4000000))
}

// wrongKinds is numbers of no kind.
var wrongKinds = append([]int{-1, 6, 7, 255, 256}, badInts...)

// overfull is a value with one more part that is not nothing.
func overfull(v impl.Value) []impl.Value {
	var list []impl.Value
	add := func(kind int, change func(v *impl.Value)) {
		if v.Kind != kind {
			x := v
			change(&x)
			list = append(list, x)
		}
	}
	add(1, func(v *impl.Value) { v.Yes = true })
	add(2, func(v *impl.Value) { v.Num.Num = bigFrom(big.NewInt(1)) })
	add(2, func(v *impl.Value) { v.Num.Num.Neg = true })
	add(2, func(v *impl.Value) { v.Num.Scale = 1 })
	add(2, func(v *impl.Value) { v.Num.Num.Limbs = []int{0} })
	add(3, func(v *impl.Value) { v.Day = 1 })
	add(3, func(v *impl.Value) { v.Day = -1 })
	add(4, func(v *impl.Value) { v.Span.Months = 1 })
	add(4, func(v *impl.Value) { v.Span.Days = -1 })
	add(5, func(v *impl.Value) { v.Text = " " })
	return list
}

// badValues is values that are not ok, each in one way.
func badValues() []impl.Value {
	var list []impl.Value
	for _, v := range []impl.Value{{}, boolValue(false), boolValue(true), numValue(impl.Dec{}), numValue(decFrom("-15", 1)), dayValue(1), spanValue(0, 0), textValue("")} {
		list = append(list, overfull(v)...)
	}
	for _, kind := range wrongKinds {
		list = append(list, impl.Value{Kind: kind}, impl.Value{Kind: kind, Yes: true, Day: 1, Text: "a"})
	}
	for _, d := range badDecs() {
		list = append(list, numValue(d))
	}
	for _, n := range badDays {
		list = append(list, dayValue(n))
	}
	for _, s := range badSpans() {
		list = append(list, impl.Value{Kind: 4, Span: s})
	}
	for _, s := range []string{"\x00", "\x1f", "\x7f", "\x80", "\xff", "a\x00", "\xffb", "a\nb", "\n", "\t", "é", strings.Repeat("a", 13), strings.Repeat(" ", 13), strings.Repeat("a", 1000)} {
		list = append(list, textValue(s))
	}
	return list
}

// allTypes is each type that is ok.
func allTypes() []impl.Type {
	list := []impl.Type{{Kind: 1}, {Kind: 3}, {Kind: 4}, {Kind: 5}}
	for digits := 1; digits <= 30; digits++ {
		for scale := 0; scale <= min(12, digits); scale++ {
			list = append(list, impl.Type{Kind: 2, Digits: digits, Scale: scale})
		}
	}
	return list
}

// badTypes is types that are not ok, each in one way.
func badTypes() []impl.Type {
	list := []impl.Type{{}, {Kind: 2}, {Kind: 2, Scale: 1}, {Digits: 1}, {Digits: 5, Scale: 2}}
	for _, n := range append([]int{-1, 0, 31, 32}, badInts...) {
		list = append(list, impl.Type{Kind: 2, Digits: n})
	}
	for _, n := range append([]int{-1, 13, 14, 30}, badInts...) {
		list = append(list, impl.Type{Kind: 2, Digits: 30, Scale: n})
	}
	for digits := 1; digits < 13; digits++ {
		list = append(list, impl.Type{Kind: 2, Digits: digits, Scale: digits + 1})
	}
	for _, kind := range []int{1, 3, 4, 5} {
		list = append(list, impl.Type{Kind: kind, Digits: 1}, impl.Type{Kind: kind, Scale: 1}, impl.Type{Kind: kind, Digits: -1}, impl.Type{Kind: kind, Digits: 5, Scale: 2})
	}
	for _, kind := range wrongKinds {
		list = append(list, impl.Type{Kind: kind}, impl.Type{Kind: kind, Digits: 5, Scale: 2})
	}
	return list
}

// sign is -1, 0 or 1.
func sign(n int) int {
	return max(-1, min(1, n))
}

// wantOrder compares two values that are ok.
func wantOrder(a, b impl.Value) int {
	switch {
	case a.Kind != b.Kind:
		return sign(a.Kind - b.Kind)
	case a.Kind == 1 && a.Yes != b.Yes:
		return map[bool]int{false: -1, true: 1}[a.Yes]
	case a.Kind == 2:
		return ratOf(a.Num).Cmp(ratOf(b.Num))
	case a.Kind == 3:
		return sign(a.Day - b.Day)
	case a.Kind == 4 && a.Span.Months != b.Span.Months:
		return sign(a.Span.Months - b.Span.Months)
	case a.Kind == 4:
		return sign(a.Span.Days - b.Span.Days)
	case a.Kind == 5:
		return strings.Compare(a.Text, b.Text)
	}
	return 0
}

// wantFigures writes a decimal.
func wantFigures(d impl.Dec) string {
	text := new(big.Int).Abs(intOf(d.Num)).String()
	for len(text) <= d.Scale {
		text = "0" + text
	}
	if d.Scale > 0 {
		text = text[:len(text)-d.Scale] + "." + text[len(text)-d.Scale:]
	}
	if d.Num.Neg {
		return "-" + text
	}
	return text
}

// wantWords is what a value says, without a mark.
func wantWords(v impl.Value) string {
	switch v.Kind {
	case 0:
		return "null"
	case 1:
		return fmt.Sprint(v.Yes)
	case 2:
		return wantFigures(v.Num)
	case 3:
		return dateOf(v.Day).Format("2006-01-02")
	case 4:
		return wantSpan(v.Span)
	}
	return v.Text
}

// wantPut writes a value.
func wantPut(v impl.Value) string {
	switch v.Kind {
	case 3:
		return "@" + wantWords(v)
	case 4:
		return "#" + wantWords(v)
	case 5:
		return "'" + strings.Join(strings.Split(v.Text, "'"), "''") + "'"
	}
	return wantWords(v)
}

// leastValue is a value, a number at its least scale.
func leastValue(v impl.Value) impl.Value {
	for v.Kind == 2 && v.Num.Scale > 0 {
		tenth, rest := new(big.Int).QuoRem(intOf(v.Num.Num), big.NewInt(10), new(big.Int))
		if rest.Sign() != 0 {
			break
		}
		v.Num = impl.Dec{Num: bigFrom(tenth), Scale: v.Num.Scale - 1}
	}
	return v
}

func mustValue(t *testing.T, what string, got impl.Value, gotOk bool, want impl.Value, wantOk bool) {
	t.Helper()
	if gotOk != wantOk || !sameValue(got, want) {
		t.Fatalf("%s: %v %v, want %v %v", what, got, gotOk, want, wantOk)
	}
}

// badTruths is numbers of no truth.
var badTruths = []int{-1, -2, 3, 4, math.MinInt, math.MaxInt}
