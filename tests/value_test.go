package tests

import (
	"fmt"
	"math/big"
	"regexp"
	"strconv"
	"strings"
	"testing"

	"loop.example/jetton/impl"
)

func TestKindsCodesAndTruths(t *testing.T) {
	got := []int{
		impl.KindNone, impl.KindBool, impl.KindNum, impl.KindDay, impl.KindSpan, impl.KindText,
		impl.CastFine, impl.CastForm, impl.CastNone, impl.CastBad, impl.CastOver,
		impl.TruthNo, impl.TruthYes, impl.TruthOpen, impl.TextMax,
	}
	if fmt.Sprint(got) != "[0 1 2 3 4 5 0 1 2 3 4 0 1 2 12]" {
		t.Error(got)
	}
}

func TestValueOk(t *testing.T) {
	for _, v := range someValues() {
		if !impl.ValueOk(v) {
			t.Error("ok:", v)
		}
	}
	for _, v := range badValues() {
		if impl.ValueOk(v) {
			t.Errorf("not ok: %+v", v)
		}
	}
	for _, v := range []impl.Value{{}, boolValue(true), numValue(impl.Dec{}), dayValue(5), spanValue(1, 1), textValue("x")} {
		v.Num.Num.Limbs = []int{}
		if !impl.ValueOk(v) {
			t.Error("the empty list is the nil list:", v)
		}
	}
	for b := range 256 {
		if impl.ValueOk(textValue(string([]byte{byte(b)}))) != (b >= 32 && b <= 126) {
			t.Error("byte", b)
		}
	}
}

func TestTypeOk(t *testing.T) {
	for _, x := range allTypes() {
		if !impl.TypeOk(x) {
			t.Error("ok:", x)
		}
	}
	for _, x := range badTypes() {
		if impl.TypeOk(x) {
			t.Error("not ok:", x)
		}
	}
}

func TestP34ValuesOfOneKind(t *testing.T) {
	list := someValues()
	for _, a := range list {
		for _, b := range list {
			order, ok := impl.ValueCmp(a, b)
			if a.Kind != b.Kind || a.Kind == 0 {
				if order != 0 || ok {
					t.Fatal(a, b, order, ok)
				}
				continue
			}
			turned, turnedOk := impl.ValueCmp(b, a)
			if !ok || !turnedOk || order != wantOrder(a, b) || turned != -order || impl.ValueOrder(a, b) != order {
				t.Fatal(a, b, order, ok, turned, turnedOk)
			}
		}
	}
	few := fewValues()
	for _, a := range badValues() {
		for _, b := range append(few, a) {
			order, ok := impl.ValueCmp(a, b)
			turned, turnedOk := impl.ValueCmp(b, a)
			if order != 0 || ok || turned != 0 || turnedOk {
				t.Fatal(a, b, order, ok, turned, turnedOk)
			}
		}
	}
}

func TestP35ValuesHaveOneOrder(t *testing.T) {
	list := someValues()
	for _, a := range list {
		if impl.ValueOrder(a, a) != 0 {
			t.Fatal(a)
		}
		for _, b := range list {
			if order := impl.ValueOrder(a, b); order != wantOrder(a, b) || order != -impl.ValueOrder(b, a) {
				t.Fatal(a, b, order)
			}
		}
	}
	few := fewValues()
	for _, a := range few {
		for _, b := range few {
			for _, c := range few {
				if impl.ValueOrder(a, b) <= 0 && impl.ValueOrder(b, c) <= 0 && impl.ValueOrder(a, c) > 0 {
					t.Fatal(a, b, c)
				}
			}
		}
	}
	for _, a := range badValues() {
		for _, b := range append(few, a) {
			if impl.ValueOrder(a, b) != 2 || impl.ValueOrder(b, a) != 2 {
				t.Fatal(a, b)
			}
		}
	}
}

func TestP36ValuesAreReadBack(t *testing.T) {
	for _, v := range someValues() {
		text := impl.ValuePut(v)
		if text != wantPut(v) {
			t.Fatal(v, text)
		}
		back, ok := impl.ValueGet(text)
		mustValue(t, text, back, ok, v, true)
	}
	for _, v := range badValues() {
		if text := impl.ValuePut(v); text != "" {
			t.Error(v, text)
		}
	}
	for n := 1; n <= lastDay; n += 997 {
		back, ok := impl.ValueGet(impl.ValuePut(dayValue(n)))
		mustValue(t, "day", back, ok, dayValue(n), true)
	}
}

// wantValue says whether a text is a value's, by its form; all but the greatest decimals and days that are none.
var wantValue = regexp.MustCompile(`^(null|true|false|-?(0|[1-9][0-9]*)(\.[0-9]{1,12})?|@[0-9]{4}-[0-9]{2}-[0-9]{2}|#(0|-?[1-9][0-9]*)m(0|-?[1-9][0-9]*)d|'([ -&(-~]|''){0,12}')$`)

func mustValueGet(t *testing.T, s string) {
	t.Helper()
	v, ok := impl.ValueGet(s)
	if !ok && !noValue(v) {
		t.Fatalf("ValueGet %q: %v beside false", s, v)
	}
	if ok && (!impl.ValueOk(v) || impl.ValuePut(v) != s || wantPut(v) != s || !wantValue.MatchString(s)) {
		t.Fatalf("ValueGet %q: %v, written %q", s, v, impl.ValuePut(v))
	}
	isNoughtBelow := strings.HasPrefix(s, "-") && strings.Trim(s, "-0.") == ""
	if !ok && wantValue.MatchString(s) && !isNoughtBelow && len(s) <= 8 && !strings.HasPrefix(s, "#") {
		t.Fatalf("ValueGet %q is none", s)
	}
}

func TestP37WhatIsReadAsAValueIsWrittenSo(t *testing.T) {
	eachText("'a0-.", 6, func(s string) { mustValueGet(t, s) })
	eachText("@#1m-d", 6, func(s string) { mustValueGet(t, s) })
	alphabet := "' ~@#-+.0159ntfNmd\x00\x1f\x7f\xff\n"
	for _, s := range []string{"null", "true", "false", "0", "-1.50", "99999999.000000000009", "@2024-02-29", "@9999-12-31", "#12m-3d", "#-120000m4000000d", "''", "'it''s'", "'~ twelve by!'", "'''''''''''''''''''''''''''"} {
		eachBeside(s, alphabet, func(s string) { mustValueGet(t, s) })
	}
}

func TestP37TextsOfNoValue(t *testing.T) {
	bad := []string{
		"", " ", "NULL", "nul", "null ", "True", "TRUE", "t", "'", "'''", "'a", "a'", "a", "'a'b'", "'a''", "''a'", "'a' ", " 'a'", "\"a\"",
		"'" + strings.Repeat("a", 13) + "'", "'" + strings.Repeat("''", 13) + "'", "'" + strings.Repeat("a", 5000) + "'", strings.Repeat("'", 5000), "'\x00'", "'\xff'", "'\n'", "'é'",
		"@", "@2024-02-30", "@2023-02-29", "@2024-2-29", "2024-02-29", "@@2024-02-29", "@0000-01-01", "@null", "#", "#0m", "#1m1", "#120001m0d", "#0m4000001d", "#-0m0d", "##0m0d", "0m0d", "#null",
		"1.", ".1", "01", "-0", "-0.0", "+1", "1e2", "1 ", "--1", "0.0000000000001", strings.Repeat("9", 31), "1" + strings.Repeat("0", 30) + ".0", strings.Repeat("9", 30) + ".0",
	}
	for _, s := range bad {
		if v, ok := impl.ValueGet(s); ok || !noValue(v) {
			t.Errorf("%q: %v %v", s, v, ok)
		}
	}
}

// wantType writes a type.
func wantType(x impl.Type) string {
	if x.Kind == 2 {
		return fmt.Sprintf("num(%d,%d)", x.Digits, x.Scale)
	}
	return map[int]string{1: "bool", 3: "day", 4: "span", 5: "text"}[x.Kind]
}

func mustTypeGet(t *testing.T, s string) {
	t.Helper()
	x, ok := impl.TypeGet(s)
	if ok && (!impl.TypeOk(x) || impl.TypePut(x) != s || wantType(x) != s) || !ok && x != (impl.Type{}) {
		t.Fatalf("TypeGet %q: %v %v", s, x, ok)
	}
}

func TestP38TypesAreReadBack(t *testing.T) {
	for _, x := range allTypes() {
		text := impl.TypePut(x)
		if text != wantType(x) {
			t.Fatal(x, text)
		}
		if back, ok := impl.TypeGet(text); back != x || !ok {
			t.Fatal(x, text, back, ok)
		}
	}
	for _, x := range badTypes() {
		if text := impl.TypePut(x); text != "" {
			t.Error(x, text)
		}
	}
	for _, s := range []string{"bool", "day", "span", "text", "num(5,2)", "num(30,12)"} {
		eachBeside(s, "(),0123 -+nbd\x00\xff", func(s string) { mustTypeGet(t, s) })
	}
	bad := []string{"", "(", ")", "()", ",", "none", "null", "num", "num()", "num(5)", "num(5,)", "num(,2)", "num(05,2)", "num(5,02)", "num(+5,2)", "num(5,-0)", "num( 5,2)", "num(5, 2)", "num(5,2", "num(5,2))", "num(0,0)", "num(31,0)", "num(30,13)", "num(2,3)", "num(5,2)num(5,2)", "Num(5,2)", "text()", "text(0,0)", "day(", "bool ", "(5,2)", "num(5,2,1)", "num(99999999999999999999,2)"}
	for _, s := range bad {
		if x, ok := impl.TypeGet(s); ok || x != (impl.Type{}) {
			t.Errorf("%q: %v %v", s, x, ok)
		}
	}
}

// wantFits says whether a value that is ok is of a type that is.
func wantFits(v impl.Value, x impl.Type) bool {
	if v.Kind != 2 || x.Kind != 2 {
		return v.Kind == 0 || v.Kind == x.Kind
	}
	return v.Num.Scale == x.Scale && len(new(big.Int).Abs(intOf(v.Num.Num)).String()) <= x.Digits
}

func TestP39WhatFitsStays(t *testing.T) {
	for _, v := range someValues() {
		for _, x := range allTypes() {
			fits := impl.ValueFits(v, x)
			if fits != wantFits(v, x) {
				t.Fatal(v, x, fits)
			}
			if fits {
				cast, code := impl.ValueCast(v, x)
				mustValue(t, fmt.Sprint(v, x), cast, code == impl.CastFine, v, true)
			}
		}
	}
	for _, x := range badTypes() {
		for _, v := range fewValues() {
			if impl.ValueFits(v, x) {
				t.Error("a type that is not ok:", v, x)
			}
		}
	}
	for _, v := range badValues() {
		for _, x := range allTypes() {
			if impl.ValueFits(v, x) {
				t.Error("a value that is not ok:", v, x)
			}
		}
	}
}

// wantNumber is a number as a number.
func wantNumber(d impl.Dec, x impl.Type) (impl.Value, int) {
	n := wantRound(ratOf(d), x.Scale, 5)
	if len(new(big.Int).Abs(n).String()) > x.Digits {
		return impl.Value{}, 4
	}
	return numValue(impl.Dec{Num: bigFrom(n), Scale: x.Scale}), 0
}

var (
	decForm  = regexp.MustCompile(`^(-?)(0|[1-9][0-9]*)(\.[0-9]{1,12})?$`)
	spanForm = regexp.MustCompile(`^(0|-?[1-9][0-9]*)m(0|-?[1-9][0-9]*)d$`)
)

// wantOfText is what a text says as a type.
func wantOfText(s string, x impl.Type) (impl.Value, int) {
	switch x.Kind {
	case 1:
		if s == "true" || s == "false" {
			return boolValue(s == "true"), 0
		}
	case 2:
		if decForm.MatchString(s) && (s[0] != '-' || strings.Trim(s, "-0.") != "") {
			whole, part, _ := strings.Cut(s, ".")
			return wantNumber(decFrom(whole+part, len(part)), x)
		}
	case 3:
		if n, ok := wantDay(s); ok {
			return dayValue(n), 0
		}
	case 4:
		if m := spanForm.FindStringSubmatch(s); m != nil {
			months, _ := strconv.Atoi(m[1])
			days, _ := strconv.Atoi(m[2])
			if max(months, -months) <= 120000 && max(days, -days) <= 4000000 {
				return spanValue(months, days), 0
			}
		}
	}
	return impl.Value{}, 3
}

// wantCast is a value that is ok as a type that is.
func wantCast(v impl.Value, x impl.Type) (impl.Value, int) {
	switch {
	case v.Kind == 0:
		return v, 0
	case v.Kind == 2 && x.Kind == 2:
		return wantNumber(v.Num, x)
	case v.Kind == x.Kind:
		return v, 0
	case x.Kind == 5 && len(wantWords(v)) > 12:
		return impl.Value{}, 4
	case x.Kind == 5:
		return textValue(wantWords(v)), 0
	case v.Kind == 5:
		return wantOfText(v.Text, x)
	case v.Kind == 1 && x.Kind == 2 && v.Yes:
		return wantNumber(decFrom("1", 0), x)
	case v.Kind == 1 && x.Kind == 2:
		return wantNumber(impl.Dec{}, x)
	case v.Kind == 2 && x.Kind == 1:
		return boolValue(intOf(v.Num.Num).Sign() != 0), 0
	case v.Kind == 3 && x.Kind == 2:
		return wantNumber(decFrom(strconv.Itoa(v.Day), 0), x)
	}
	return impl.Value{}, 2
}

func TestP40AValueAsATypeFitsIt(t *testing.T) {
	for _, v := range someValues() {
		for _, x := range allTypes() {
			cast, code := impl.ValueCast(v, x)
			want, wantCode := wantCast(v, x)
			if code != wantCode || !sameValue(cast, want) {
				t.Fatal(v, x, cast, code, "want", want, wantCode)
			}
			if code != impl.CastFine {
				continue
			}
			again, code := impl.ValueCast(cast, x)
			if !impl.ValueFits(cast, x) || code != impl.CastFine || !sameValue(again, cast) || (cast.Kind == impl.KindNone) != (v.Kind == impl.KindNone) {
				t.Fatal(v, x, cast, again, code)
			}
		}
	}
}

func TestP40ValuesAndTypesThatAreNotOk(t *testing.T) {
	for _, v := range badValues() {
		for _, x := range append(allTypes(), badTypes()...) {
			if cast, code := impl.ValueCast(v, x); code != impl.CastForm || !noValue(cast) {
				t.Fatal(v, x, cast, code)
			}
		}
	}
	for _, v := range someValues() {
		for _, x := range badTypes() {
			if cast, code := impl.ValueCast(v, x); code != impl.CastForm || !noValue(cast) {
				t.Fatal(v, x, cast, code)
			}
		}
	}
}

func TestP40CastsAtTheEdges(t *testing.T) {
	rows := []struct {
		from, to, want string
		code           int
	}{
		{"true", "num(1,0)", "1", 0}, {"true", "num(1,1)", "", 4}, {"false", "num(1,1)", "0.0", 0}, {"true", "num(12,12)", "", 4}, {"true", "num(13,12)", "1.000000000000", 0},
		{"@9999-12-31", "num(7,0)", "3652059", 0}, {"@9999-12-31", "num(6,0)", "", 4}, {"@9999-12-31", "num(30,12)", "3652059.000000000000", 0}, {"@0001-01-01", "num(1,1)", "", 4},
		{strings.Repeat("9", 30), "num(30,0)", strings.Repeat("9", 30), 0}, {strings.Repeat("9", 30), "num(30,1)", "", 4}, {strings.Repeat("9", 29) + ".5", "num(30,0)", "1" + strings.Repeat("0", 29), 0},
		{"99.95", "num(3,1)", "", 4}, {"99.94", "num(3,1)", "99.9", 0}, {"-0.05", "num(1,1)", "-0.1", 0}, {"-0.04", "num(1,1)", "0.0", 0}, {"0.5", "num(1,0)", "1", 0},
		{"'0.5'", "num(1,0)", "1", 0}, {"'9.5'", "num(1,0)", "", 4}, {"'9.5.'", "num(1,0)", "", 3}, {"''", "num(5,2)", "", 3}, {"'-0'", "num(5,2)", "", 3}, {"' 1'", "num(5,2)", "", 3},
		{"123456789012", "text", "'123456789012'", 0}, {"1234567890123", "text", "", 4}, {"-12345678901", "text", "'-12345678901'", 0}, {"0.0000000000", "text", "'0.0000000000'", 0}, {"0.00000000000", "text", "", 4},
		{"#-9999m-99999d", "text", "", 4}, {"#-9999m-9999d", "text", "'-9999m-9999d'", 0}, {"false", "text", "'false'", 0}, {"null", "text", "null", 0}, {"null", "num(1,1)", "null", 0}, {"null", "bool", "null", 0},
		{"0.000000000001", "bool", "true", 0}, {"-1", "bool", "true", 0}, {"0", "bool", "false", 0}, {"'null'", "bool", "", 3}, {"'1'", "bool", "", 3},
		{"1", "day", "", 2}, {"1", "span", "", 2}, {"true", "day", "", 2}, {"true", "span", "", 2}, {"@2024-02-29", "bool", "", 2}, {"@2024-02-29", "span", "", 2}, {"#1m1d", "bool", "", 2}, {"#1m1d", "num(9,0)", "", 2}, {"#1m1d", "day", "", 2},
		{"'1m-1d'", "span", "#1m-1d", 0}, {"'1m-1'", "span", "", 3}, {"'0001-01-01'", "day", "@0001-01-01", 0}, {"'@0001-01-01'", "day", "", 3},
	}
	for _, r := range rows {
		v, ok := impl.ValueGet(r.from)
		x, typeOk := impl.TypeGet(r.to)
		cast, code := impl.ValueCast(v, x)
		if !ok || !typeOk || code != r.code || code == 0 && impl.ValuePut(cast) != r.want || code != 0 && !noValue(cast) {
			t.Error(r, cast, code)
		}
	}
}

// ownType is the type that a value is of.
func ownType(v impl.Value) impl.Type {
	if v.Kind != 2 {
		return impl.Type{Kind: v.Kind}
	}
	figures := len(new(big.Int).Abs(intOf(v.Num.Num)).String())
	return impl.Type{Kind: 2, Digits: max(figures, v.Num.Scale), Scale: v.Num.Scale}
}

func TestP41WhatIsMadeATextSaysWhatItWas(t *testing.T) {
	through := 0
	for _, v := range someValues() {
		text, code := impl.ValueCast(v, impl.Type{Kind: impl.KindText})
		if v.Kind == impl.KindNone || code != impl.CastFine {
			continue
		}
		through++
		back, code := impl.ValueCast(text, ownType(v))
		mustValue(t, fmt.Sprint(v, text), back, code == impl.CastFine, v, true)
		for _, x := range allTypes() {
			if v.Kind != impl.KindNum || x.Kind != impl.KindNum {
				continue
			}
			direct, directCode := impl.ValueCast(v, x)
			round, roundCode := impl.ValueCast(text, x)
			if directCode != roundCode || !sameValue(direct, round) {
				t.Fatal(v, x, direct, directCode, round, roundCode)
			}
		}
	}
	if through < 100 {
		t.Error("too few texts:", through)
	}
}

func TestP42NumbersAreRounded(t *testing.T) {
	half := big.NewRat(1, 2)
	for _, d := range someDecs() {
		for _, x := range allTypes() {
			if x.Kind != impl.KindNum {
				continue
			}
			cast, code := impl.ValueCast(numValue(d), x)
			rounded, roundCode := impl.DecRound(d, x.Scale, impl.RoundHalfUp)
			if code == impl.CastOver {
				if roundCode == impl.DecFine && len(new(big.Int).Abs(intOf(rounded.Num)).String()) <= x.Digits {
					t.Fatal(d, x, rounded)
				}
				continue
			}
			if code != impl.CastFine || !sameValue(cast, numValue(rounded)) {
				t.Fatal(d, x, cast, code, rounded)
			}
			off := ratSub(ratOf(cast.Num), ratOf(d))
			if off.Abs(off).Cmp(new(big.Rat).Mul(half, stepOf(x.Scale))) > 0 {
				t.Fatal(d, x, cast)
			}
		}
	}
}

// wantAnd and wantOr are the document's words; a truth is No, Yes or Open.
func wantAnd(a, b int) int {
	return [3][3]int{{0, 0, 0}, {0, 1, 2}, {0, 2, 2}}[a][b]
}

func wantOr(a, b int) int {
	return [3][3]int{{0, 1, 2}, {1, 1, 1}, {2, 1, 2}}[a][b]
}

func TestP43TruthsTurned(t *testing.T) {
	for a := range 3 {
		if impl.TruthNot(a) != []int{1, 0, 2}[a] || impl.TruthNot(impl.TruthNot(a)) != a {
			t.Error(a, impl.TruthNot(a))
		}
		for b := range 3 {
			and, or := impl.TruthAnd(a, b), impl.TruthOr(a, b)
			if and != wantAnd(a, b) || or != wantOr(a, b) || and != impl.TruthAnd(b, a) || or != impl.TruthOr(b, a) {
				t.Error(a, b, and, or)
			}
			notA, notB := impl.TruthNot(a), impl.TruthNot(b)
			if impl.TruthNot(and) != impl.TruthOr(notA, notB) || impl.TruthNot(or) != impl.TruthAnd(notA, notB) {
				t.Error(a, b)
			}
		}
	}
	for _, a := range badTruths {
		if impl.TruthNot(a) != -1 {
			t.Error(a, impl.TruthNot(a))
		}
		for _, b := range append([]int{0, 1, 2}, badTruths...) {
			got := []int{impl.TruthAnd(a, b), impl.TruthAnd(b, a), impl.TruthOr(a, b), impl.TruthOr(b, a)}
			if fmt.Sprint(got) != "[-1 -1 -1 -1]" {
				t.Error(a, b, got)
			}
		}
	}
}

func TestP44TruthsOfThree(t *testing.T) {
	and, or := impl.TruthAnd, impl.TruthOr
	for a := range 3 {
		for b := range 3 {
			for c := range 3 {
				if and(or(a, b), c) != or(and(a, c), and(b, c)) || or(and(a, b), c) != and(or(a, c), or(b, c)) {
					t.Error(a, b, c)
				}
				if and(and(a, b), c) != and(a, and(b, c)) || or(or(a, b), c) != or(a, or(b, c)) {
					t.Error(a, b, c)
				}
			}
		}
	}
}
