package tests

import (
	"fmt"
	"math/big"
	"regexp"
	"strings"
	"testing"

	"loop.example/jetton/impl"
)

// eachDecPair calls with each two decimals that are ok.
func eachDecPair(call func(a, b impl.Dec)) {
	list := someDecs()
	for _, a := range list {
		for _, b := range list {
			call(a, b)
		}
	}
}

// eachRound calls with each decimal, at each scale, by each way to round.
func eachRound(call func(a impl.Dec, scale int, mode int)) {
	for _, a := range someDecs() {
		for scale := 0; scale <= 12; scale++ {
			for mode := 1; mode <= 7; mode++ {
				call(a, scale, mode)
			}
		}
	}
}

// stepOf is one step at a scale.
func stepOf(scale int) *big.Rat {
	return new(big.Rat).SetFrac(big.NewInt(1), tenTo(scale))
}

func ratSub(a, b *big.Rat) *big.Rat {
	return new(big.Rat).Sub(a, b)
}

func TestLimitsAndCodesOfDecs(t *testing.T) {
	got := []int{
		impl.DecDigits, impl.DecScale, impl.DecFine, impl.DecForm, impl.DecZero, impl.DecOver,
		impl.RoundUp, impl.RoundDown, impl.RoundCeil, impl.RoundFloor, impl.RoundHalfUp, impl.RoundHalfDown, impl.RoundHalfEven,
	}
	if fmt.Sprint(got) != "[30 12 0 1 2 3 1 2 3 4 5 6 7]" {
		t.Error(got)
	}
}

func TestDecOk(t *testing.T) {
	for _, d := range someDecs() {
		if !impl.DecOk(d) {
			t.Error("ok:", d)
		}
	}
	for _, d := range badDecs() {
		if impl.DecOk(d) {
			t.Error("not ok:", d)
		}
	}
}

func TestP12WhatWasAddedIsTakenAway(t *testing.T) {
	eachDecPair(func(a, b impl.Dec) {
		what := fmt.Sprint("DecAdd ", a, b)
		sum, code := impl.DecAdd(a, b)
		scale := max(a.Scale, b.Scale)
		want, wantCode := wantDec(wantRound(new(big.Rat).Add(ratOf(a), ratOf(b)), scale, 1), scale)
		mustDec(t, what, sum, code, want, wantCode)
		other, otherCode := impl.DecAdd(b, a)
		mustDec(t, what+" turned", other, otherCode, sum, code)
		if code != impl.DecFine {
			return
		}
		back, backCode := impl.DecSub(sum, b)
		if backCode != impl.DecOver && (backCode != impl.DecFine || ratOf(back).Cmp(ratOf(a)) != 0) {
			t.Fatal(what, back, backCode)
		}
	})
}

func TestP13DifferencesTurned(t *testing.T) {
	eachDecPair(func(a, b impl.Dec) {
		what := fmt.Sprint("DecSub ", a, b)
		d, code := impl.DecSub(a, b)
		scale := max(a.Scale, b.Scale)
		want, wantCode := wantDec(wantRound(ratSub(ratOf(a), ratOf(b)), scale, 1), scale)
		mustDec(t, what, d, code, want, wantCode)
		other, otherCode := impl.DecSub(b, a)
		mustDec(t, what+" turned", other, otherCode, turnedDec(d), code)
		none, noneCode := impl.DecSub(a, a)
		mustDec(t, what+" itself", none, noneCode, impl.Dec{Scale: a.Scale}, impl.DecFine)
	})
}

func TestP14ProductsInEitherOrder(t *testing.T) {
	one := impl.Dec{Num: impl.BigOf(1)}
	eachDecPair(func(a, b impl.Dec) {
		what := fmt.Sprint("DecMul ", a, b)
		product, code := impl.DecMul(a, b)
		scale := min(a.Scale+b.Scale, 12)
		want, wantCode := wantDec(wantRound(new(big.Rat).Mul(ratOf(a), ratOf(b)), scale, 7), scale)
		mustDec(t, what, product, code, want, wantCode)
		other, otherCode := impl.DecMul(b, a)
		mustDec(t, what+" turned", other, otherCode, product, code)
	})
	for _, a := range someDecs() {
		same, code := impl.DecMul(a, one)
		mustDec(t, "by 1", same, code, a, impl.DecFine)
		none, code := impl.DecMul(a, impl.Dec{})
		mustDec(t, "by 0", none, code, impl.Dec{Scale: a.Scale}, impl.DecFine)
	}
}

func TestP14ProductsBetweenTwoSteps(t *testing.T) {
	rows := []struct{ a, b, want string }{
		{"0.0000005", "0.000001", "0.000000000000"},
		{"0.0000015", "0.000001", "0.000000000002"},
		{"0.0000025", "0.000001", "0.000000000002"},
		{"-0.0000005", "0.000001", "0.000000000000"},
		{"-0.0000015", "0.000001", "-0.000000000002"},
		{"0.0000025", "0.0000010001", "0.000000000003"},
		{"0.000000000001", "0.000000000001", "0.000000000000"},
		{"0.000000000001", "-0.500000000000", "0.000000000000"},
		{"0.000000000001", "-0.500000000001", "-0.000000000001"},
		{"999999999999999999.999999999999", "1.000000000000", "999999999999999999.999999999999"},
	}
	for _, r := range rows {
		a, _ := impl.DecGet(r.a)
		b, _ := impl.DecGet(r.b)
		product, code := impl.DecMul(a, b)
		if code != impl.DecFine || impl.DecPut(product) != r.want {
			t.Error(r, impl.DecPut(product), code)
		}
	}
}

func TestP15ProductOfASum(t *testing.T) {
	list := someDecs()
	held := 0
	for i, a := range list {
		for j, b := range list {
			c := list[(i*5+j*11)%len(list)]
			if a.Scale > 6 || b.Scale > 6 || c.Scale > 6 {
				continue
			}
			sum, code1 := impl.DecAdd(b, c)
			left, code2 := impl.DecMul(a, sum)
			first, code3 := impl.DecMul(a, b)
			second, code4 := impl.DecMul(a, c)
			right, code5 := impl.DecAdd(first, second)
			if code1+code2+code3+code4+code5 != 0 {
				continue
			}
			held++
			if impl.DecCmp(left, right) != 0 || ratOf(left).Cmp(ratOf(right)) != 0 {
				t.Fatal(a, b, c, left, right)
			}
		}
	}
	if held < 100 {
		t.Error("too few without a code:", held)
	}
}

func TestP16QuotientWithinOneStep(t *testing.T) {
	list := someDecs()
	for i, a := range list {
		for j, b := range list {
			if len(b.Num.Limbs) == 0 {
				continue
			}
			for mode := 1; mode <= 7; mode++ {
				quotientWithinOneStep(t, a, b, (i+j*3+mode)%13, mode)
			}
		}
	}
}

func quotientWithinOneStep(t *testing.T, a, b impl.Dec, scale int, mode int) {
	t.Helper()
	what := fmt.Sprint("DecDiv ", a, b, scale, mode)
	q, code := impl.DecDiv(a, b, scale, mode)
	want, wantCode := wantDec(wantRound(new(big.Rat).Quo(ratOf(a), ratOf(b)), scale, mode), scale)
	mustDec(t, what, q, code, want, wantCode)
	if code != impl.DecFine {
		return
	}
	off := ratSub(ratOf(a), new(big.Rat).Mul(ratOf(q), ratOf(b)))
	off.Abs(off)
	step := new(big.Rat).Mul(ratOf(b), stepOf(scale))
	step.Abs(step)
	if off.Cmp(step) >= 0 || mode >= 5 && off.Cmp(new(big.Rat).Mul(step, big.NewRat(1, 2))) > 0 {
		t.Fatal(what, q)
	}
}

// Quotients that are just between two steps, or by the least bit beside the middle, at each way and sign.
func TestP16QuotientsBetweenTwoSteps(t *testing.T) {
	for _, times := range []int{0, 1, 2, 9, 10, 9999, 99999} {
		for _, half := range []string{"499999", "500000", "500001", "000001", "999999", "000000"} {
			for scale := 0; scale <= 6; scale++ {
				n := number(fmt.Sprint(times, half))
				a := impl.Dec{Num: bigFrom(n), Scale: scale}
				for _, by := range []impl.Dec{decFrom("1000000", 0), decFrom("-1000000", 0), decFrom("1000000000000000000", 12)} {
					for mode := 1; mode <= 7; mode++ {
						quotientWithinOneStep(t, a, by, scale, mode)
						quotientWithinOneStep(t, turnedDec(a), by, scale, mode)
					}
				}
			}
		}
	}
}

func TestP17OneStepBetweenUpAndDown(t *testing.T) {
	eachRound(func(a impl.Dec, scale int, mode int) {
		what := fmt.Sprint("DecRound ", a, scale, mode)
		x, code := impl.DecRound(a, scale, mode)
		want, wantCode := wantDec(wantRound(ratOf(a), scale, mode), scale)
		mustDec(t, what, x, code, want, wantCode)
		low, lowCode := impl.DecRound(a, scale, impl.RoundFloor)
		high, highCode := impl.DecRound(a, scale, impl.RoundCeil)
		if code+lowCode+highCode != 0 {
			return
		}
		apart := ratSub(ratOf(high), ratOf(low))
		if impl.DecCmp(low, a) > 0 || impl.DecCmp(high, a) < 0 || apart.Sign() != 0 && apart.Cmp(stepOf(scale)) != 0 {
			t.Fatal(what, low, high)
		}
		if !sameDec(x, low) && !sameDec(x, high) {
			t.Fatal(what, x, low, high)
		}
		size := new(big.Rat).Abs(ratOf(x)).Cmp(new(big.Rat).Abs(ratOf(a)))
		if mode == impl.RoundDown && size > 0 || mode == impl.RoundUp && size < 0 {
			t.Fatal(what, x)
		}
	})
}

func TestP18TheNearerOneIsTaken(t *testing.T) {
	eachRound(func(a impl.Dec, scale int, mode int) {
		down, downCode := impl.DecRound(a, scale, impl.RoundDown)
		up, upCode := impl.DecRound(a, scale, impl.RoundUp)
		if scale >= a.Scale || mode < 5 || downCode+upCode != 0 {
			return
		}
		x, code := impl.DecRound(a, scale, mode)
		toDown := new(big.Rat).Abs(ratSub(ratOf(a), ratOf(down)))
		toUp := new(big.Rat).Abs(ratSub(ratOf(a), ratOf(up)))
		want := up
		switch near := toDown.Cmp(toUp); {
		case near < 0, near == 0 && mode == impl.RoundHalfDown:
			want = down
		case near == 0 && mode == impl.RoundHalfEven && intOf(down.Num).Bit(0) == 0:
			want = down
		}
		mustDec(t, fmt.Sprint("DecRound ", a, scale, mode), x, code, want, impl.DecFine)
	})
}

// Each way at each kind of place between two steps, written out.
func TestP18WaysWrittenOut(t *testing.T) {
	nums := []string{"0.4", "-0.4", "0.5", "-0.5", "0.6", "-0.6", "1.5", "-1.5", "2.50", "-2.50", "2.51", "9999.5", "0.0", "-7.0"}
	want := []string{
		"1 -1 1 -1 1 -1 2 -2 3 -3 3 10000 0 -7",
		"0 0 0 0 0 0 1 -1 2 -2 2 9999 0 -7",
		"1 0 1 0 1 0 2 -1 3 -2 3 10000 0 -7",
		"0 -1 0 -1 0 -1 1 -2 2 -3 2 9999 0 -7",
		"0 0 1 -1 1 -1 2 -2 3 -3 3 10000 0 -7",
		"0 0 0 0 1 -1 1 -1 2 -2 3 9999 0 -7",
		"0 0 0 0 1 -1 2 -2 2 -2 3 10000 0 -7",
	}
	for m, line := range want {
		var got []string
		for _, s := range nums {
			a, _ := impl.DecGet(s)
			x, _ := impl.DecRound(a, 0, m+1)
			got = append(got, impl.DecPut(x))
		}
		if strings.Join(got, " ") != line {
			t.Errorf("way %d: %v, want %s", m+1, got, line)
		}
	}
}

func TestP19RoundedInTwoSteps(t *testing.T) {
	eachRound(func(a impl.Dec, scale int, mode int) {
		if mode > impl.RoundFloor {
			return
		}
		first, code := impl.DecRound(a, scale, mode)
		if code != impl.DecFine {
			return
		}
		for less := 0; less < scale; less++ {
			two, twoCode := impl.DecRound(first, less, mode)
			one, oneCode := impl.DecRound(a, less, mode)
			mustDec(t, fmt.Sprint(a, scale, less, mode), two, twoCode, one, oneCode)
		}
	})
}

func TestP20GreaterScaleAndBack(t *testing.T) {
	eachRound(func(a impl.Dec, scale int, mode int) {
		if scale < a.Scale {
			return
		}
		what := fmt.Sprint("DecRound ", a, scale, mode)
		x, code := impl.DecRound(a, scale, mode)
		want, wantCode := wantDec(new(big.Int).Mul(intOf(a.Num), tenTo(scale-a.Scale)), scale)
		mustDec(t, what, x, code, want, wantCode)
		if code != impl.DecFine {
			return
		}
		if impl.DecCmp(x, a) != 0 {
			t.Fatal(what, x)
		}
		back, backCode := impl.DecRound(x, a.Scale, mode)
		mustDec(t, what+" back", back, backCode, a, impl.DecFine)
	})
}

func TestP21ComparedByWhatIsBetween(t *testing.T) {
	eachDecPair(func(a, b impl.Dec) {
		got := impl.DecCmp(a, b)
		if got != ratOf(a).Cmp(ratOf(b)) || impl.DecCmp(b, a) != -got || impl.DecCmp(a, impl.DecTrim(a)) != 0 {
			t.Fatal(a, b, got)
		}
		d, code := impl.DecSub(a, b)
		if code == impl.DecFine && got != intOf(d.Num).Sign() {
			t.Fatal(a, b, got, d)
		}
	})
}

func TestP22LeastScale(t *testing.T) {
	for _, a := range someDecs() {
		x := impl.DecTrim(a)
		if !impl.DecOk(x) || ratOf(x).Cmp(ratOf(a)) != 0 || !sameDec(impl.DecTrim(x), x) || x.Scale > a.Scale {
			t.Fatal(a, x)
		}
		if x.Scale == 0 {
			continue
		}
		less, code := impl.DecRound(x, x.Scale-1, impl.RoundDown)
		if code != impl.DecFine || impl.DecCmp(less, x) == 0 || intOf(x.Num).Sign() == 0 {
			t.Fatal(a, x, less)
		}
	}
	rows := [][2]string{{"0.000000000000", "0"}, {"-1.200", "-1.2"}, {"100.00", "100"}, {"0.05", "0.05"}, {"100", "100"}, {"0.000000000010", "0.00000000001"}}
	for _, r := range rows {
		a, ok := impl.DecGet(r[0])
		if got := impl.DecPut(impl.DecTrim(a)); !ok || got != r[1] {
			t.Error(r, got)
		}
	}
}

func TestP23ReadBack(t *testing.T) {
	for _, a := range someDecs() {
		text := impl.DecPut(a)
		if text != ratOf(a).FloatString(a.Scale) {
			t.Fatal(a, text)
		}
		b, ok := impl.DecGet(text)
		if !ok || !sameDec(a, b) {
			t.Fatal(a, text, b, ok)
		}
		_, part, dot := strings.Cut(text, ".")
		if dot != (a.Scale > 0) || len(part) != a.Scale {
			t.Fatal(a, text)
		}
	}
}

func TestP24WrittenJustSo(t *testing.T) {
	form := regexp.MustCompile(`^-?(0|[1-9][0-9]*)(\.[0-9]+)?$`)
	zero := regexp.MustCompile(`^-[0.]*$`)
	eachText("-+.0159 ", 6, func(s string) {
		d, ok := impl.DecGet(s)
		want := form.MatchString(s) && !zero.MatchString(s)
		if ok != want || ok && (!impl.DecOk(d) || impl.DecPut(d) != s) || !ok && !noDec(d) {
			t.Fatal(s, d, ok)
		}
	})
	nines, noughts := strings.Repeat("9", 30), strings.Repeat("0", 12)
	right := []string{
		nines, "-" + nines, nines[:18] + "." + nines[:12], "-" + nines[:29] + ".9", "0." + noughts, "0." + noughts[:11] + "1",
		"-0." + noughts[:11] + "1", "1." + noughts, "1" + noughts + noughts[:5] + "." + noughts,
	}
	for _, s := range right {
		if d, ok := impl.DecGet(s); !ok || !impl.DecOk(d) || impl.DecPut(d) != s {
			t.Error(s, d, ok)
		}
	}
	wrong := []string{
		"9" + nines, "-9" + nines, nines + ".0", nines[:19] + "." + nines[:12], "1" + noughts + noughts[:6] + "." + noughts, "0." + noughts + "0", "1." + noughts + "1",
		"-0." + noughts, "00", "00.5", "-00.5", "0..5", "0.5.", "1.2.3", ".", "-.", "-.5", "5.-1", "5.+1", "1e5", "0x1", "1_0", "1.5\n", "\x00",
		"1.５", "1./", "1.:", ":", "0" + nines, strings.Repeat("1", 100000), "1." + strings.Repeat("1", 100000), strings.Repeat("0", 100000),
	}
	for _, s := range wrong {
		if d, ok := impl.DecGet(s); ok || !noDec(d) {
			t.Errorf("%.80q: %v %v", s, d, ok)
		}
	}
}

func TestOneFigureTooMany(t *testing.T) {
	nines := strings.Repeat("9", 30)
	top, low := decFrom(nines, 0), decFrom("-"+nines, 0)
	small, tenth := decFrom(nines, 12), decFrom("1", 1)
	root := decFrom("1000000000000000", 0)
	calls := []func() (impl.Dec, int){
		func() (impl.Dec, int) { return impl.DecAdd(top, decFrom("1", 0)) },
		func() (impl.Dec, int) { return impl.DecSub(low, decFrom("1", 0)) },
		func() (impl.Dec, int) { return impl.DecAdd(small, decFrom("1", 12)) },
		func() (impl.Dec, int) { return impl.DecAdd(top, impl.Dec{Scale: 1}) },
		func() (impl.Dec, int) { return impl.DecSub(impl.Dec{Scale: 12}, decFrom("1000000000000000000", 0)) },
		func() (impl.Dec, int) { return impl.DecMul(root, root) },
		func() (impl.Dec, int) { return impl.DecMul(top, top) },
		func() (impl.Dec, int) { return impl.DecMul(small, decFrom("10000000000001", 12)) },
		func() (impl.Dec, int) { return impl.DecDiv(top, tenth, 0, impl.RoundDown) },
		func() (impl.Dec, int) { return impl.DecDiv(top, decFrom("1", 0), 1, impl.RoundDown) },
		func() (impl.Dec, int) { return impl.DecDiv(top, decFrom("1", 12), 12, impl.RoundDown) },
		func() (impl.Dec, int) { return impl.DecDiv(top, decFrom("-9999", 4), 0, impl.RoundUp) },
		func() (impl.Dec, int) { return impl.DecRound(top, 1, impl.RoundDown) },
		func() (impl.Dec, int) { return impl.DecRound(top, 12, impl.RoundHalfEven) },
		func() (impl.Dec, int) { return impl.DecRound(decFrom("-1000000000000000000", 0), 12, impl.RoundUp) },
	}
	for i, call := range calls {
		if d, code := call(); code != impl.DecOver || !noDec(d) {
			t.Error(i, d, code)
		}
	}
}

// What is longer than a decimal only on the way is no longer at the end.
func TestJustNotTooLong(t *testing.T) {
	sum, code := impl.DecSub(decFrom("1000000000000000000", 0), decFrom("1", 12))
	mustDec(t, "sum", sum, code, decFrom(strings.Repeat("9", 30), 12), impl.DecFine)
	product, code := impl.DecMul(decFrom("100000000000000", 0), decFrom("999999999999999", 0))
	mustDec(t, "product", product, code, decFrom("99999999999999900000000000000", 0), impl.DecFine)
	product, code = impl.DecMul(decFrom("1"+strings.Repeat("0", 29), 12), decFrom("1000000000000", 12))
	mustDec(t, "rounded product", product, code, decFrom("1"+strings.Repeat("0", 29), 12), impl.DecFine)
	quotient, code := impl.DecDiv(decFrom(strings.Repeat("9", 30), 12), decFrom("1", 12), 0, impl.RoundUp)
	mustDec(t, "quotient", quotient, code, decFrom(strings.Repeat("9", 30), 0), impl.DecFine)
	rounded, code := impl.DecRound(decFrom(strings.Repeat("9", 30), 1), 0, impl.RoundUp)
	mustDec(t, "rounded", rounded, code, decFrom("1"+strings.Repeat("0", 29), 0), impl.DecFine)
}

func TestCodesInTheirOrder(t *testing.T) {
	one, top := decFrom("1", 0), decFrom(strings.Repeat("9", 30), 0)
	for _, zero := range []impl.Dec{{}, {Scale: 12}, {Num: impl.Big{Limbs: []int{}}, Scale: 3}} {
		for scale := 0; scale <= 12; scale++ {
			for mode := 1; mode <= 7; mode++ {
				for _, a := range []impl.Dec{{}, one, top} {
					d, code := impl.DecDiv(a, zero, scale, mode)
					mustDec(t, "by 0", d, code, impl.Dec{}, impl.DecZero)
				}
			}
		}
	}
	for _, b := range []impl.Dec{{}, one} {
		for _, scale := range badScales {
			d, code := impl.DecDiv(top, b, scale, impl.RoundUp)
			mustDec(t, "scale", d, code, impl.Dec{}, impl.DecForm)
			d, code = impl.DecRound(top, scale, impl.RoundUp)
			mustDec(t, "scale", d, code, impl.Dec{}, impl.DecForm)
		}
		for _, mode := range badModes {
			d, code := impl.DecDiv(top, b, 12, mode)
			mustDec(t, "mode", d, code, impl.Dec{}, impl.DecForm)
			d, code = impl.DecRound(top, 12, mode)
			mustDec(t, "mode", d, code, impl.Dec{}, impl.DecForm)
			d, code = impl.DecRound(b, 0, mode)
			mustDec(t, "mode that is not needed", d, code, impl.Dec{}, impl.DecForm)
		}
	}
}

func TestDecsThatAreNotOk(t *testing.T) {
	good := []impl.Dec{{}, decFrom("1", 0), decFrom("-12345", 12)}
	for _, bad := range badDecs() {
		if impl.DecPut(bad) != "" || !noDec(impl.DecTrim(bad)) {
			t.Error(bad, impl.DecPut(bad), impl.DecTrim(bad))
		}
		d, code := impl.DecRound(bad, 2, impl.RoundHalfUp)
		mustDec(t, "DecRound", d, code, impl.Dec{}, impl.DecForm)
		for _, a := range good {
			notOkDecs(t, a, bad)
			notOkDecs(t, bad, a)
			notOkDecs(t, bad, bad)
		}
	}
}

// notOkDecs asks for the fixed answers where one of both is not ok.
func notOkDecs(t *testing.T, a, b impl.Dec) {
	t.Helper()
	if impl.DecCmp(a, b) != 2 {
		t.Error("DecCmp", a, b, impl.DecCmp(a, b))
	}
	d, code := impl.DecAdd(a, b)
	mustDec(t, fmt.Sprint("DecAdd ", a, b), d, code, impl.Dec{}, impl.DecForm)
	d, code = impl.DecSub(a, b)
	mustDec(t, fmt.Sprint("DecSub ", a, b), d, code, impl.Dec{}, impl.DecForm)
	d, code = impl.DecMul(a, b)
	mustDec(t, fmt.Sprint("DecMul ", a, b), d, code, impl.Dec{}, impl.DecForm)
	d, code = impl.DecDiv(a, b, 2, impl.RoundHalfUp)
	mustDec(t, fmt.Sprint("DecDiv ", a, b), d, code, impl.Dec{}, impl.DecForm)
}
