package tests

import (
	"fmt"
	"math"
	"math/big"
	"regexp"
	"strings"
	"testing"

	"loop.example/jetton/impl"
)

// eachPair calls with each two numbers that are ok.
func eachPair(call func(a, b impl.Big)) {
	list := someBigs()
	for _, a := range list {
		for _, b := range list {
			call(a, b)
		}
	}
}

func TestLimitsOfBigs(t *testing.T) {
	if impl.LimbBase != 10000 || impl.BigLimbs != 16 {
		t.Error(impl.LimbBase, impl.BigLimbs)
	}
}

func TestBigOk(t *testing.T) {
	for _, a := range someBigs() {
		if !impl.BigOk(a) {
			t.Error("ok:", a)
		}
	}
	for _, a := range badBigs() {
		if impl.BigOk(a) {
			t.Error("not ok:", a)
		}
	}
	if !impl.BigOk(impl.Big{Limbs: []int{}}) {
		t.Error("the empty list is the nil list")
	}
}

func TestP1WhatWasAddedIsTakenAway(t *testing.T) {
	eachPair(func(a, b impl.Big) {
		what := fmt.Sprint("BigAdd ", a, b)
		sum, ok := impl.BigAdd(a, b)
		want, wantOk := wantBig(new(big.Int).Add(intOf(a), intOf(b)))
		mustBig(t, what, sum, ok, want, wantOk)
		other, otherOk := impl.BigAdd(b, a)
		mustBig(t, what+" turned", other, otherOk, sum, ok)
		if ok {
			back, backOk := impl.BigSub(sum, b)
			mustBig(t, what+" taken away", back, backOk, a, true)
		}
	})
}

func TestP2DifferencesTurned(t *testing.T) {
	eachPair(func(a, b impl.Big) {
		what := fmt.Sprint("BigSub ", a, b)
		d, ok := impl.BigSub(a, b)
		want, wantOk := wantBig(new(big.Int).Sub(intOf(a), intOf(b)))
		mustBig(t, what, d, ok, want, wantOk)
		e, eOk := impl.BigSub(b, a)
		if ok != eOk {
			t.Fatal(what, ok, eOk)
		}
		if ok {
			both, bothOk := impl.BigAdd(d, e)
			mustBig(t, what+" both", both, bothOk, impl.Big{}, true)
		}
		none, noneOk := impl.BigSub(a, a)
		mustBig(t, what+" itself", none, noneOk, impl.Big{}, true)
	})
}

func TestP3ProductsDivided(t *testing.T) {
	eachPair(func(a, b impl.Big) {
		what := fmt.Sprint("BigMul ", a, b)
		product, ok := impl.BigMul(a, b)
		want, wantOk := wantBig(new(big.Int).Mul(intOf(a), intOf(b)))
		mustBig(t, what, product, ok, want, wantOk)
		other, otherOk := impl.BigMul(b, a)
		mustBig(t, what+" turned", other, otherOk, product, ok)
		if ok && intOf(b).Sign() != 0 {
			times, rest, divOk := impl.BigDiv(product, b)
			mustBig(t, what+" divided", times, divOk, a, true)
			mustBig(t, what+" left", rest, divOk, impl.Big{}, true)
		}
	})
}

func TestP4ProductOfASum(t *testing.T) {
	list := edgeBigs()
	for i, a := range list {
		for j, b := range list {
			c := list[(i*7+j*3)%len(list)]
			sum, ok1 := impl.BigAdd(b, c)
			left, ok2 := impl.BigMul(a, sum)
			first, ok3 := impl.BigMul(a, b)
			second, ok4 := impl.BigMul(a, c)
			right, ok5 := impl.BigAdd(first, second)
			if ok1 && ok2 && ok3 && ok4 && ok5 && !sameBig(left, right) {
				t.Fatal(a, b, c, left, right)
			}
		}
	}
	a, b, c := impl.BigOf(-12345678), impl.BigOf(99999999), impl.BigOf(-100000001)
	sum, _ := impl.BigAdd(b, c)
	left, ok := impl.BigMul(a, sum)
	mustBig(t, "sum", left, ok, bigFrom(number("24691356")), true)
}

func TestP5QuotientAndRest(t *testing.T) {
	eachPair(func(a, b impl.Big) {
		if intOf(b).Sign() == 0 {
			return
		}
		what := fmt.Sprint("BigDiv ", a, b)
		times, rest, ok := impl.BigDiv(a, b)
		q, r := new(big.Int).QuoRem(intOf(a), intOf(b), new(big.Int))
		mustBig(t, what, times, ok, bigFrom(q), true)
		mustBig(t, what+" left", rest, ok, bigFrom(r), true)
		as, ok1 := impl.BigMul(times, b)
		whole, ok2 := impl.BigAdd(as, rest)
		mustBig(t, what+" together", whole, ok1 && ok2, a, true)
		if intOf(rest).CmpAbs(intOf(b)) >= 0 || len(rest.Limbs) > 0 && rest.Neg != a.Neg {
			t.Fatal(what, rest)
		}
	})
}

// Divisors whose leading limbs are great, small, or followed by nines try each guess at a quotient's limb.
func TestP5HardDivisors(t *testing.T) {
	limbs := []int{0, 1, 2, 4999, 5000, 9998, 9999}
	for _, top := range limbs[1:] {
		for _, mid := range limbs {
			for _, low := range limbs {
				b := impl.Big{Limbs: []int{low, mid, top}}
				for _, q := range []int{1, 2, 4999, 5000, 9998, 9999, 99999999} {
					for _, more := range []int{-1, 0, 1} {
						n := new(big.Int).Mul(intOf(b), big.NewInt(int64(q)))
						n.Add(n, big.NewInt(int64(more)))
						times, rest, ok := impl.BigDiv(bigFrom(n), b)
						wantQ, wantR := new(big.Int).QuoRem(n, intOf(b), new(big.Int))
						mustBig(t, fmt.Sprint(n, b), times, ok, bigFrom(wantQ), true)
						mustBig(t, fmt.Sprint(n, b), rest, ok, bigFrom(wantR), true)
					}
				}
			}
		}
	}
}

func TestBigDivBy0(t *testing.T) {
	for _, a := range someBigs() {
		for _, zero := range []impl.Big{{}, {Limbs: []int{}}} {
			times, rest, ok := impl.BigDiv(a, zero)
			if ok || !isNothing(times) || !isNothing(rest) {
				t.Error(a, times, rest, ok)
			}
		}
	}
}

func TestP6GreaterByDifference(t *testing.T) {
	eachPair(func(a, b impl.Big) {
		got := impl.BigCmp(a, b)
		if got != intOf(a).Cmp(intOf(b)) || impl.BigCmp(b, a) != -got || impl.BigCmp(a, a) != 0 {
			t.Fatal(a, b, got)
		}
		d, ok := impl.BigSub(a, b)
		if ok && got != intOf(d).Sign() {
			t.Fatal(a, b, got, d)
		}
	})
}

func TestP7GreaterOfTheGreater(t *testing.T) {
	list := edgeBigs()
	for _, a := range list {
		for _, b := range list {
			for _, c := range list {
				ab, bc, ac := impl.BigCmp(a, b), impl.BigCmp(b, c), impl.BigCmp(a, c)
				if ab > 0 && bc > 0 && ac != 1 || ab <= 0 && bc <= 0 && ac > 0 {
					t.Fatal(a, b, c, ab, bc, ac)
				}
			}
		}
	}
}

func TestP8ReadBack(t *testing.T) {
	for _, a := range someBigs() {
		text := impl.BigPut(a)
		if text != intOf(a).String() {
			t.Fatal(a, text)
		}
		b, ok := impl.BigGet(text)
		mustBig(t, text, b, ok, a, true)
	}
}

func TestP9WrittenJustSo(t *testing.T) {
	form := regexp.MustCompile(`^(0|-?[1-9][0-9]*)$`)
	eachText("-+.0159 ", 5, func(s string) {
		a, ok := impl.BigGet(s)
		if ok != form.MatchString(s) || ok && impl.BigPut(a) != s || !ok && !isNothing(a) {
			t.Fatal(s, a, ok)
		}
	})
	wrong := []string{
		"", "-", "--1", "-0", "00", "01", "-01", "+1", "1-", " 1", "1 ", "1\n", "1_000", "0x1", "1e3", "1.0", "1,000",
		"\x00", "1\x00", "١", "９", "a", "/", ":", "1/", "1:", "12345:", "1/345", strings.Repeat("0", 64),
		"1" + strings.Repeat("0", 64), "-1" + strings.Repeat("0", 64), "0" + strings.Repeat("1", 64), strings.Repeat("1", 100000),
	}
	for _, s := range wrong {
		if a, ok := impl.BigGet(s); ok || !isNothing(a) {
			t.Errorf("%.80q: %v %v", s, a, ok)
		}
	}
	for _, s := range []string{strings.Repeat("9", 64), "-" + strings.Repeat("9", 64), "1" + strings.Repeat("0", 63)} {
		if a, ok := impl.BigGet(s); !ok || impl.BigPut(a) != s {
			t.Error(s, a, ok)
		}
	}
}

func TestP10IntsAsBigs(t *testing.T) {
	ints := []int{0, 1, -1, 9, 10, -10, 9999, 10000, -9999, -10000, 10001, 99999999, 100000000, -100000000, 123456789, -2147483648, 2147483647}
	for _, x := range ints {
		for _, y := range ints {
			sum, ok := impl.BigAdd(impl.BigOf(x), impl.BigOf(y))
			mustBig(t, "sum", impl.BigOf(x+y), ok, sum, true)
			product, ok := impl.BigMul(impl.BigOf(x), impl.BigOf(y))
			mustBig(t, "product", impl.BigOf(x*y), ok, product, true)
		}
	}
	for _, n := range append(ints, math.MaxInt, math.MinInt, math.MaxInt-1, math.MinInt+1) {
		mustBig(t, "BigOf", impl.BigOf(n), true, bigFrom(big.NewInt(int64(n))), true)
	}
}

func TestP11PowersOfTen(t *testing.T) {
	for n := range 64 {
		a, ok := impl.BigTen(n)
		mustBig(t, "BigTen", a, ok, bigFrom(tenTo(n)), true)
		if len(impl.BigPut(a)) != n+1 {
			t.Error(n, impl.BigPut(a))
		}
		for k := range 64 {
			b, _ := impl.BigTen(k)
			product, productOk := impl.BigMul(a, b)
			both, bothOk := impl.BigTen(n + k)
			mustBig(t, fmt.Sprint(n, k), product, productOk, both, bothOk)
		}
	}
	for _, n := range []int{-1, 64, 65, math.MinInt, math.MaxInt} {
		if a, ok := impl.BigTen(n); ok || !isNothing(a) {
			t.Error(n, a, ok)
		}
	}
}

func TestOneLimbTooMany(t *testing.T) {
	top := bigFrom(number(strings.Repeat("9", 64)))
	low := bigFrom(number("-" + strings.Repeat("9", 64)))
	one, root := impl.BigOf(1), bigFrom(tenTo(32))
	calls := []func() (impl.Big, bool){
		func() (impl.Big, bool) { return impl.BigAdd(top, one) },
		func() (impl.Big, bool) { return impl.BigSub(low, one) },
		func() (impl.Big, bool) { return impl.BigSub(top, low) },
		func() (impl.Big, bool) { return impl.BigAdd(low, low) },
		func() (impl.Big, bool) { return impl.BigMul(root, root) },
		func() (impl.Big, bool) { return impl.BigMul(low, impl.BigOf(2)) },
		func() (impl.Big, bool) { return impl.BigMul(top, top) },
	}
	for i, call := range calls {
		if a, ok := call(); ok || !isNothing(a) {
			t.Error(i, a, ok)
		}
	}
	a, ok := impl.BigMul(root, bigFrom(new(big.Int).Sub(tenTo(32), big.NewInt(1))))
	mustBig(t, "16 limbs", a, ok, bigFrom(number(strings.Repeat("9", 32)+strings.Repeat("0", 32))), true)
}

func TestBigsThatAreNotOk(t *testing.T) {
	good := []impl.Big{{}, impl.BigOf(1), impl.BigOf(-12345)}
	for _, bad := range badBigs() {
		if s := impl.BigPut(bad); s != "" {
			t.Error("BigPut", bad, s)
		}
		for _, a := range append(good, badBigs()...) {
			notOkBoth(t, a, bad)
			notOkBoth(t, bad, a)
		}
	}
}

// notOkBoth asks for the fixed answers where one of both is not ok.
func notOkBoth(t *testing.T, a, b impl.Big) {
	t.Helper()
	sum, ok1 := impl.BigAdd(a, b)
	difference, ok2 := impl.BigSub(a, b)
	product, ok3 := impl.BigMul(a, b)
	times, rest, ok4 := impl.BigDiv(a, b)
	if ok1 || ok2 || ok3 || ok4 || impl.BigCmp(a, b) != 2 {
		t.Error("not ok:", a, b, ok1, ok2, ok3, ok4, impl.BigCmp(a, b))
	}
	for _, x := range []impl.Big{sum, difference, product, times, rest} {
		if !isNothing(x) {
			t.Error("not nothing:", a, b, x)
		}
	}
}
