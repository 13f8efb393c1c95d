package tests

import (
	"math"
	"math/big"
	"math/rand"
	"slices"
	"strings"
	"testing"

	"loop.example/jetton/impl"
)

// The numbers of math/big are the yardstick: none of the program's functions takes part in making one.

// intOf is what the limbs of a number say.
func intOf(a impl.Big) *big.Int {
	n := new(big.Int)
	for i := len(a.Limbs) - 1; i >= 0; i-- {
		n.Mul(n, big.NewInt(10000))
		n.Add(n, big.NewInt(int64(a.Limbs[i])))
	}
	if a.Neg {
		n.Neg(n)
	}
	return n
}

// bigFrom is a number by limbs, of whatever length.
func bigFrom(n *big.Int) impl.Big {
	a := impl.Big{Neg: n.Sign() < 0}
	rest := new(big.Int).Abs(n)
	for rest.Sign() > 0 {
		limb := new(big.Int)
		rest.QuoRem(rest, big.NewInt(10000), limb)
		a.Limbs = append(a.Limbs, int(limb.Int64()))
	}
	return a
}

// wantBig is what the document asks for where a number comes out: nothing and false, if it is too long.
func wantBig(n *big.Int) (impl.Big, bool) {
	a := bigFrom(n)
	if len(a.Limbs) > 16 {
		return impl.Big{}, false
	}
	return a, true
}

func sameBig(a, b impl.Big) bool {
	return a.Neg == b.Neg && slices.Equal(a.Limbs, b.Limbs)
}

func isNothing(a impl.Big) bool {
	return sameBig(a, impl.Big{})
}

// number is what a text says.
func number(s string) *big.Int {
	n, ok := new(big.Int).SetString(s, 10)
	if !ok {
		panic("no number: " + s)
	}
	return n
}

func tenTo(n int) *big.Int {
	return new(big.Int).Exp(big.NewInt(10), big.NewInt(int64(n)), nil)
}

// edgeBigs is numbers at the edges of limbs, and of the longest ones; each with both signs.
func edgeBigs() []impl.Big {
	texts := []string{
		"1", "2", "3", "5", "9", "10", "9999", "10000", "10001", "19999", "20000",
		"99999999", "100000000", "100010000", "99990000", "100000001", "123456789012345678",
		"9223372036854775807", "9223372036854775808", "18446744073709551616",
		strings.Repeat("9", 32), "1" + strings.Repeat("0", 32), "1" + strings.Repeat("0", 31) + "1",
		strings.Repeat("9", 60), "1" + strings.Repeat("0", 60), "5" + strings.Repeat("0", 62),
		"1" + strings.Repeat("0", 63), strings.Repeat("9", 63), strings.Repeat("9", 64),
		"9999" + strings.Repeat("0", 60), strings.Repeat("0001", 16), strings.Repeat("99990000", 8),
	}
	list := []impl.Big{{}}
	for _, s := range texts {
		n := number(s)
		list = append(list, bigFrom(n), bigFrom(new(big.Int).Neg(n)))
	}
	return list
}

// someBigs is the edges, and numbers of each length; the same ones at each run.
func someBigs() []impl.Big {
	list := edgeBigs()
	source := rand.New(rand.NewSource(1))
	for n := 1; n <= 16; n++ {
		list = append(list, madeBig(source, n), madeBig(source, n))
	}
	return list
}

// madeBig has n limbs, many of them at an edge of what a limb can be.
func madeBig(source *rand.Rand, n int) impl.Big {
	edges := []int{0, 1, 9999, 5000}
	a := impl.Big{Neg: source.Intn(2) == 1}
	for range n {
		limb := source.Intn(10000)
		if source.Intn(2) == 0 {
			limb = edges[source.Intn(len(edges))]
		}
		a.Limbs = append(a.Limbs, limb)
	}
	a.Limbs[n-1] = max(1, a.Limbs[n-1])
	return a
}

// badBigs is numbers that are not ok, each in one way.
func badBigs() []impl.Big {
	long := make([]int, 17)
	long[16] = 1
	return []impl.Big{
		{Neg: true},
		{Neg: true, Limbs: []int{}},
		{Limbs: []int{0}},
		{Neg: true, Limbs: []int{0}},
		{Limbs: []int{1, 0}},
		{Limbs: []int{-1}},
		{Limbs: []int{10000}},
		{Limbs: []int{-1, 1}},
		{Limbs: []int{10000, 1}},
		{Limbs: []int{5, 10000}},
		{Limbs: []int{math.MaxInt}},
		{Limbs: []int{math.MinInt, 3}},
		{Limbs: make([]int, 16)},
		{Limbs: long},
		{Neg: true, Limbs: long},
		{Limbs: make([]int, 17)},
		{Limbs: make([]int, 1000)},
	}
}

// ratOf is what a decimal says.
func ratOf(d impl.Dec) *big.Rat {
	return new(big.Rat).SetFrac(intOf(d.Num), tenTo(d.Scale))
}

// wantDec is a number at a scale, and DecFine; nothing and DecOver, if it is too long.
func wantDec(n *big.Int, scale int) (impl.Dec, int) {
	if len(new(big.Int).Abs(n).String()) > 30 {
		return impl.Dec{}, 3
	}
	return impl.Dec{Num: bigFrom(n), Scale: scale}, 0
}

// wantRound rounds by floors, and by what is above them.
func wantRound(x *big.Rat, scale int, mode int) *big.Int {
	steps := new(big.Rat).Mul(x, new(big.Rat).SetInt(tenTo(scale)))
	low := new(big.Int).Div(steps.Num(), steps.Denom())
	if steps.IsInt() {
		return low
	}
	high := new(big.Int).Add(low, big.NewInt(1))
	toZero, fromZero := low, high
	if x.Sign() < 0 {
		toZero, fromZero = high, low
	}
	over := new(big.Rat).Sub(steps, new(big.Rat).SetInt(low))
	switch half := over.Cmp(big.NewRat(1, 2)); {
	case mode == 1:
		return fromZero
	case mode == 2:
		return toZero
	case mode == 3:
		return high
	case mode == 4:
		return low
	case half < 0:
		return low
	case half > 0:
		return high
	case mode == 5:
		return fromZero
	case mode == 6:
		return toZero
	case low.Bit(0) == 0:
		return low
	}
	return high
}

func sameDec(a, b impl.Dec) bool {
	return a.Scale == b.Scale && sameBig(a.Num, b.Num)
}

func noDec(a impl.Dec) bool {
	return sameDec(a, impl.Dec{})
}

func decFrom(text string, scale int) impl.Dec {
	return impl.Dec{Num: bigFrom(number(text)), Scale: scale}
}

// turnedDec has the other sign.
func turnedDec(d impl.Dec) impl.Dec {
	return impl.Dec{Num: bigFrom(new(big.Int).Neg(intOf(d.Num))), Scale: d.Scale}
}

// edgeDecs is decimals at the edges of figures, scales and steps; each with both signs.
func edgeDecs() []impl.Dec {
	nines := strings.Repeat("9", 30)
	top := "1" + strings.Repeat("0", 29)
	halves := []string{"1", "5", "15", "25", "35", "49", "50", "51", "149", "150", "250", "10", "100", "2500"}
	long := []string{nines, top, "5" + strings.Repeat("0", 29), "4" + nines[1:], nines[:29] + "5", nines[:18], top[:18], top[:19], nines[:15], "333333333333333", "142857"}
	list := []impl.Dec{{}, {Scale: 1}, {Scale: 6}, {Scale: 12}}
	add := func(text string, scale int) {
		d := decFrom(text, scale)
		list = append(list, d, turnedDec(d))
	}
	for i, text := range halves {
		add(text, 0)
		add(text, 1+i%3)
		add(text, 12-i%4)
	}
	for i, text := range long {
		add(text, 0)
		add(text, 1+i%11)
		add(text, 12)
	}
	return list
}

// someDecs is the edges, and decimals of all lengths and scales; the same ones at each run.
func someDecs() []impl.Dec {
	list := edgeDecs()
	source := rand.New(rand.NewSource(2))
	for n := 1; n <= 30; n++ {
		list = append(list, madeDec(source, n))
	}
	return list
}

// madeDec has n figures, many of them 0, 5 or 9.
func madeDec(source *rand.Rand, n int) impl.Dec {
	figures := "0123456789000555999"
	text := []byte{figures[1+source.Intn(9)]}
	for len(text) < n {
		text = append(text, figures[source.Intn(len(figures))])
	}
	d := decFrom(string(text), source.Intn(13))
	if source.Intn(2) == 1 {
		d = turnedDec(d)
	}
	return d
}

// badDecs is decimals that are not ok, each in one way.
func badDecs() []impl.Dec {
	one := bigFrom(number("1"))
	list := []impl.Dec{
		decFrom("1"+strings.Repeat("0", 30), 0),
		decFrom("1"+strings.Repeat("0", 30), 12),
		decFrom("-1"+strings.Repeat("0", 30), 6),
		decFrom(strings.Repeat("9", 64), 12),
		{Scale: -1}, {Scale: 13}, {Scale: math.MinInt}, {Scale: math.MaxInt},
		{Num: one, Scale: -1}, {Num: one, Scale: 13}, {Num: one, Scale: math.MinInt}, {Num: one, Scale: math.MaxInt},
	}
	for _, a := range badBigs() {
		list = append(list, impl.Dec{Num: a}, impl.Dec{Num: a, Scale: 12}, impl.Dec{Num: a, Scale: 13})
	}
	return list
}

// badScales and badModes are beside what there is.
var (
	badScales = []int{-1, 13, math.MinInt, math.MaxInt, -12}
	badModes  = []int{0, 8, -1, -7, math.MinInt, math.MaxInt}
)

// eachText calls with each text of at most n bytes of an alphabet.
func eachText(alphabet string, n int, call func(string)) {
	var grow func(string)
	grow = func(s string) {
		call(s)
		if len(s) == n {
			return
		}
		for i := range len(alphabet) {
			grow(s + alphabet[i:i+1])
		}
	}
	grow("")
}

func mustBig(t *testing.T, what string, got impl.Big, gotOk bool, want impl.Big, wantOk bool) {
	t.Helper()
	if gotOk != wantOk || !sameBig(got, want) {
		t.Fatalf("%s: %v %v, want %v %v", what, got, gotOk, want, wantOk)
	}
}

func mustDec(t *testing.T, what string, got impl.Dec, gotCode int, want impl.Dec, wantCode int) {
	t.Helper()
	if gotCode != wantCode || !sameDec(got, want) {
		t.Fatalf("%s: %v %d, want %v %d", what, got, gotCode, want, wantCode)
	}
}
