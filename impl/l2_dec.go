package impl

import (
	"errors"
	"strconv"
	"strings"
)

// Limits and codes of decimals, and ways to round.
const (
	DecDigits     = 30
	DecScale      = 12
	DecFine       = 0
	DecForm       = 1
	DecZero       = 2
	DecOver       = 3
	RoundUp       = 1
	RoundDown     = 2
	RoundCeil     = 3
	RoundFloor    = 4
	RoundHalfUp   = 5
	RoundHalfDown = 6
	RoundHalfEven = 7
)

// Dec is a number through ten to the power of Scale.
type Dec struct {
	Num   Big
	Scale int
}

// tooLong is the error of what has too many figures, with the code by which that is told.
type tooLong struct {
	figures int
	code    int
}

// Error tells how many figures there would be.
func (e tooLong) Error() string {
	return strconv.Itoa(e.figures) + " figures are too many"
}

// fitted is a number at a scale, if it is not too long.
func fitted(num Big, scale int) (Dec, error) {
	if n := figuresOf(num); n > DecDigits {
		return Dec{}, tooLong{figures: n, code: DecOver}
	}
	return Dec{Num: num, Scale: scale}, nil
}

// coded is a decimal and its code, by what became of it.
func coded(d Dec, err error) (Dec, int) {
	var long tooLong
	if errors.As(err, &long) {
		return Dec{}, long.code
	}
	return d, DecFine
}

// figuresOf is how many figures a number has.
func figuresOf(a Big) int {
	return len(limbs(a.Limbs).text())
}

// scaleOk says whether a decimal may have that scale.
func scaleOk(scale int) bool {
	return scale >= 0 && scale <= DecScale
}

// modeOk says whether it is a way to round.
func modeOk(mode int) bool {
	return mode >= RoundUp && mode <= RoundHalfEven
}

// raised is a number times ten to the power of n; of n below 0 just the number.
func raised(a Big, n int) Big {
	return signed(a.Neg, limbs(a.Limbs).times(tenLimbs(max(n, 0))))
}

// cut is where a quotient was cut off, signs apart: between the step towards 0 and the one away from it.
type cut struct {
	neg  bool
	odd  bool
	rest limbs
	step limbs
}

// between says whether it lies between two steps.
func (c cut) between() bool {
	return len(c.rest) > 0
}

// half is -1, 0 or 1, as it lies before the middle of both steps, in it, or behind it.
func (c cut) half() int {
	return c.rest.plus(c.rest).against(c.step)
}

// fromHalf says whether the step towards 0 is not the nearer one.
func (c cut) fromHalf() bool {
	return c.half() >= 0
}

// pastHalf says whether the step away from 0 is the nearer one.
func (c cut) pastHalf() bool {
	return c.half() > 0
}

// away says whether a way to round takes the step away from 0.
func (c cut) away(mode int) bool {
	ways := [...]func() bool{
		RoundUp:       c.between,
		RoundDown:     func() bool { return false },
		RoundCeil:     func() bool { return c.between() && !c.neg },
		RoundFloor:    func() bool { return c.between() && c.neg },
		RoundHalfUp:   c.fromHalf,
		RoundHalfDown: c.pastHalf,
		RoundHalfEven: func() bool { return c.pastHalf() || c.fromHalf() && c.odd },
	}
	return ways[mode]()
}

// roundedQuotient is a through b, which is not 0, as a whole number.
func roundedQuotient(a Big, b Big, mode int) Big {
	times, rest := limbs(a.Limbs).through(b.Limbs)
	// The sign is that of both, not of times: where that is 0, what was cut off still has one.
	neg := a.Neg != b.Neg
	odd := len(times) > 0 && times[0]%2 == 1
	if (cut{neg: neg, odd: odd, rest: rest, step: b.Limbs}).away(mode) {
		times = times.plus(limbs{1})
	}
	return signed(neg, times)
}

// rescaled is the number at one scale of what is num at another one.
func rescaled(num Big, from int, to int, mode int) Big {
	step := Big{Limbs: tenLimbs(max(from-to, 0))}
	return roundedQuotient(raised(num, to-from), step, mode)
}

// DecOk says whether a decimal is ok.
func DecOk(d Dec) bool {
	return scaleOk(d.Scale) && BigOk(d.Num) && figuresOf(d.Num) <= DecDigits
}

// DecAdd is two decimals together.
func DecAdd(a Dec, b Dec) (Dec, int) {
	if !DecOk(a) || !DecOk(b) {
		return Dec{}, DecForm
	}
	scale := max(a.Scale, b.Scale)
	sum := sumOf(raised(a.Num, scale-a.Scale), raised(b.Num, scale-b.Scale))
	return coded(fitted(sum, scale))
}

// DecSub is the first decimal without the second.
func DecSub(a Dec, b Dec) (Dec, int) {
	if !DecOk(b) {
		return Dec{}, DecForm
	}
	return DecAdd(a, Dec{Num: turned(b.Num), Scale: b.Scale})
}

// DecMul is the first decimal as often as the second says.
func DecMul(a Dec, b Dec) (Dec, int) {
	if !DecOk(a) || !DecOk(b) {
		return Dec{}, DecForm
	}
	exact := a.Scale + b.Scale
	scale := min(exact, DecScale)
	product := rescaled(productOf(a.Num, b.Num), exact, scale, RoundHalfEven)
	return coded(fitted(product, scale))
}

// DecDiv is the first decimal through the second.
func DecDiv(a Dec, b Dec, scale int, mode int) (Dec, int) {
	if !DecOk(a) || !DecOk(b) || !scaleOk(scale) || !modeOk(mode) {
		return Dec{}, DecForm
	}
	if len(b.Num.Limbs) == 0 {
		return Dec{}, DecZero
	}
	more := scale + b.Scale - a.Scale
	quotient := roundedQuotient(raised(a.Num, more), raised(b.Num, -more), mode)
	return coded(fitted(quotient, scale))
}

// DecRound is a decimal at another scale.
func DecRound(a Dec, scale int, mode int) (Dec, int) {
	if !DecOk(a) || !scaleOk(scale) || !modeOk(mode) {
		return Dec{}, DecForm
	}
	return coded(fitted(rescaled(a.Num, a.Scale, scale, mode), scale))
}

// DecCmp says which of two decimals is the greater one.
func DecCmp(a Dec, b Dec) int {
	if !DecOk(a) || !DecOk(b) {
		return 2
	}
	x, y := raised(a.Num, b.Scale-a.Scale), raised(b.Num, a.Scale-b.Scale)
	return signOf(sumOf(x, turned(y)))
}

// DecTrim is a decimal at the least scale at which it is the same.
func DecTrim(a Dec) Dec {
	if !DecOk(a) {
		return Dec{}
	}
	num, scale := limbs(a.Num.Limbs).plus(nil), a.Scale
	for scale > 0 {
		tenth, rest := num.through(limbs{10})
		if len(rest) > 0 {
			break
		}
		num, scale = tenth, scale-1
	}
	return Dec{Num: signed(a.Num.Neg, num), Scale: scale}
}

// DecPut writes a decimal.
func DecPut(a Dec) string {
	if !DecOk(a) {
		return ""
	}
	figures := limbs(a.Num.Limbs).text()
	figures = strings.Repeat("0", max(0, a.Scale+1-len(figures))) + figures
	dot := len(figures) - a.Scale
	if a.Scale == 0 {
		return signText(a.Num) + figures
	}
	return signText(a.Num) + figures[:dot] + "." + figures[dot:]
}

// DecGet reads a decimal.
func DecGet(s string) (Dec, bool) {
	figures, neg := strings.CutPrefix(s, "-")
	whole, part, dot := strings.Cut(figures, ".")
	if len(whole) > DecDigits || !arePlain(whole) || dot && !areFigures(part) || len(part) > DecScale {
		return Dec{}, false
	}
	d := Dec{Num: signed(neg, limbsOf(whole+part)), Scale: len(part)}
	if neg != d.Num.Neg || !DecOk(d) {
		return Dec{}, false
	}
	return d, true
}
