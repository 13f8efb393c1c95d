package impl

import (
	"cmp"
	"slices"
	"strconv"
	"strings"
)

// Limits of big numbers.
const (
	LimbBase = 10000
	BigLimbs = 16
)

// limbFigures is how many figures a limb has; LimbBase is ten to that power.
const limbFigures = 4

// Big is a whole number by limbs, the lowest first.
type Big struct {
	Neg   bool
	Limbs []int
}

// limbs is a number without a sign; its methods trust it to be ok, but for its length,
// and answer in new memory, so that no caller has to copy.
type limbs []int

// carried settles columns that are not within a limb yet: what one has over, or lacks,
// goes to the one above. It writes into its own columns, and is for new ones only.
func (l limbs) carried() limbs {
	over := 0
carry:
	for i := 0; ; i++ {
		switch {
		case i < len(l):
			over += l[i]
		case over <= 0:
			break carry
		default:
			l = append(l, 0)
		}
		l[i] = over % LimbBase
		if l[i] < 0 {
			l[i] += LimbBase
		}
		over = (over - l[i]) / LimbBase
	}
	return l.trimmed()
}

// trimmed is the same number without noughts at its end.
func (l limbs) trimmed() limbs {
	for len(l) > 0 && l[len(l)-1] == 0 {
		l = l[:len(l)-1]
	}
	return l
}

// plus is both together.
func (l limbs) plus(m limbs) limbs {
	sum := make(limbs, max(len(l), len(m)))
	copy(sum, l)
	for i, n := range m {
		sum[i] += n
	}
	return sum.carried()
}

// minus is the number without m, which is not above it.
func (l limbs) minus(m limbs) limbs {
	rest := slices.Clone(l)
	for i, n := range m {
		rest[i] -= n
	}
	return rest.carried()
}

// times is the product of both.
func (l limbs) times(m limbs) limbs {
	columns := make(limbs, len(l)+len(m))
	for i, n := range l {
		for j, k := range m {
			columns[i+j] += n * k
		}
	}
	return columns.carried()
}

// against is -1, 0 or 1, as the number is less than m, as much, or more.
func (l limbs) against(m limbs) int {
	if len(l) != len(m) {
		return cmp.Compare(len(l), len(m))
	}
	for i := len(l) - 1; i >= 0; i-- {
		if l[i] != m[i] {
			return cmp.Compare(l[i], m[i])
		}
	}
	return 0
}

// through is how many times m, which is not 0, goes into the number, and what is left.
func (l limbs) through(m limbs) (limbs, limbs) {
	times := make(limbs, len(l))
	var rest limbs
	for i := len(l) - 1; i >= 0; i-- {
		rest = append(limbs{l[i]}, rest...).trimmed()
		times[i], rest = rest.goes(m)
	}
	return times.trimmed(), rest
}

// goes is how many times m goes into a number that is less than LimbBase times m, and what is left.
// Each guess is from the leading limbs, m's being rounded up: it never takes away too much.
func (l limbs) goes(m limbs) (int, limbs) {
	from := max(0, len(m)-2)
	times, rest := 0, l
	for rest.against(m) >= 0 {
		guess := max(1, rest.above(from)/(m.above(from)+1))
		rest = rest.minus(m.times(limbs{guess}))
		times += guess
	}
	return times, rest
}

// above is the few limbs from a place on, as one number.
func (l limbs) above(from int) int {
	n := 0
	for i := len(l) - 1; i >= from; i-- {
		n = n*LimbBase + l[i]
	}
	return n
}

// text is the number in figures.
func (l limbs) text() string {
	if len(l) == 0 {
		return "0"
	}
	var b strings.Builder
	b.WriteString(strconv.Itoa(l[len(l)-1]))
	for i := len(l) - 2; i >= 0; i-- {
		// The figure of LimbBase ahead keeps the noughts with which a limb begins.
		b.WriteString(strconv.Itoa(LimbBase + l[i])[1:])
	}
	return b.String()
}

// limbsOf is the number that figures say; noughts ahead of it do no harm.
func limbsOf(figures string) limbs {
	l := make(limbs, 0, len(figures)/limbFigures+1)
	for end := len(figures); end > 0; end -= limbFigures {
		n := 0
		for i := max(0, end-limbFigures); i < end; i++ {
			n = n*10 + int(figures[i]-'0')
		}
		l = append(l, n)
	}
	return l.trimmed()
}

// tenLimbs is ten to the power of n, which is not below 0.
func tenLimbs(n int) limbs {
	l := make(limbs, n/limbFigures+1)
	l[n/limbFigures] = [limbFigures]int{1, 10, 100, 1000}[n%limbFigures]
	return l
}

// areFigures says whether a text is one figure at least, and nothing else.
func areFigures(s string) bool {
	for i := range len(s) {
		if s[i] < '0' || s[i] > '9' {
			return false
		}
	}
	return s != ""
}

// arePlain says whether figures have no needless noughts ahead.
func arePlain(s string) bool {
	return areFigures(s) && (s[0] != '0' || s == "0")
}

// signed is limbs with a sign; 0 has none, whatever was asked for.
func signed(neg bool, l limbs) Big {
	if len(l) == 0 {
		return Big{}
	}
	return Big{Neg: neg, Limbs: l}
}

// bounded is a number that has been made, if it is not too long.
func bounded(a Big) (Big, bool) {
	if len(a.Limbs) > BigLimbs {
		return Big{}, false
	}
	return a, true
}

// sumOf is BigAdd of numbers that are ok, of whatever length.
func sumOf(a Big, b Big) Big {
	x, y := limbs(a.Limbs), limbs(b.Limbs)
	switch {
	case a.Neg == b.Neg:
		return signed(a.Neg, x.plus(y))
	case x.against(y) >= 0:
		return signed(a.Neg, x.minus(y))
	}
	return signed(b.Neg, y.minus(x))
}

// productOf is BigMul of numbers that are ok, of whatever length.
func productOf(a Big, b Big) Big {
	return signed(a.Neg != b.Neg, limbs(a.Limbs).times(b.Limbs))
}

// turned is a number that is ok with the other sign. It shares its limbs: only for what is reckoned on.
func turned(a Big) Big {
	return signed(!a.Neg, a.Limbs)
}

// BigOk says whether a number is ok.
func BigOk(a Big) bool {
	n := len(a.Limbs)
	if n == 0 {
		return !a.Neg
	}
	if n > BigLimbs || a.Limbs[n-1] == 0 {
		return false
	}
	for _, limb := range a.Limbs {
		if limb < 0 || limb >= LimbBase {
			return false
		}
	}
	return true
}

// BigOf is a number as a big one.
func BigOf(n int) Big {
	var l limbs
	for rest := n; rest != 0; rest /= LimbBase {
		// Turned limb by limb: the least int has no counterpart above 0.
		limb := rest % LimbBase
		l = append(l, max(limb, -limb))
	}
	return signed(n < 0, l)
}

// BigAdd is two numbers together.
func BigAdd(a Big, b Big) (Big, bool) {
	if !BigOk(a) || !BigOk(b) {
		return Big{}, false
	}
	return bounded(sumOf(a, b))
}

// BigSub is the first number without the second.
func BigSub(a Big, b Big) (Big, bool) {
	if !BigOk(a) || !BigOk(b) {
		return Big{}, false
	}
	return bounded(sumOf(a, turned(b)))
}

// BigMul is the first number as often as the second says.
func BigMul(a Big, b Big) (Big, bool) {
	if !BigOk(a) || !BigOk(b) {
		return Big{}, false
	}
	return bounded(productOf(a, b))
}

// BigDiv is how many times the second number goes into the first, and what is left.
func BigDiv(a Big, b Big) (Big, Big, bool) {
	if !BigOk(a) || !BigOk(b) || len(b.Limbs) == 0 {
		return Big{}, Big{}, false
	}
	times, rest := limbs(a.Limbs).through(b.Limbs)
	return signed(a.Neg != b.Neg, times), signed(a.Neg, rest), true
}

// BigCmp says which of two numbers is the greater one.
func BigCmp(a Big, b Big) int {
	if !BigOk(a) || !BigOk(b) {
		return 2
	}
	return signOf(sumOf(a, turned(b)))
}

// signOf is -1, 0 or 1, as a number is below 0, 0, or above.
func signOf(a Big) int {
	switch {
	case a.Neg:
		return -1
	case len(a.Limbs) == 0:
		return 0
	}
	return 1
}

// BigPut writes a number.
func BigPut(a Big) string {
	if !BigOk(a) {
		return ""
	}
	return signText(a) + limbs(a.Limbs).text()
}

// signText is what stands ahead of a number's figures.
func signText(a Big) string {
	if a.Neg {
		return "-"
	}
	return ""
}

// BigGet reads a number.
func BigGet(s string) (Big, bool) {
	figures, neg := strings.CutPrefix(s, "-")
	if len(figures) > limbFigures*BigLimbs || !arePlain(figures) || neg && figures == "0" {
		return Big{}, false
	}
	return signed(neg, limbsOf(figures)), true
}

// BigTen is ten to the power of n.
func BigTen(n int) (Big, bool) {
	if n < 0 || n >= limbFigures*BigLimbs {
		return Big{}, false
	}
	return signed(false, tenLimbs(n)), true
}
