package tests

import (
	"fmt"
	"math/rand"
	"slices"
	"strings"
	"testing"

	"loop.example/jetton/impl"
)

func TestExprsHaveTheirConstants(t *testing.T) {
	got := []int{
		impl.OpVal, impl.OpCol, impl.OpAdd, impl.OpSub, impl.OpMul, impl.OpDiv, impl.OpEq, impl.OpNe, impl.OpLt, impl.OpLe, impl.OpGt, impl.OpGe, impl.OpAnd, impl.OpOr, impl.OpNot, impl.OpNull,
		impl.ExprFine, impl.ExprForm, impl.ExprName, impl.ExprType, impl.ExprZero, impl.ExprOver, impl.ExprMax, impl.DeepMax, impl.LineMax, impl.DivScale,
	}
	if want := []int{0, 1, 2, 3, 4, 5, 6, 7, 8, 9, 10, 11, 12, 13, 14, 15, 0, 1, 2, 3, 4, 5, 16, 20, 400, 6}; !slices.Equal(got, want) {
		t.Error(got, want)
	}
}

// readings is texts, and how what they say is written with all its parentheses; empty, if they say nothing.
var readings = map[string]string{
	"a":               "a",
	"  a  ":           "a",
	"(a)":             "a",
	"( ( a ) )":       "a",
	"x.y":             "x.y",
	"eightbyt.eightb": "eightbyt.eightb",
	"a1.b2":           "a1.b2",
	"null":            "null",
	"true":            "true",
	"-1":              "-1",
	" -1":             "-1",
	"(-1)":            "-1",
	"( -1 )":          "-1",
	"-0.50":           "-0.50",
	"@2024-02-29":     "@2024-02-29",
	"#-3m-4d":         "#-3m-4d",
	"'it''s'":         "'it''s'",
	"''''":            "''''",
	"''":              "''",
	"'a b'":           "'a b'",
	"'and'":           "'and'",
	"'-1'":            "'-1'",
	"'('":             "'('",

	// A minus: with a figure behind it, and nothing, a blank or a parenthesis ahead, it begins a number.
	"a-1":           "(a - 1)",
	"a- 1":          "(a - 1)",
	"a - 1":         "(a - 1)",
	"a - -1":        "(a - -1)",
	"a- -1":         "(a - -1)",
	"a -(1)":        "(a - 1)",
	"a -b":          "(a - b)",
	"a-(-1)":        "(a - -1)",
	"1-1":           "(1 - 1)",
	"1-1-1":         "((1 - 1) - 1)",
	"-1-1":          "(-1 - 1)",
	"-1 - -1":       "(-1 - -1)",
	"(a)-1":         "(a - 1)",
	"'a'-1":         "('a' - 1)",
	"a = -1":        "(a = -1)",
	"a=(-1)":        "(a = -1)",
	"a * -1":        "(a * -1)",
	"a -1":          "",
	"(a) -1":        "",
	"1 -1":          "",
	"a --1":         "",
	"a=-1":          "",
	"a*-1":          "",
	"a+-1":          "",
	"a<-1":          "",
	"a--1":          "",
	"--1":           "",
	"- 1":           "",
	"-a":            "",
	"-(1)":          "",
	"-":             "",
	"-.5":           "",
	"-0":            "",
	"-00":           "",
	"@2024-01-01-1": "",
	"#1m1d-1":       "",
	"#1m1d -1":      "",
	"#1m1d - 1":     "(#1m1d - 1)",
	",-1":           "",
	"a,b":           "",
	"a, b":          "",

	// What binds more than what.
	"a or b or c":                     "((a or b) or c)",
	"a or b and c":                    "(a or (b and c))",
	"a and b or c":                    "((a and b) or c)",
	"a and b and c":                   "((a and b) and c)",
	"a and (b and c)":                 "(a and (b and c))",
	"not a and b":                     "((not a) and b)",
	"a and not b":                     "(a and (not b))",
	"not (a and b)":                   "(not (a and b))",
	"not a = b":                       "(not (a = b))",
	"not not not a":                   "(not (not (not a)))",
	"not a is null":                   "(not (a is null))",
	"not a is not null":               "(not (not (a is null)))",
	"a is null":                       "(a is null)",
	"a is not null":                   "(not (a is null))",
	"a + 1 is null":                   "((a + 1) is null)",
	"(a is null) is null":             "((a is null) is null)",
	"a is null and b is not null":     "((a is null) and (not (b is null)))",
	"null is null":                    "(null is null)",
	"a + b + c":                       "((a + b) + c)",
	"a - b - c":                       "((a - b) - c)",
	"a - (b - c)":                     "(a - (b - c))",
	"a - b + c":                       "((a - b) + c)",
	"a + b * c":                       "(a + (b * c))",
	"a * b + c":                       "((a * b) + c)",
	"a / b / c":                       "((a / b) / c)",
	"a / b * c":                       "((a / b) * c)",
	"a * (b + c)":                     "(a * (b + c))",
	"a + b = c * d":                   "((a + b) = (c * d))",
	"(a = b) = c":                     "((a = b) = c)",
	"a = (b = c)":                     "(a = (b = c))",
	"a or b = c + d * e":              "(a or (b = (c + (d * e))))",
	"(a or b) and c":                  "((a or b) and c)",
	"a = b and c <> d or e < f":       "(((a = b) and (c <> d)) or (e < f))",
	"a <= b or a >= b":                "((a <= b) or (a >= b))",
	"not(a)":                          "(not a)",
	"a and(b)":                        "(a and b)",
	"(a)and(b)":                       "(a and b)",
	"(a)is null":                      "(a is null)",
	"'a'and'b'":                       "('a' and 'b')",
	"1and 2":                          "(1 and 2)",
	"1or 2":                           "(1 or 2)",
	"1is null":                        "(1 is null)",
	"@2024-02-29+#1m1d":               "(@2024-02-29 + #1m1d)",
	"@2024-02-29 - @2024-01-01":       "(@2024-02-29 - @2024-01-01)",
	"@2024-02-29=a":                   "(@2024-02-29 = a)",
	"is.a":                            "",
	"nots":                            "nots",
	"notnull":                         "notnull",
	"isnull":                          "isnull",
	"nulls is null":                   "(nulls is null)",
	"a1 + a2":                         "(a1 + a2)",
	"a is null is null":               "",
	"a is not not null":               "",
	"a not null":                      "",
	"a is":                            "",
	"a is not":                        "",
	"a isnull":                        "",
	"is null":                         "",
	"not":                             "",
	"not not":                         "",
	"not is null":                     "",
	"a not b":                         "",
	"a = not b":                       "",
	"a + not b":                       "",
	"a = b = c":                       "",
	"a < b < c":                       "",
	"a = b is null":                   "",
	"a is null = b":                   "",
	"a or":                            "",
	"or a":                            "",
	"a and and b":                     "",
	"a b":                             "",
	"a 1":                             "",
	"1 a":                             "",
	"1 2":                             "",
	"1a":                              "",
	"a 'b'":                           "",
	"'a' 'b'":                         "",
	"@2024-02-29 @2024-02-29":         "",
	"(a":                              "",
	"a)":                              "",
	"(a))":                            "",
	"((a)":                            "",
	")a(":                             "",
	"()":                              "",
	"(":                               "",
	")":                               "",
	"(a)(b)":                          "",
	"a(b)":                            "",
	"+ a":                             "",
	"a +":                             "",
	"* a":                             "",
	"a * / b":                         "",
	"a + + b":                         "",
	"=":                               "",
	"a =":                             "",
	"= a":                             "",
	"":                                "",
	" ":                               "",
	"    ":                            "",
	"select":                          "",
	"and":                             "",
	"avg":                             "",
	"a.and":                           "",
	"and.a":                           "",
	"ninebytes":                       "",
	"a.ninebytes":                     "",
	"ninebytes.a":                     "",
	"a.b.c":                           "",
	"a.":                              "",
	".a":                              "",
	"a..b":                            "",
	"a.1":                             "",
	"A":                               "",
	"aB":                              "",
	"a_b":                             "",
	"01":                              "",
	"1.":                              "",
	".1":                              "",
	"1..2":                            "",
	"1.2.3":                           "",
	"1e3":                             "",
	"+1":                              "",
	"0.0000000000001":                 "",
	"1234567890123456789012345678901": "",
	"@":                               "",
	"#":                               "",
	"@2024-02-30":                     "",
	"@2024-2-9":                       "",
	"@ 2024-02-29":                    "",
	"# 1m1d":                          "",
	"#1m":                             "",
	"#120001m0d":                      "",
	"#1M1d":                           "",
	"'":                               "",
	"'a":                              "",
	"a'":                              "",
	"'''":                             "",
	"'a'b'":                           "",
	"'thirteen byte'":                 "",
	"'twelve bytes'":                  "'twelve bytes'",
	"'a\n'":                           "",
	"'\x7f'":                          "",
	"\"a\"":                           "",
	"a\tb":                            "",
	"a\n":                             "",
	"\ta":                             "",
	"a & b":                           "",
	"a; b":                            "",
	"a % b":                           "",
	"a ! b":                           "",
	"a != b":                          "",
	"a == b":                          "",
	"a || b":                          "",
	"é":                               "",
	"a\x00":                           "",
	"\xff":                            "",

	// Signs of one and of two bytes side by side.
	"a<=b":    "(a <= b)",
	"a>=b":    "(a >= b)",
	"a<>b":    "(a <> b)",
	"a<b":     "(a < b)",
	"a>b":     "(a > b)",
	"a=b":     "(a = b)",
	"a<(b)":   "(a < b)",
	"a<'b'":   "(a < 'b')",
	"a< b":    "(a < b)",
	"a< =b":   "",
	"a> =b":   "",
	"a< >b":   "",
	"a=<b":    "",
	"a=>b":    "",
	"a><b":    "",
	"a<<b":    "",
	"a<=>b":   "",
	"a<>=b":   "",
	"a<==b":   "",
	"a>==b":   "",
	"a<=<=b":  "",
	"a<= -1":  "(a <= -1)",
	"a<=-1":   "",
	"a<>-1":   "",
	"a<>(-1)": "(a <> -1)",
}

func TestP97ExpressionsWrittenOut(t *testing.T) {
	for s, want := range readings {
		e, ok := mustExprGet(t, s)
		if ok != (want != "") || impl.ExprPut(e) != want {
			t.Errorf("%q: %v %q, want %q", s, ok, impl.ExprPut(e), want)
		}
	}
}

// mustReadBack holds what is read of a text to P97 and P99, too; whether it is an expression.
func mustReadBack(t *testing.T, s string) bool {
	t.Helper()
	e, ok := mustExprGet(t, s)
	if !ok {
		return false
	}
	put := impl.ExprPut(e)
	again, okAgain := mustExprGet(t, put)
	if !impl.ExprOk(e) || put == "" || !okAgain || !sameExpr(e, again) || impl.ExprPut(again) != put {
		t.Fatalf("%q: %v, %q, %v %v", s, e, put, again, okAgain)
	}
	return true
}

func TestP97EachFewWords(t *testing.T) {
	words := []string{"a", "-1", "'b'", "x.y", "null", "(", ")", "not", "and", "or", "=", "<", "is", "-", "*", "+"}
	oks := 0
	var grow func(s string, n int)
	grow = func(s string, n int) {
		if mustReadBack(t, s) {
			oks++
		}
		if n == 4 {
			return
		}
		for _, w := range words {
			grow(s+" "+w, n+1)
		}
	}
	grow("", 0)
	if oks < 300 {
		t.Error(oks)
	}
}

func TestP97EachFewBytes(t *testing.T) {
	oks := 0
	for _, alphabet := range []string{"a1-.( ", "'a -1", "<>=a1 ", "@#a1-+ ", "a,-1()", "*/a.2 "} {
		eachText(alphabet, 5, func(s string) {
			if mustReadBack(t, s) {
				oks++
			}
		})
	}
	for n := range 256 {
		for _, s := range []string{"%", "a%", "%a", "a %", "a%b", "a % b", "'%'", "1%1", "(%", "a = %", "-%", "@%", "x.%", "a%-1", "a%=b"} {
			if mustReadBack(t, strings.ReplaceAll(s, "%", string([]byte{byte(n)}))) {
				oks++
			}
		}
	}
	if oks < 1500 {
		t.Error(oks)
	}
}

// spoken is how a knot may be said: with as few parentheses as may be, or more, and blanks as it comes.
func (k *knot) spoken(source *rand.Rand, least int) []string {
	words, binds := []string{}, 7
	switch op := k.part.Op; {
	case op <= opCol:
		words = []string{k.text()}
	case op == opNot && k.kids[0].part.Op == opNull && source.Intn(2) == 0:
		words, binds = append(k.kids[0].kids[0].spoken(source, 5), "is", "not", "null"), 4
	case op == opNot:
		words, binds = append([]string{"not"}, k.kids[0].spoken(source, 3)...), 3
	case op == opNull:
		words, binds = append(k.kids[0].spoken(source, 5), "is", "null"), 4
	default:
		left, right := 5, 5
		switch {
		case op == opOr:
			binds, left, right = 1, 1, 2
		case op == opAnd:
			binds, left, right = 2, 2, 3
		case op >= opEq:
			binds = 4
		case op >= opMul:
			binds, left, right = 6, 6, 7
		default:
			binds, left, right = 5, 5, 6
		}
		words = append(append(k.kids[0].spoken(source, left), opWords[op]), k.kids[1].spoken(source, right)...)
	}
	for binds < least || source.Intn(12) == 0 {
		words, binds = append(append([]string{"("}, words...), ")"), 7
	}
	return words
}

// madeExprs calls with expressions of all sizes, of all kinds, those whose kinds do not agree too.
func madeExprs(seed int64, n int, call func(source *rand.Rand, e []impl.Part)) {
	source := rand.New(rand.NewSource(seed))
	for i := range n {
		m := exprMaker{source: source, cols: someCols(), wrong: []int{0, 20, 4}[i%3]}
		call(source, m.of(1+source.Intn(5), 1+source.Intn(16)))
	}
}

func TestP97HoweverItIsSaid(t *testing.T) {
	same := 0
	madeExprs(100, 6000, func(source *rand.Rand, e []impl.Part) {
		words := knotOf(e).spoken(source, 0)
		s := strings.Join(words, strings.Repeat(" ", 1+source.Intn(2)))
		if len(s) <= 400 && deepest(words) <= 20 {
			got, ok := mustExprGet(t, s)
			if !ok || !sameExpr(got, e) {
				t.Fatalf("%q: %v, want %v", s, got, e)
			}
			same++
		}
		// With blanks left out here and there, and with a word more, less or twice, it is what the second language reads.
		at := source.Intn(len(words))
		switch source.Intn(4) {
		case 0:
			words = slices.Delete(words, at, at+1)
		case 1:
			words = slices.Insert(words, at, words[source.Intn(len(words))])
		case 2:
			words = slices.Insert(words, at, []string{"not", "(", ")", "is", "null", "-", "<", "=", ",", "and", "-2"}[source.Intn(11)])
		}
		tight := ""
		for _, w := range words {
			tight += w + []string{"", " ", " "}[source.Intn(3)]
		}
		mustReadBack(t, tight)
	})
	if same < 5000 {
		t.Error(same)
	}
}

func TestP97TheLongestTexts(t *testing.T) {
	for _, core := range []string{"a", "a + b", "'twelve bytes' = a", "(a)"} {
		for _, n := range []int{399, 400, 401, 402, 1000, 100000} {
			for _, s := range []string{core + strings.Repeat(" ", n-len(core)), strings.Repeat(" ", n-len(core)) + core} {
				if _, ok := mustExprGet(t, s); ok != (n <= 400) {
					t.Error(core, n, ok)
				}
			}
		}
	}
	// Words as long as the text may be are no names, values or parentheses.
	for _, s := range []string{strings.Repeat("a", 400), strings.Repeat("1", 400), strings.Repeat("(", 400), strings.Repeat(")", 400), "'" + strings.Repeat("a", 398) + "'", strings.Repeat("'", 400), strings.Repeat("-", 400), strings.Repeat("not ", 100), strings.Repeat("a=", 200)} {
		if _, ok := mustExprGet(t, s); ok {
			t.Errorf("%q", s)
		}
	}
}

func TestP97AsManyPartsAsThereMayBe(t *testing.T) {
	for n := 1; n <= 30; n++ {
		// n parts: n-1 times not; n/2+1 terms, with one part more where n is even.
		texts := []string{strings.Repeat("not ", n-1) + "a", "a" + strings.Repeat(" + a", (n-1)/2), "a" + strings.Repeat(" and a is null", (n-1)/3)}
		sizes := []int{n, 1 + 2*((n-1)/2), 1 + 3*((n-1)/3)}
		for i, s := range texts {
			e, ok := mustExprGet(t, s)
			if ok != (sizes[i] <= 16) || ok && len(e) != sizes[i] {
				t.Error(s, ok, len(e))
			}
		}
	}
	for s, want := range map[string]bool{
		"a" + strings.Repeat(" + a", 7):                  true,
		"a" + strings.Repeat(" + a", 7) + " is null":     true,
		"a" + strings.Repeat(" + a", 7) + " is not null": false,
		"not a" + strings.Repeat(" and a", 7):            true,
		"not not a" + strings.Repeat(" and a", 7):        false,
		"a" + strings.Repeat(" + a", 8):                  false,
		strings.Repeat("not ", 14) + "a is null":         true,
		strings.Repeat("not ", 15) + "a is null":         false,
		strings.Repeat("not ", 14) + "a is not null":     false,
	} {
		if _, ok := mustExprGet(t, s); ok != want {
			t.Error(s, ok)
		}
	}
}

func TestP97AsManyParenthesesAsThereMayBe(t *testing.T) {
	wrap := func(s string, n int) string { return strings.Repeat("(", n) + s + strings.Repeat(")", n) }
	for n := range 30 {
		for _, s := range []string{wrap("a", n), wrap("a", n) + " + b", "b + " + wrap("a", n), wrap("a", n) + "=" + wrap("b", n), "(" + wrap("a", max(0, n-1)) + " or " + wrap("b", max(0, n-1)) + ")"} {
			if _, ok := mustExprGet(t, s); ok != (n <= 20) {
				t.Error(n, s, ok)
			}
		}
		if _, ok := mustExprGet(t, wrap("a", n)[:2*n]); ok && n > 0 {
			t.Error(n, "one is not closed")
		}
	}
	// What is closed counts no more.
	many := "(a)" + strings.Repeat(" + (a)", 7)
	if e, ok := mustExprGet(t, wrap(many, 19)); !ok || len(e) != 15 {
		t.Error(ok)
	}
	if _, ok := mustExprGet(t, wrap(many, 20)); ok {
		t.Error("21 are open")
	}
}

// longestExpr has sixteen parts, each of them as long as it can be.
func longestExpr() []impl.Part {
	var e []impl.Part
	for i := range 8 {
		e = append(e, impl.Part{Op: opVal, Val: valueOf("-123456789012345678.123456789012")})
		if i > 0 {
			e = append(e, impl.Part{Op: opAnd})
		}
	}
	return append(e, impl.Part{Op: opNull})
}

func TestP98ExpressionsAreReadBack(t *testing.T) {
	long := 0
	check := func(e []impl.Part) {
		want := wantExprPut(e)
		got := impl.ExprPut(e)
		again, ok := mustExprGet(t, got)
		if !impl.ExprOk(e) || got != want || !ok || !sameExpr(again, e) || len(got) > 400 {
			t.Fatalf("%v: %q, want %q; %v %v", e, got, want, again, ok)
		}
		long = max(long, len(got))
	}
	madeExprs(101, 6000, func(_ *rand.Rand, e []impl.Part) { check(e) })
	source := rand.New(rand.NewSource(102))
	values := slices.Concat(someValues(), fewValues())
	for range 6000 {
		check(anyExpr(source, values))
	}
	for _, v := range values {
		check([]impl.Part{{Op: opVal, Val: v}})
		check([]impl.Part{{Op: opVal, Val: v}, {Op: opVal, Val: v}, {Op: opSub}})
		check([]impl.Part{{Op: opVal, Val: v}, {Op: opNot}})
		check([]impl.Part{{Op: opVal, Val: v}, {Op: opNull}})
	}
	check(longestExpr())
	for op := opAdd; op <= opOr; op++ {
		check(append(slices.Repeat(exprOf("selects1.eightbyt"), 8), slices.Repeat([]impl.Part{{Op: op}}, 7)...))
		check(append(exprOf("-1"), slices.Repeat([]impl.Part{{Op: opVal, Val: valueOf("-1")}, {Op: op}}, 7)...))
	}
	for _, op := range []int{opNot, opNull} {
		check(append(exprOf("a"), slices.Repeat([]impl.Part{{Op: op}}, 15)...))
	}
	if long < 300 {
		t.Error(long)
	}
}

// anyExpr is an expression that is ok, whatever kinds it puts together.
func anyExpr(source *rand.Rand, values []impl.Value) []impl.Part {
	var e []impl.Part
	there := 0
	for size := 1 + source.Intn(16); len(e) < size || there > 1; {
		left := 16 - len(e)
		switch n := source.Intn(4); {
		case there > 1 && (n < 2 || left <= there):
			e, there = append(e, impl.Part{Op: opAdd + source.Intn(12)}), there-1
		case there > 0 && n == 2 && left > there-1:
			e = append(e, impl.Part{Op: opNot + source.Intn(2)})
		case left > there+1 && n == 3:
			e, there = append(e, impl.Part{Op: opCol, Col: []string{"a", "b.c", "eightbyt.eightbyt", "nots", "x1"}[source.Intn(5)]}), there+1
		case left > there+1:
			e, there = append(e, impl.Part{Op: opVal, Val: values[source.Intn(len(values))]}), there+1
		}
	}
	return e
}

func TestP98ExpressionsThatAreNotOk(t *testing.T) {
	row, cols := someSeenRows()[0], append(someCols()[:7], impl.Col{Name: "a", Type: typeOf("bool")})
	for _, e := range badExprs() {
		if knotOf(e) != nil {
			t.Fatal("it is ok:", e)
		}
		if impl.ExprOk(e) || impl.ExprPut(e) != "" {
			t.Fatal(e)
		}
		if kind, code := impl.ExprKind(cols, e); kind != 0 || code != 1 {
			t.Fatal(e, kind, code)
		}
		if v, code := impl.ExprRun(cols, row, e); !noValue(v) || code != 1 {
			t.Fatal(e, v, code)
		}
	}
	// Parts at random are ok as the second language says.
	source := rand.New(rand.NewSource(103))
	oks := 0
	for range 20000 {
		var e []impl.Part
		for range source.Intn(6) {
			e = append(e, []impl.Part{{Op: opVal}, {Op: opCol, Col: "a"}, {Op: opAdd}, {Op: opOr}, {Op: opNot}, {Op: opNull}, {Op: opGe}, {Op: opVal, Val: valueOf("'x'")}}[source.Intn(8)])
		}
		ok := knotOf(e) != nil
		if impl.ExprOk(e) != ok || impl.ExprPut(e) != wantExprPut(e) {
			t.Fatal(e, ok)
		}
		if ok {
			oks++
		}
	}
	if oks < 1000 {
		t.Error(oks)
	}
}

// What is empty is nothing, whether there is a list or not.
func TestP98EmptyListsAreNoLists(t *testing.T) {
	bare := impl.Value{}
	bare.Num.Num.Limbs = []int{}
	zero := impl.Value{Kind: impl.KindNum}
	zero.Num.Num.Limbs = []int{}
	e := []impl.Part{{Op: opCol, Col: "n", Val: bare}, {Op: opVal, Val: zero}, {Op: opAdd, Val: bare}, {Op: opVal, Val: bare}, {Op: opEq, Val: bare}, {Op: opNull, Val: bare}}
	if !impl.ExprOk(e) || impl.ExprPut(e) != "(((n + 0) = null) is null)" {
		t.Error(impl.ExprPut(e))
	}
	if v, code := impl.ExprRun(someCols(), someSeenRows()[0], e); code != 0 || !v.Yes {
		t.Error(v, code)
	}
}

func TestP99BlanksAndParenthesesAround(t *testing.T) {
	texts := []string{}
	for s := range readings {
		texts = append(texts, s)
	}
	madeExprs(104, 3000, func(source *rand.Rand, e []impl.Part) {
		texts = append(texts, strings.Join(knotOf(e).spoken(source, 0), " "), wantExprPut(e))
	})
	around := 0
	for _, s := range texts {
		e, ok := mustExprGet(t, s)
		if len(s) > 100 {
			continue
		}
		words, _ := wantSplit(s)
		for _, x := range []string{" " + s, s + " ", "   " + s + "  ", strings.Repeat(" ", 150) + s + strings.Repeat(" ", 150)} {
			got, gotOk := impl.ExprGet(x)
			if gotOk != ok || !sameExpr(got, e) {
				t.Fatalf("%q: %v %v, want %v %v", x, got, gotOk, e, ok)
			}
		}
		if !ok {
			continue
		}
		around++
		for _, x := range []string{"(" + s + ")", " ( " + s + " ) ", "( " + s + ")", "(" + s + " )"} {
			got, gotOk := impl.ExprGet(x)
			if wantOk := deepest(words) < 20; gotOk != wantOk || gotOk && !sameExpr(got, e) {
				t.Fatalf("%q: %v %v, want %v", x, got, gotOk, e)
			}
		}
	}
	if around < 2000 {
		t.Error(around)
	}
}

// mustRun holds kind and value of an expression against the second language, and to P100; it is both.
func mustRun(t *testing.T, cols []impl.Col, row []impl.Value, e []impl.Part) (impl.Value, int) {
	t.Helper()
	kind, kindCode := impl.ExprKind(cols, e)
	wantKind, wantKindCode := wantExprKind(cols, e)
	if kind != wantKind || kindCode != wantKindCode {
		t.Fatalf("ExprKind of %s (%v): %d %d, want %d %d", impl.ExprPut(e), cols, kind, kindCode, wantKind, wantKindCode)
	}
	v, code := impl.ExprRun(cols, row, e)
	want, wantCode := wantExprRun(cols, row, e)
	if code != wantCode || !sameValue(v, want) {
		t.Fatalf("ExprRun of %s (%v): %v %d, want %v %d", impl.ExprPut(e), row, v, code, want, wantCode)
	}
	switch {
	case code == 1:
	case kindCode != 0:
		if code != kindCode {
			t.Fatal(impl.ExprPut(e), code, kindCode)
		}
	case code != 0 && code != 4 && code != 5, !impl.ValueOk(v), v.Kind != 0 && v.Kind != kind:
		t.Fatal(impl.ExprPut(e), v, code)
	}
	if code != 0 && !noValue(v) {
		t.Fatal(impl.ExprPut(e), v, code)
	}
	return v, code
}

// Each part, of values and of columns of each kind, and of none; kinds are held against tables that are written out.
func TestP100EachPartOfEachKind(t *testing.T) {
	cols := someCols()
	columns := []string{"", "b", "n", "d", "s", "t.t"}
	var operands [6][]impl.Part
	for kind, texts := range kindValues {
		for _, s := range texts {
			operands[kind] = append(operands[kind], impl.Part{Op: opVal, Val: valueOf(s)})
		}
		if kind > 0 {
			operands[kind] = append(operands[kind], impl.Part{Op: opCol, Col: columns[kind]})
		}
	}
	codes := map[string]int{}
	for op := opAdd; op <= opNull; op++ {
		for a := range 6 {
			for b := range 6 {
				if op >= opNot && b > 0 {
					continue
				}
				for _, x := range operands[a] {
					for _, y := range operands[b] {
						e := []impl.Part{x, y, {Op: op}}
						if op >= opNot {
							e = []impl.Part{x, {Op: op}}
						}
						for _, row := range someSeenRows() {
							_, code := mustRun(t, cols, row, e)
							if agree := kindsOf(op)[a][b] != '.'; agree != (code != 3) {
								t.Fatal(op, a, b, code)
							}
							codes[fmt.Sprint(op, " ", code)]++
						}
					}
				}
			}
		}
	}
	for op := opAdd; op <= opNull; op++ {
		for code, is := range map[int]bool{0: true, 3: op != opNull, 4: op == opDiv, 5: op <= opDiv} {
			if is != (codes[fmt.Sprint(op, " ", code)] > 0) {
				t.Error(op, code, codes)
			}
		}
	}
}

func TestP100WhateverIsAsked(t *testing.T) {
	codes := map[int]int{}
	madeExprs(105, 20000, func(source *rand.Rand, e []impl.Part) {
		rows := someSeenRows()
		_, code := mustRun(t, someCols(), rows[source.Intn(len(rows))], e)
		codes[code]++
	})
	source := rand.New(rand.NewSource(106))
	values := fewValues()
	for range 10000 {
		_, code := mustRun(t, someCols(), someSeenRows()[0], anyExpr(source, values))
		codes[code]++
	}
	for _, code := range []int{0, 2, 3, 4, 5} {
		if codes[code] < 100 {
			t.Error(codes)
		}
	}
}

// Values and codes, written out.
func TestP100RunsWrittenOut(t *testing.T) {
	for s, want := range map[string]string{
		"n": "2.50", "n + 1": "3.50", "n - 2.5": "0.00", "n * n": "6.2500", "n / 3": "0.833333", "2 / 3": "0.666667", "-2 / 3": "-0.666667", "1 / 8": "0.125000", "0.0000005 / 1": "0.000001", "0 / 3": "0.000000",
		"1 + 1.50": "2.50", "0.000000000001 * 0.5": "0.000000000000", "0.000000000003 * 0.5": "0.000000000002", "1.5 * 1.50": "2.250",
		"@2024-01-31 + #1m0d": "@2024-02-29", "@2024-03-31 - #1m1d": "@2024-02-28", "@2024-02-29 - #12m0d": "@2023-02-28", "@2024-01-31 - @2024-02-01": "-1", "d - d": "0", "@9999-12-31 - @0001-01-01": "3652058",
		"#1m1d + #-2m3d": "#-1m4d", "#1m1d - #-2m3d": "#3m-2d", "#120000m0d + #0m4000000d": "#120000m4000000d", "#60000m0d - #-60000m0d": "#120000m0d",
		"1 = 1.000": "true", "'a' < 'a '": "true", "'a' = 'a '": "false", "false < true": "true", "#0m31d < #1m0d": "true", "@2024-01-31 >= @2024-01-31": "true", "1 <> 1.0": "false", "'x' <> 'y'": "true", "-1 <= 0": "true", "2 > 10": "false",
		"null": "null", "null + 1": "null", "1 - null": "null", "null * null": "null", "null / 0": "null", "0 / null": "null", "null = null": "null", "null <> 1": "null", "null < 'a'": "null", "@2024-01-31 + null": "null", "null - #1m0d": "null", "not null": "null",
		"null is null": "true", "n is null": "false", "null + 1 is null": "true", "null is not null": "false", "(null = 1) is null": "true",
		"true and null": "null", "null and false": "false", "false and null": "false", "null and true": "null", "true or null": "true", "null or true": "true", "false or null": "null", "null or false": "null", "null and null": "null", "null or null": "null",
		"true and true": "true", "true and false": "false", "false or false": "false", "false or true": "true", "not true": "false", "not false": "true", "b and not t": "true",
		"n > 2 and null": "null", "n < 2 and null": "false",
		"999999999999999999999999999999 + 0": "999999999999999999999999999999", "99999999999999999999999.999999 / 0.1": "999999999999999999999999.999990", "999999999999999999999999.999999 / 0.1": "over", "100000000000000000000000 / 1": "100000000000000000000000.000000", "1000000000000000000000000 / 1": "over",
		"999999999999999999999999999999 + 1": "over", "999999999999999999999999999999 + 0.0": "over", "-999999999999999999999999999999 - 1": "over", "1000000000000000 * 1000000000000000": "over", "1000000000000000 * 100000000000000": "100000000000000000000000000000",
		"@9999-12-31 + #0m1d": "over", "@9999-12-31 + #1m-31d": "over", "@0001-01-01 - #0m1d": "over", "@0001-01-31 - #1m0d": "over", "@2024-01-31 + #120000m0d": "over", "#120000m0d + #1m0d": "over", "#0m-4000000d - #0m1d": "over", "#120000m4000000d - #-1m0d": "over",
		"1 / 0": "zero", "1 / 0.00": "zero", "0 / 0": "zero", "n / (n - 2.5)": "zero",
		// The first part that goes wrong, whatever stands around it.
		"1 / 0 = 1 or @9999-12-31 + #0m1d = d": "zero", "@9999-12-31 + #0m1d = d or 1 / 0 = 1": "over", "false and 1 / 0 = 1": "zero", "true or 1 / 0 = 1": "zero", "1 / 0 is null": "zero", "null + 1 / 0": "zero", "1 / 0 + null": "zero", "(1 / 0) / (999999999999999999999999999999 + 1)": "zero", "1 / 0 * (999999999999999999999999999999 + 1)": "zero", "(999999999999999999999999999999 + 1) / 0": "over", "not (1 / 0 > 0)": "zero",
		"1 / (1 / 3 - 0.333333)": "zero",
		"q":                      "name", "q + true": "name", "true + q": "name", "x.n": "name", "N": "", "q is null": "name",
		"n + d": "type", "n and true": "type", "d + d": "type", "s + d": "type", "n - d": "type", "d - n": "type", "t.t + t.t": "type", "b + b": "type", "b = n": "type", "null + b": "type", "null * d": "type", "null + 'a'": "type", "'a' - null": "type", "not n": "type", "null or 'a'": "type", "s * 2": "type", "s / s": "type", "s = d": "type", "b < 'a'": "type", "1 / 0 + b": "type", "(n + d) is null": "type", "not (b = n)": "type",
	} {
		e, ok := impl.ExprGet(s)
		if !ok {
			if want != "" {
				t.Error(s)
			}
			continue
		}
		v, code := mustRun(t, someCols(), someSeenRows()[0], e)
		if got := []string{impl.ValuePut(v), "form", "name", "type", "zero", "over"}[code]; got != want {
			t.Errorf("%s: %s, want %s", s, got, want)
		}
	}
}

func TestP100ColumnsAndRowsThatAreNone(t *testing.T) {
	row := someSeenRows()[0]
	exprs := [][]impl.Part{exprOf("true"), exprOf("a"), exprOf("q"), exprOf("1 + true"), exprOf("1 / 0")}
	for _, cols := range badSeen() {
		if wantSeen(cols) {
			t.Fatal("they may be seen:", cols)
		}
		for _, e := range exprs {
			for _, vals := range [][]impl.Value{nil, row, make([]impl.Value, len(cols))} {
				if _, code := mustRun(t, cols, vals, e); code != 1 {
					t.Fatal(cols, code)
				}
			}
		}
	}
	// From one column to eight.
	for n := 1; n <= 8; n++ {
		cols := someCols()[:n]
		if v, code := mustRun(t, cols, row[:n], exprOf("b")); code != 0 || !v.Yes {
			t.Error(n, code)
		}
		for _, vals := range [][]impl.Value{nil, row[:n-1], append(slices.Clone(row), row...)[:n+1]} {
			for _, e := range exprs {
				if _, code := mustRun(t, cols, vals, e); code != 1 {
					t.Error(n, len(vals), code)
				}
			}
		}
	}
	// A value that does not fit, also where no column is asked for; what is wrong with the form is told first.
	misfits := append(badValues(), valueOf("1"), valueOf("1.0"), valueOf("1000.00"), valueOf("'a'"), valueOf("@2024-01-31"))
	for _, v := range misfits {
		for at := range 2 {
			vals := slices.Clone(row)
			vals[at] = v
			for _, e := range exprs {
				if _, code := mustRun(t, someCols(), vals, e); code != 1 {
					t.Fatal(v, at, code)
				}
			}
		}
	}
	if kind, code := impl.ExprKind(someCols(), exprOf("n + 1")); kind != 2 || code != 0 {
		t.Error(kind, code)
	}
}

// truthsAsked calls with expressions that are truths, without codes, for a row.
func truthsAsked(seed int64, n int, size int, call func(cols []impl.Col, row []impl.Value, e []impl.Part, v impl.Value)) {
	source := rand.New(rand.NewSource(seed))
	rows := someSeenRows()
	for range n {
		m := exprMaker{source: source, cols: someCols()}
		e, row := m.of(1, 1+source.Intn(size)), rows[source.Intn(len(rows))]
		if v, code := impl.ExprRun(someCols(), row, e); code == 0 {
			call(someCols(), row, e, v)
		}
	}
}

// put is an expression of others, and a part behind them.
func put(op int, list ...[]impl.Part) []impl.Part {
	return append(slices.Concat(list...), impl.Part{Op: op})
}

func mustSameRun(t *testing.T, cols []impl.Col, row []impl.Value, a, b []impl.Part) {
	t.Helper()
	v, code := mustRun(t, cols, row, a)
	w, other := mustRun(t, cols, row, b)
	if code != other || !sameValue(v, w) {
		t.Fatal(impl.ExprPut(a), v, code, impl.ExprPut(b), w, other)
	}
}

func TestP101WhatIsNotWhatIsNotSo(t *testing.T) {
	count := map[string]int{}
	truthsAsked(107, 6000, 13, func(cols []impl.Col, row []impl.Value, e []impl.Part, v impl.Value) {
		mustSameRun(t, cols, row, put(opNot, put(opNot, e)), e)
		count[impl.ValuePut(v)]++
	})
	var ahead []impl.Part
	truthsAsked(108, 12000, 5, func(cols []impl.Col, row []impl.Value, e []impl.Part, _ impl.Value) {
		a, b := ahead, e
		ahead = e
		if _, code := impl.ExprRun(cols, row, a); len(a) == 0 || code != 0 {
			return
		}
		mustSameRun(t, cols, row, put(opNot, put(opAnd, a, b)), put(opOr, put(opNot, a), put(opNot, b)))
		mustSameRun(t, cols, row, put(opNot, put(opOr, a, b)), put(opAnd, put(opNot, a), put(opNot, b)))
		mustSameRun(t, cols, row, put(opAnd, a, b), put(opAnd, b, a))
		mustSameRun(t, cols, row, put(opOr, a, b), put(opOr, b, a))
		count["two"]++
	})
	for _, each := range []string{"true", "false", "null", "two"} {
		if count[each] < 500 {
			t.Error(count)
		}
	}
	texts := []string{"true", "false", "null"}
	for i, a := range texts {
		for j, b := range texts {
			and, _ := mustRun(t, someCols(), someSeenRows()[0], exprOf(a+" and "+b))
			or, _ := mustRun(t, someCols(), someSeenRows()[0], exprOf(a+" or "+b))
			if impl.ValuePut(and) != [][]string{{"true", "false", "null"}, {"false", "false", "false"}, {"null", "false", "null"}}[i][j] {
				t.Error(a, b, and)
			}
			if impl.ValuePut(or) != [][]string{{"true", "true", "true"}, {"true", "false", "null"}, {"true", "null", "null"}}[i][j] {
				t.Error(a, b, or)
			}
		}
	}
}

func TestP102WhatIsLessIsWhatTheOtherIsMoreThan(t *testing.T) {
	values := fewValues()
	for _, s := range slices.Concat(kindValues...) {
		values = append(values, valueOf(s))
	}
	cols, row := someCols(), someSeenRows()[0]
	for _, a := range values {
		for _, b := range values {
			x, y := []impl.Part{{Op: opVal, Val: a}}, []impl.Part{{Op: opVal, Val: b}}
			mustSameRun(t, cols, row, put(opLt, x, y), put(opGt, y, x))
			mustSameRun(t, cols, row, put(opLe, x, y), put(opGe, y, x))
			mustSameRun(t, cols, row, put(opEq, x, y), put(opEq, y, x))
			mustSameRun(t, cols, row, put(opNe, x, y), put(opNe, y, x))
			trues, nones, codes := 0, 0, 0
			for _, op := range []int{opLt, opEq, opGt} {
				v, code := impl.ExprRun(cols, row, put(op, x, y))
				if v.Yes {
					trues++
				}
				if code != 0 {
					codes++
				} else if v.Kind == 0 {
					nones++
				}
			}
			want := []int{1, 0, 0}
			switch {
			case a.Kind == 0 || b.Kind == 0:
				want = []int{0, 3, 0}
			case a.Kind != b.Kind:
				want = []int{0, 0, 3}
			}
			if !slices.Equal([]int{trues, nones, codes}, want) {
				t.Fatal(a, b, trues, nones, codes)
			}
		}
	}
}

func TestP103WhatLacksAValue(t *testing.T) {
	cols, row := someCols(), someSeenRows()[2]
	for _, c := range cols {
		x := []impl.Part{{Op: opCol, Col: c.Name}}
		for _, text := range slices.Concat(kindValues...) {
			v := []impl.Part{{Op: opVal, Val: valueOf(text)}}
			for op := opAdd; op <= opGe; op++ {
				for _, e := range [][]impl.Part{put(op, x, v), put(op, v, x), put(op, x, x), put(op, exprOf("null"), v), put(op, v, exprOf("null"))} {
					got, code := mustRun(t, cols, row, e)
					if code != 0 && code != 3 || !noValue(got) {
						t.Fatal(impl.ExprPut(e), got, code)
					}
					if _, again := impl.ExprRun(cols, row, put(opNull, e)); again != code {
						t.Fatal(impl.ExprPut(e), again)
					}
				}
			}
		}
		if v, code := mustRun(t, cols, row, put(opNull, x)); code != 0 || !v.Yes {
			t.Error(c, v, code)
		}
		if v, code := mustRun(t, cols, someSeenRows()[0], put(opNull, x)); code != 0 || v.Yes || v.Kind != 1 {
			t.Error(c, v, code)
		}
	}
	asked := map[bool]int{}
	madeExprs(109, 6000, func(source *rand.Rand, e []impl.Part) {
		row := someSeenRows()[source.Intn(4)]
		v, code := impl.ExprRun(cols, row, e)
		if len(e) == 16 || code != 0 {
			return
		}
		asked[v.Kind == 0]++
		if is, code := mustRun(t, cols, row, put(opNull, e)); code != 0 || is.Kind != 1 || is.Yes != (v.Kind == 0) {
			t.Fatal(impl.ExprPut(e), v, is)
		}
	})
	if asked[true] < 500 || asked[false] < 500 {
		t.Error(asked)
	}
}
