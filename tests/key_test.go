package tests

import (
	"math/big"
	"math/rand"
	"strings"
	"testing"

	"loop.example/jetton/impl"
)

// threeBytes is a number, the highest byte first.
func threeBytes(n int) []byte {
	return []byte{byte(n / 65536), byte(n / 256 % 256), byte(n % 256)}
}

// flipped is each byte 255 less it.
func flipped(list []byte) []byte {
	out := make([]byte, len(list))
	for i, b := range list {
		out[i] = 255 - b
	}
	return out
}

// wantNumberKey is the key of a decimal, behind the byte of its kind.
func wantNumberKey(d impl.Dec) []byte {
	least := leastValue(numValue(d)).Num
	n := intOf(least.Num)
	if n.Sign() == 0 {
		return []byte{128}
	}
	figures := new(big.Int).Abs(n).String()
	body := []byte{byte(64 + len(figures) - least.Scale)}
	for _, f := range strings.TrimRight(figures, "0") {
		body = append(body, byte(f-'0'+1))
	}
	body = append(body, 0)
	if n.Sign() < 0 {
		return append([]byte{127}, flipped(body)...)
	}
	return append([]byte{129}, body...)
}

// wantKey is the key of a value that is ok.
func wantKey(v impl.Value, down bool) string {
	key := []byte{byte(v.Kind + 1)}
	switch v.Kind {
	case 1:
		key = append(key, map[bool]byte{false: 0, true: 1}[v.Yes])
	case 2:
		key = append(key, wantNumberKey(v.Num)...)
	case 3:
		key = append(key, threeBytes(v.Day)...)
	case 4:
		key = append(key, threeBytes(v.Span.Months+120000)...)
		key = append(key, threeBytes(v.Span.Days+4000000)...)
	case 5:
		key = append(key, v.Text+"\x00"...)
	}
	if down {
		key = flipped(key)
	}
	return string(key)
}

var bothWays = []bool{false, true}

// behinds is what may stand behind a key.
var behinds = []string{"", "\x00", "\x01", "\x80", "\xfe", "\xff", "\x00\xff", "\xff\x00", "a", strings.Repeat("\x05", 50), strings.Repeat("\xff", 50)}

func TestP45KeysAreReadBack(t *testing.T) {
	if impl.KeyCols != 2 {
		t.Error(impl.KeyCols)
	}
	for _, down := range bothWays {
		for _, v := range someValues() {
			key := impl.KeyPut(v, down)
			if key != wantKey(v, down) {
				t.Fatalf("%v %v: %q, want %q", v, down, key, wantKey(v, down))
			}
			for _, more := range behinds {
				back, n, ok := impl.KeyGet(key+more, down)
				mustValue(t, key+more, back, ok, leastValue(v), true)
				if n != len(key) {
					t.Fatalf("%v %q: %d bytes, want %d", v, more, n, len(key))
				}
			}
		}
		for _, v := range badValues() {
			if key := impl.KeyPut(v, down); key != "" {
				t.Errorf("%v: %q", v, key)
			}
		}
	}
}

func TestP46KeysAreInTheOrderOfValues(t *testing.T) {
	list := someValues()
	ups, downs := make([]string, len(list)), make([]string, len(list))
	for i, v := range list {
		ups[i], downs[i] = impl.KeyPut(v, false), impl.KeyPut(v, true)
	}
	for i, a := range list {
		for j, b := range list {
			order := wantOrder(a, b)
			if strings.Compare(ups[i], ups[j]) != order || strings.Compare(downs[i], downs[j]) != -order || impl.ValueOrder(a, b) != order {
				t.Fatalf("%v %v: %q %q, order %d", a, b, ups[i], ups[j], order)
			}
		}
	}
}

func TestP47NoKeyBeginsAnother(t *testing.T) {
	list := someValues()
	for _, down := range bothWays {
		for _, a := range list {
			for _, b := range list {
				x, y := impl.KeyPut(a, down), impl.KeyPut(b, down)
				if strings.HasPrefix(x, y) && (x != y || wantOrder(a, b) != 0) {
					t.Fatalf("%v %v: %q %q", a, b, x, y)
				}
			}
		}
	}
}

func mustKeyGet(t *testing.T, s string, down bool) {
	t.Helper()
	v, n, ok := impl.KeyGet(s, down)
	if !ok {
		if !noValue(v) || n != 0 {
			t.Fatalf("KeyGet %q: %v %d beside false", s, v, n)
		}
		return
	}
	if !impl.ValueOk(v) || !sameValue(v, leastValue(v)) || n < 1 || n > len(s) || wantKey(v, down) != s[:n] || impl.KeyPut(v, down) != s[:n] {
		t.Fatalf("KeyGet %q: %v %d, written %q", s, v, n, impl.KeyPut(v, down))
	}
}

func TestP48WhatIsReadOfAKeyIsWrittenSo(t *testing.T) {
	alphabet := ""
	for b := range 256 {
		alphabet += string([]byte{byte(b)})
	}
	for _, v := range append(fewValues(), numValue(decFrom("-123456789012345678901234567890", 7)), numValue(decFrom("90909090909090909090909090909", 12)), textValue("twelve bytes")) {
		eachBeside(impl.KeyPut(v, false), alphabet, func(s string) { mustKeyGet(t, s, false) })
		eachBeside(impl.KeyPut(v, true), alphabet, func(s string) { mustKeyGet(t, s, true) })
	}
	eachText("\x00\x01\x02\x03\x06\x07\x0a\x0b\x40\x41\x7f\x80\x81", 5, func(s string) { mustKeyGet(t, s, false) })
	eachText("\xff\xfe\xfd\xfc\xf9\xf8\xf5\xf4\xbf\xbe\x80\x7f\x7e", 5, func(s string) { mustKeyGet(t, s, true) })
	source := rand.New(rand.NewSource(3))
	for range 200000 {
		s := make([]byte, source.Intn(20))
		for i := range s {
			s[i] = byte(source.Intn(256))
		}
		if len(s) > 0 && source.Intn(2) == 0 {
			s[0] = byte(source.Intn(8))
		}
		mustKeyGet(t, string(s), source.Intn(2) == 0)
	}
}

func TestP48TextsThatBeginWithNoKey(t *testing.T) {
	ones := strings.Repeat("\x02", 30)
	bad := []string{
		"", "\x00", "\x07", "\xff", "\x02", "\x02\x02", "\x02\xff", "\x03", "\x03\x00", "\x03\x7e\x41\x02\x00", "\x03\x82\x41\x02\x00",
		"\x03\x81", "\x03\x81\x41", "\x03\x81\x41\x00", "\x03\x81\x41\x02", "\x03\x81\x41\x01\x00", "\x03\x81\x41\x02\x01\x00", "\x03\x81\x41\x01\x02\x00", "\x03\x81\x41\x0b\x00", "\x03\x81\x41\x02\x0b\x00", "\x03\x81\x41\xff\x00",
		"\x03\x7f\xbe\xfd", "\x03\x7f\xbe\xff", "\x03\x7f\xbe\xfe\xff", "\x03\x7f\xbe\xfd\xfe\xff", "\x03\x7f\x41\x02\x00",
		"\x03\x81\x34\x02\x00", "\x03\x81\x35\x02\x02\x00", "\x03\x81\x5f\x02\x00", "\x03\x81\xff\x02\x00", "\x03\x81\x00\x02\x00", "\x03\x81\x5e" + ones + "\x02\x00", "\x03\x81\x40" + ones + "\x00", "\x03\x81\x51" + ones + "\x00", "\x03\x81\x5e" + strings.Repeat("\x02", 1000),
		"\x04", "\x04\x00\x01", "\x04\x00\x00\x00", "\x04\x37\xb9\xdc", "\x04\xff\xff\xff", "\x05\x00\x00\x00\x00\x00", "\x05\x03\xa9\x81\x00\x00\x00", "\x05\x00\x00\x00\x7a\x12\x01", "\x05\xff\xff\xff\xff\xff\xff",
		"\x06", "\x06a", "\x06\x1f\x00", "\x06\x7f\x00", "\x06\xff\x00", "\x06a\x80\x00", "\x06aaaaaaaaaaaaa\x00", "\x06" + strings.Repeat("a", 1000), "\x06" + strings.Repeat("a", 1000) + "\x00",
	}
	for _, s := range bad {
		v, n, ok := impl.KeyGet(s, false)
		w, m, turnedOk := impl.KeyGet(string(flipped([]byte(s))), true)
		if ok || n != 0 || !noValue(v) || turnedOk || m != 0 || !noValue(w) {
			t.Errorf("%q: %v %d %v, %v %d %v", s, v, n, ok, w, m, turnedOk)
		}
	}
	good := []string{"\x01", "\x02\x00", "\x02\x01", "\x03\x80", "\x03\x81\x35\x02\x00", "\x03\x81\x5e\x02\x00", "\x03\x81\x5e" + ones + "\x00", "\x03\x81\x52" + ones + "\x00", "\x04\x00\x00\x01", "\x04\x37\xb9\xdb", "\x05\x00\x00\x00\x00\x00\x00", "\x05\x03\xa9\x80\x7a\x12\x00", "\x06\x00", "\x06twelve bytes\x00"}
	for _, s := range good {
		if _, n, ok := impl.KeyGet(s, false); !ok || n != len(s) {
			t.Errorf("%q: %d %v", s, n, ok)
		}
	}
}

// eachWays calls with each list of at most n ways.
func eachWays(n int, call func(downs []bool)) {
	call(nil)
	for i := 1; i <= n; i++ {
		for bits := range 1 << i {
			downs := make([]bool, i)
			for j := range downs {
				downs[j] = bits>>j&1 == 1
			}
			call(downs)
		}
	}
}

// keyRows is rows of at most two values.
func keyRows() [][]impl.Value {
	rows := [][]impl.Value{nil}
	few := fewValues()
	for _, a := range few {
		rows = append(rows, []impl.Value{a})
		for _, b := range few {
			rows = append(rows, []impl.Value{a, b})
		}
	}
	return rows
}

func leastRow(row []impl.Value) []impl.Value {
	var least []impl.Value
	for _, v := range row {
		least = append(least, leastValue(v))
	}
	return least
}

func mustKeyRead(t *testing.T, s string, downs []bool, want []impl.Value, wantOk bool) {
	t.Helper()
	row, ok := impl.KeyRead(s, downs)
	if ok != wantOk || !sameRow(row, want) {
		t.Fatalf("KeyRead %q %v: %v %v, want %v %v", s, downs, row, ok, want, wantOk)
	}
}

func TestP49KeysOfRowsAreReadBack(t *testing.T) {
	eachWays(2, func(downs []bool) {
		for _, row := range keyRows() {
			if len(row) != len(downs) {
				if key := impl.KeyAll(row, downs); key != "" {
					t.Fatalf("%v %v: %q", row, downs, key)
				}
				continue
			}
			want := ""
			for i, v := range row {
				want += wantKey(v, downs[i])
			}
			key := impl.KeyAll(row, downs)
			if key != want {
				t.Fatalf("%v %v: %q, want %q", row, downs, key, want)
			}
			mustKeyRead(t, key, downs, leastRow(row), true)
			for _, more := range []string{"\x00", "\x01", "\x80", "\xfe", "\xff"} {
				mustKeyRead(t, key+more, downs, nil, false)
			}
			if key != "" {
				mustKeyRead(t, key[:len(key)-1], downs, nil, false)
			}
		}
	})
}

func TestP49KeysThatAreNone(t *testing.T) {
	none := impl.Value{}
	if key := impl.KeyAll([]impl.Value{none, none, none}, []bool{false, false, false}); key != "" {
		t.Errorf("%q", key)
	}
	mustKeyRead(t, "\x01\x01\x01", []bool{false, false, false}, nil, false)
	mustKeyRead(t, "", []bool{false, false, false}, nil, false)
	mustKeyRead(t, "", []bool{false}, nil, false)
	mustKeyRead(t, "\x01", nil, nil, false)
	mustKeyRead(t, "\x01", []bool{false, false}, nil, false)
	mustKeyRead(t, "\x01\x01", []bool{false}, nil, false)
	mustKeyRead(t, "\x01\x01", []bool{false, true}, nil, false)
	mustKeyRead(t, "\x01\xfe", []bool{false, true}, []impl.Value{none, none}, true)
	mustKeyRead(t, "", nil, nil, true)
	mustKeyRead(t, "", []bool{}, nil, true)
	for _, v := range badValues() {
		for _, row := range [][]impl.Value{{v}, {v, none}, {none, v}, {v, v}, {none, none, v}} {
			if key := impl.KeyAll(row, make([]bool, len(row))); key != "" {
				t.Fatalf("%v: %q", row, key)
			}
		}
	}
}

func TestP50WhatIsReadOfKeysIsWrittenSo(t *testing.T) {
	must := func(s string, downs []bool) {
		row, ok := impl.KeyRead(s, downs)
		if ok && (len(row) != len(downs) || impl.KeyAll(row, downs) != s || !sameRow(row, leastRow(row))) || !ok && len(row) > 0 {
			t.Fatalf("KeyRead %q %v: %v %v", s, downs, row, ok)
		}
	}
	for _, row := range [][]impl.Value{{numValue(decFrom("-150", 2)), textValue("a")}, {boolValue(true), dayValue(500)}, {spanValue(1, -1)}, {{}, {}}} {
		eachWays(2, func(downs []bool) {
			key := ""
			for i, v := range row[:min(len(row), len(downs))] {
				key += wantKey(v, downs[i])
			}
			eachBeside(key, "\x00\x01\x02\x03\x06\x40\x7f\x80\x81\xbf\xfc\xfd\xfe\xff", func(s string) { must(s, downs) })
		})
	}
	eachWays(3, func(downs []bool) {
		eachText("\x00\x01\x02\xfd\xfe\xff", 4, func(s string) { must(s, downs) })
	})
}

// wantRows compares two rows at places.
func wantRows(a, b []impl.Value, cols []int, downs []bool) int {
	for i, col := range cols {
		order := wantOrder(a[col], b[col])
		if downs[i] {
			order = -order
		}
		if order != 0 {
			return order
		}
	}
	return 0
}

func TestP51KeysOfRowsAreInTheirOrder(t *testing.T) {
	source := rand.New(rand.NewSource(4))
	few, all := fewValues(), someValues()
	for i := range 60000 {
		list := few
		if i%3 == 0 {
			list = all
		}
		n := 1 + source.Intn(4)
		a, b := make([]impl.Value, n), make([]impl.Value, n)
		for j := range a {
			a[j], b[j] = list[source.Intn(len(list))], list[source.Intn(len(list))]
			if source.Intn(2) == 0 {
				b[j] = a[j]
			}
		}
		places := source.Intn(3)
		cols, downs := make([]int, places), make([]bool, places)
		var x, y []impl.Value
		for j := range cols {
			cols[j], downs[j] = source.Intn(n), source.Intn(2) == 0
			x, y = append(x, a[cols[j]]), append(y, b[cols[j]])
		}
		order := impl.RowOrder(a, b, cols, downs)
		keys := strings.Compare(impl.KeyAll(x, downs), impl.KeyAll(y, downs))
		if order != wantRows(a, b, cols, downs) || order != keys || impl.RowOrder(b, a, cols, downs) != -order {
			t.Fatal(a, b, cols, downs, order, keys)
		}
	}
}

func TestP52AllThatBeginsSoIsBelow(t *testing.T) {
	var list []string
	eachText("\x00\x01a\xfe\xff", 4, func(s string) { list = append(list, s) })
	for _, s := range list {
		above := impl.KeyAbove(s)
		for _, x := range list {
			between := x >= s && (above == "" || x < above)
			if between != strings.HasPrefix(x, s) {
				t.Fatalf("%q %q: above %q", s, x, above)
			}
		}
	}
	rows := map[string]string{"": "", "\xff": "", "\xff\xff\xff": "", "a": "b", "a\xff": "b", "a\xff\xff": "b", "\x00": "\x01", "\xfe": "\xff", "\xfe\xff": "\xff", "a\xfe": "a\xff", "\xff\x00": "\xff\x01", "\xff\x00\xff": "\xff\x01", "a\x00": "a\x01", strings.Repeat("a", 500) + "\xff": strings.Repeat("a", 499) + "b"}
	for s, want := range rows {
		if above := impl.KeyAbove(s); above != want {
			t.Errorf("%q: %q, want %q", s, above, want)
		}
	}
}
