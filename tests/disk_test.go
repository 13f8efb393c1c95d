package tests

import (
	"math"
	"math/rand"
	"slices"
	"strings"
	"testing"

	"loop.example/jetton/impl"
)

func TestDisksThatAreOk(t *testing.T) {
	if impl.DiskCells != 42 || impl.CellMax != 1200 || impl.WaitMax != 100 || impl.DiskForever != -1 {
		t.Error(impl.DiskCells, impl.CellMax, impl.WaitMax, impl.DiskForever)
	}
	mustDisk(t, impl.DiskNew(), emptyDisk(), "new")
	for _, d := range someDisks() {
		if !impl.DiskOk(d) {
			t.Fatalf("%.2000v", d)
		}
	}
	for _, n := range []int{-1, 0, 1, 2, 1 << 40, math.MaxInt} {
		if !impl.DiskOk(withEnds(emptyDisk(), n, -1)) || !impl.DiskOk(withEnds(emptyDisk(), -1, n)) {
			t.Error(n)
		}
	}
	longest := strings.Repeat("x", 1200)
	if !impl.DiskOk(withCell(emptyDisk(), 41, longest)) || !impl.DiskOk(withWaits(emptyDisk(), impl.Wait{At: 41, Text: longest})) {
		t.Error("the longest text of a cell is refused")
	}
}

func TestDisksThatAreNotOk(t *testing.T) {
	for _, d := range badDisks() {
		if impl.DiskOk(d) {
			t.Fatalf("%.2000v", d)
		}
		for _, at := range []int{-1, 0, 3, 41, 42} {
			if text := impl.DiskRead(d, at); text != "" {
				t.Errorf("%d: %q of %.2000v", at, text, d)
			}
			x, took := impl.DiskWrite(d, at, "a")
			if took || !noDisk(x) {
				t.Errorf("%d: %v %.2000v of %.2000v", at, took, x, d)
			}
		}
		for _, x := range []impl.Disk{impl.DiskSync(d), impl.DiskCrash(d, 0, -1, 0), impl.DiskCrash(d, 3, 0, 1), impl.DiskSet(d, -1, -1), impl.DiskSet(d, 0, 5)} {
			if !noDisk(x) {
				t.Errorf("%.2000v of %.2000v", x, d)
			}
		}
	}
	// A disk that does nothing any more must be ok, too.
	if x, took := impl.DiskWrite(impl.Disk{}, 0, ""); took || !noDisk(x) {
		t.Error(x, took)
	}
}

func TestP55WhatWasWrittenLastIsRead(t *testing.T) {
	for _, d := range someDisks() {
		before := wantTexts(d)
		for i, text := range append(slices.Clone(cellTexts), strings.Repeat("r", 1201), strings.Repeat("r", 5000)) {
			for _, at := range []int{0, 1, 2, 5, 21, 22, 40, 41, i} {
				x := mustWrite(t, d, at, text)
				_, took := wantWrite(d, at, text)
				for other := range 42 {
					want := before[other]
					if other == at && took && d.Left != 0 {
						want = text
					}
					if got := impl.DiskRead(x, other); got != want {
						t.Fatalf("%d of %d: %.50q, want %.50q; %.2000v", other, at, got, want, d)
					}
				}
			}
		}
	}
}

func TestP55TheLastOfManyIsRead(t *testing.T) {
	d := emptyDisk()
	d.Cells[7] = "safe"
	for _, text := range []string{"one", "two", "", "three", "", "four"} {
		d = mustWrite(t, d, 7, text)
		d = mustWrite(t, d, 8, "beside "+text)
		if got := impl.DiskRead(d, 7); got != text {
			t.Errorf("%q, want %q", got, text)
		}
	}
	if d.Cells[7] != "safe" || len(d.Waits) != 12 || d.Waits[10] != (impl.Wait{At: 7, Text: "four"}) || d.Room != -1 || d.Left != -1 {
		t.Error(d)
	}
}

func TestP55CellsThatAreNone(t *testing.T) {
	for _, d := range someDisks() {
		for _, at := range badCells {
			if text := impl.DiskRead(d, at); text != "" {
				t.Errorf("%d: %q", at, text)
			}
			x, took := impl.DiskWrite(d, at, "a")
			if took != (d.Left == 0) {
				t.Errorf("%d: %v, Left %d", at, took, d.Left)
			}
			mustDisk(t, x, d, "as it was", at)
		}
	}
}

func TestP55WhatIsTooMuchIsRefused(t *testing.T) {
	d := emptyDisk()
	for n := range 100 {
		d = mustWrite(t, d, n%42, "text")
		if len(d.Waits) != n+1 {
			t.Fatal(n, len(d.Waits))
		}
	}
	x, took := impl.DiskWrite(d, 1, "a")
	if took || !sameDisk(x, d) {
		t.Error("more waits than there may be", took, len(x.Waits))
	}
	for _, n := range []int{1201, 1202, 100000} {
		x, took := impl.DiskWrite(emptyDisk(), 1, strings.Repeat("a", n))
		if took || !sameDisk(x, emptyDisk()) {
			t.Error(n, took)
		}
	}
	x, took = impl.DiskWrite(emptyDisk(), 1, strings.Repeat("a", 1200))
	if !took || len(x.Waits) != 1 {
		t.Error("the longest text of a cell is refused")
	}
}

// Where it stopped, all is as it was, and said to be taken, whatever is written.
func TestP55WithNothingLeftAllIsAsItWas(t *testing.T) {
	for _, d := range someDisks() {
		d.Left = 0
		for _, at := range append([]int{0, 1, 41}, badCells...) {
			for _, text := range []string{"", "a", strings.Repeat("a", 1200), strings.Repeat("a", 1201)} {
				x, took := impl.DiskWrite(d, at, text)
				if !took || !sameDisk(x, d) {
					t.Fatalf("%d %.50q: %v %.2000v, want %.2000v", at, text, took, x, d)
				}
			}
		}
	}
}

func TestP56WhatIsSafeStays(t *testing.T) {
	source := rand.New(rand.NewSource(56))
	for _, d := range someDisks() {
		x := impl.DiskSync(d)
		mustDisk(t, x, wantSync(d), "sync", d)
		if d.Left == 0 {
			continue
		}
		if len(x.Waits) != 0 {
			t.Fatal(len(x.Waits), "wait")
		}
		for at := range 42 {
			if x.Cells[at] != impl.DiskRead(d, at) {
				t.Fatal(at, x.Cells[at], impl.DiskRead(d, at))
			}
		}
		for range 20 {
			y := impl.DiskCrash(x, source.Intn(1<<60), source.Intn(9)-2, source.Intn(1300)-2)
			mustDisk(t, y, withEnds(x, -1, -1), "crash of what is safe")
		}
	}
}

// crashes is masks, tears and bytes for a disk.
func crashes(source *rand.Rand, waits int, n int, call func(mask, tear, bytes int)) {
	masks := []int{0, 1, 2, 3, 1 << 59, allBits, allBits - 1, 1 << 60, 1 << 61, 1 << 62, math.MaxInt, math.MaxInt - allBits}
	bytes := []int{-1, 0, 1, 2, 5, 1099, 1100, 1199, 1200, 1201, math.MinInt, math.MaxInt}
	tears := []int{-1, 0, waits - 1, waits, math.MinInt, math.MaxInt, 60, 61}
	for range n {
		mask, tear, some := masks[source.Intn(len(masks))], tears[source.Intn(len(tears))], bytes[source.Intn(len(bytes))]
		if source.Intn(2) == 0 {
			mask = source.Int()
		}
		if source.Intn(2) == 0 {
			tear = source.Intn(waits + 1)
		}
		call(mask, tear, some)
	}
}

// texted says whether a cell had a text, or it waited for it.
func texted(d impl.Disk, at int, text string) bool {
	return text == d.Cells[at] || slices.Contains(d.Waits, impl.Wait{At: at, Text: text})
}

func TestP57WhatWasNotSafeIsThereOrNotOrInPart(t *testing.T) {
	source := rand.New(rand.NewSource(57))
	for _, d := range someDisks() {
		crashes(source, len(d.Waits), 200, func(mask, tear, bytes int) {
			x := impl.DiskCrash(d, mask, tear, bytes)
			mustDisk(t, x, wantCrash(d, mask, tear, bytes), mask, tear, bytes, d)
			if !impl.DiskOk(x) {
				t.Fatal("not ok")
			}
			for at, text := range x.Cells {
				isTorn := tear >= 0 && tear < len(d.Waits) && d.Waits[tear].At == at && mask>>(tear%60)&1 == 0
				if !texted(d, at, text) && !isTorn {
					t.Fatalf("cell %d: %.50q, mask %d, tear %d", at, text, mask, tear)
				}
			}
		})
		for _, tear := range []int{-1, math.MinInt, len(d.Waits), math.MaxInt} {
			mustDisk(t, impl.DiskCrash(d, 0, tear, 3), impl.Disk{Cells: d.Cells, Room: -1, Left: -1}, "no mask, no tear")
			mustDisk(t, impl.DiskCrash(d, allBits, tear, 3), impl.Disk{Cells: wantTexts(d), Room: -1, Left: -1}, "all bits")
		}
		mustDisk(t, impl.DiskCrash(d, allBits, 0, 3), impl.Disk{Cells: wantTexts(d), Room: -1, Left: -1}, "all bits, a tear")
	}
}

func TestP57WhatIsTorn(t *testing.T) {
	d := withWaits(withCell(emptyDisk(), 5, "abcdef"), impl.Wait{At: 5, Text: "XYZ"})
	want := map[int]string{math.MinInt: "abcdef", -1: "abcdef", 0: "abcdef", 1: "Xbcdef", 2: "XYcdef", 3: "XYcdef", 4: "XYcdef", 9: "XYcdef", math.MaxInt: "XYcdef"}
	for bytes, text := range want {
		if got := impl.DiskCrash(d, 0, 0, bytes).Cells[5]; got != text {
			t.Errorf("%d bytes: %q, want %q", bytes, got, text)
		}
		if got := impl.DiskCrash(d, 1, 0, bytes).Cells[5]; got != "XYZ" {
			t.Errorf("%d bytes, its bit set: %q", bytes, got)
		}
		if got := impl.DiskCrash(d, 0, 1, bytes).Cells[5]; got != "abcdef" {
			t.Errorf("%d bytes of another place: %q", bytes, got)
		}
	}
	long := withWaits(withCell(emptyDisk(), 5, "ab"), impl.Wait{At: 5, Text: "UVWXYZ"})
	for bytes, text := range map[int]string{0: "ab", 1: "Ub", 2: "UV", 3: "UVW", 5: "UVWXY", 6: "UVWXY", 7: "UVWXY"} {
		if got := impl.DiskCrash(long, 0, 0, bytes).Cells[5]; got != text {
			t.Errorf("%d bytes over less: %q, want %q", bytes, got, text)
		}
	}
	for _, text := range []string{"", "Q"} {
		short := withWaits(withCell(emptyDisk(), 5, "ab"), impl.Wait{At: 5, Text: text})
		if got := impl.DiskCrash(short, 0, 0, 9).Cells[5]; got != "ab" {
			t.Errorf("%q torn: %q", text, got)
		}
	}
}

// One by one: what is torn lies over what came ahead of it, and under what comes behind it.
func TestP57WhatIsTornAmongOthers(t *testing.T) {
	d := withWaits(withCell(emptyDisk(), 5, "abcdef"), impl.Wait{At: 5, Text: "123456789"}, impl.Wait{At: 5, Text: "XYZ"}, impl.Wait{At: 5, Text: "-"})
	for _, x := range []struct {
		mask, tear int
		want       string
	}{{0, 1, "XYcdef"}, {1, 1, "XY3456789"}, {4, 1, "-"}, {2, 0, "XYZ"}, {3, 1, "XYZ"}, {1, 2, "123456789"}, {0, 0, "12cdef"}, {5, 0, "-"}, {7, -1, "-"}} {
		if got := impl.DiskCrash(d, x.mask, x.tear, 2).Cells[5]; got != x.want {
			t.Errorf("mask %d, tear %d: %q, want %q", x.mask, x.tear, got, x.want)
		}
	}
}

func TestP57BitsComeRound(t *testing.T) {
	for _, waits := range []int{60, 61, 62, 100} {
		for bit := range 63 {
			d := emptyDisk()
			for n := range waits {
				d.Waits = append(d.Waits, impl.Wait{At: n % 42, Text: string(rune('0' + n))})
			}
			want := emptyDisk()
			for n := range waits {
				if n == bit && n < 60 || n == bit+60 {
					want.Cells[n%42] = string(rune('0' + n))
				}
			}
			mustDisk(t, impl.DiskCrash(d, 1<<bit, -1, 0), want, waits, "waits, bit", bit)
		}
	}
	// The 61st goes by the lowest bit, also where it is torn.
	d := withCell(emptyDisk(), 1, "old")
	d.Waits = make([]impl.Wait, 60, 61)
	d.Waits = append(d.Waits, impl.Wait{At: 1, Text: "new"})
	if a, b := impl.DiskCrash(d, 1<<60, 60, 1).Cells[1], impl.DiskCrash(d, 1, 60, 1).Cells[1]; a != "nld" || b != "new" {
		t.Error(a, b)
	}
}

func TestP57MasksBelowNothing(t *testing.T) {
	for _, d := range someDisks() {
		for _, mask := range []int{-1, -2, -1 << 60, math.MinInt, math.MinInt + 1} {
			if x := impl.DiskCrash(d, mask, 0, 1); !noDisk(x) {
				t.Error(mask, x)
			}
		}
	}
}

func TestP58ADiskThatStoppedDoesNothing(t *testing.T) {
	source := rand.New(rand.NewSource(58))
	for left := range 30 {
		d := impl.DiskSet(emptyDisk(), -1, left)
		for n := range left + 5 {
			var x impl.Disk
			took := true
			if source.Intn(3) == 0 {
				x = impl.DiskSync(d)
				mustDisk(t, x, wantSync(d), "sync", n)
			} else {
				text := cellTexts[source.Intn(len(cellTexts))]
				x, took = impl.DiskWrite(d, source.Intn(42), text)
			}
			if !took || x.Left != max(0, left-n-1) || x.Room != -1 {
				t.Fatal(left, n, took, x.Left, x.Room)
			}
			if n >= left && !sameDisk(x, d) {
				t.Fatal(left, n, "goes on")
			}
			d = x
		}
	}
}

func TestP58SoManySyncsAndNoMore(t *testing.T) {
	for _, left := range []int{0, 1, 2, 5} {
		d := withEnds(withWaits(emptyDisk(), impl.Wait{At: 3, Text: "a"}), 4, left)
		for range left {
			d = impl.DiskSync(d)
		}
		x, took := impl.DiskWrite(d, 9, "b")
		if d.Left != 0 || d.Room != 4 || !took || !sameDisk(x, d) || !sameDisk(impl.DiskSync(d), d) || (d.Cells[3] == "a") != (left > 0) {
			t.Error(left, d)
		}
	}
}

func TestP59AsManyWritesAsThereIsRoom(t *testing.T) {
	for _, room := range []int{0, 1, 2, 3, 42, 99, 100} {
		d := impl.DiskSet(emptyDisk(), room, -1)
		for n := range room {
			x, took := impl.DiskWrite(d, n%42, "text")
			if !took || x.Room != room-n-1 || x.Left != -1 || len(x.Waits) != n+1 {
				t.Fatal(room, n, took, x.Room, len(x.Waits))
			}
			d = x
		}
		for range 3 {
			x, took := impl.DiskWrite(d, 1, "text")
			if took || !sameDisk(x, d) {
				t.Fatal(room, "one more is taken")
			}
		}
		// What is safe gives no room back.
		d = impl.DiskSync(d)
		x, took := impl.DiskWrite(d, 1, "text")
		if took || !sameDisk(x, d) || d.Room != 0 {
			t.Fatal(room, "one more is taken behind what is safe")
		}
	}
}

func TestP59WithoutEndThereIsRoom(t *testing.T) {
	d := emptyDisk()
	for n := range 500 {
		x, took := impl.DiskWrite(d, n%42, "text")
		if !took || x.Room != -1 || x.Left != -1 {
			t.Fatal(n, took, x.Room, x.Left)
		}
		d = impl.DiskSync(x)
	}
	// What is refused costs neither room nor an act.
	for _, at := range badCells {
		x, took := impl.DiskWrite(withEnds(emptyDisk(), 3, 4), at, "")
		if took || x.Room != 3 || x.Left != 4 {
			t.Error(at, took, x.Room, x.Left)
		}
	}
	x, took := impl.DiskWrite(withEnds(emptyDisk(), 3, 4), 41, "")
	if !took || x.Room != 2 || x.Left != 3 {
		t.Error(took, x.Room, x.Left)
	}
}

func TestP59EndsThatAreSet(t *testing.T) {
	ends := append([]int{-1, 0, 1, 2, 99, math.MaxInt}, badEnds...)
	for _, d := range someDisks() {
		for _, room := range ends {
			for _, left := range ends {
				want := withEnds(d, room, left)
				if room < -1 || left < -1 {
					want = impl.Disk{}
				}
				mustDisk(t, impl.DiskSet(d, room, left), want, room, left)
			}
		}
	}
}

func TestP60EitherOrderIsTheSame(t *testing.T) {
	source := rand.New(rand.NewSource(60))
	for _, d := range someDisks() {
		if len(d.Waits) > 98 {
			d.Waits = d.Waits[:98]
		}
		for range 30 {
			a, b := source.Intn(42), source.Intn(42)
			if a == b {
				continue
			}
			x, y := cellTexts[source.Intn(len(cellTexts))], cellTexts[source.Intn(len(cellTexts))]
			d := impl.DiskSet(d, -1, -1)
			one := impl.DiskSync(mustWrite(t, mustWrite(t, d, a, x), b, y))
			two := impl.DiskSync(mustWrite(t, mustWrite(t, d, b, y), a, x))
			mustDisk(t, one, two, a, b)
			if one.Cells[a] != x || one.Cells[b] != y {
				t.Fatal(a, b, one.Cells[a], one.Cells[b])
			}
		}
	}
}

// Acts one behind the other, held against the second disk at each.
func TestDisksOverLongWays(t *testing.T) {
	source := rand.New(rand.NewSource(5))
	for range 200 {
		d := madeDisk(source, source.Intn(101))
		for range 60 {
			switch source.Intn(12) {
			case 0, 1:
				x := impl.DiskSync(d)
				mustDisk(t, x, wantSync(d), "sync")
				d = x
			case 2:
				mask, tear, bytes := source.Intn(1<<60), source.Intn(len(d.Waits)+2)-1, source.Intn(9)-1
				x := impl.DiskCrash(d, mask, tear, bytes)
				mustDisk(t, x, wantCrash(d, mask, tear, bytes), "crash")
				d = x
			case 3:
				d = impl.DiskSet(d, source.Intn(40)-1, source.Intn(40)-1)
			default:
				d = mustWrite(t, d, source.Intn(44)-1, cellTexts[source.Intn(len(cellTexts))])
			}
			if at := source.Intn(44) - 1; impl.DiskRead(d, at) != wantText(d, at) {
				t.Fatal(at, impl.DiskRead(d, at), wantText(d, at))
			}
		}
	}
}
