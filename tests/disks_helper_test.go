package tests

import (
	"fmt"
	"math"
	"math/rand"
	"slices"
	"strings"
	"testing"

	"loop.example/jetton/impl"
)

// A second disk is the yardstick: it says by plain lists what the document says, and calls none of the program's functions.

func sameDisk(a, b impl.Disk) bool {
	return slices.Equal(a.Cells, b.Cells) && slices.Equal(a.Waits, b.Waits) && a.Room == b.Room && a.Left == b.Left
}

func noDisk(d impl.Disk) bool {
	return sameDisk(d, impl.Disk{})
}

// emptyDisk is a new disk.
func emptyDisk() impl.Disk {
	return impl.Disk{Cells: make([]string, 42), Room: -1, Left: -1}
}

// withCell is a disk of which one cell says something.
func withCell(d impl.Disk, at int, text string) impl.Disk {
	d.Cells = slices.Clone(d.Cells)
	d.Cells[at] = text
	return d
}

// withEnds is a disk with so much room and so many acts left.
func withEnds(d impl.Disk, room, left int) impl.Disk {
	d.Room, d.Left = room, left
	return d
}

// withWaits is a disk on which these wait.
func withWaits(d impl.Disk, waits ...impl.Wait) impl.Disk {
	d.Waits = waits
	return d
}

// wantText is what is read of a cell of a disk that is ok.
func wantText(d impl.Disk, at int) string {
	if at < 0 || at > 41 {
		return ""
	}
	text := d.Cells[at]
	for _, w := range d.Waits {
		if w.At == at {
			text = w.Text
		}
	}
	return text
}

// wantTexts is what is read of all cells.
func wantTexts(d impl.Disk) []string {
	var texts []string
	for at := range 42 {
		texts = append(texts, wantText(d, at))
	}
	return texts
}

// lower is one less of what is above 0.
func lower(n int) int {
	if n > 0 {
		return n - 1
	}
	return n
}

// wantWrite writes to a disk that is ok.
func wantWrite(d impl.Disk, at int, text string) (impl.Disk, bool) {
	if d.Left == 0 {
		return d, true
	}
	if at < 0 || at > 41 || len(text) > 1200 || d.Room == 0 || len(d.Waits) == 100 {
		return d, false
	}
	d.Waits = append(slices.Clone(d.Waits), impl.Wait{At: at, Text: text})
	d.Room, d.Left = lower(d.Room), lower(d.Left)
	return d, true
}

// wantSync makes safe what waits on a disk that is ok.
func wantSync(d impl.Disk) impl.Disk {
	if d.Left == 0 {
		return d
	}
	return impl.Disk{Cells: wantTexts(d), Room: d.Room, Left: lower(d.Left)}
}

// wantCrash is a disk that is ok behind a power cut, byte by byte.
func wantCrash(d impl.Disk, mask, tear, bytes int) impl.Disk {
	cells := slices.Clone(d.Cells)
	bits := fmt.Sprintf("%060b", mask)
	for place, w := range d.Waits {
		if bits[len(bits)-1-place%60] == '1' {
			cells[w.At] = w.Text
			continue
		}
		if place != tear {
			continue
		}
		cell := []byte(cells[w.At])
		for i := 0; i < bytes && i < len(w.Text)-1; i++ {
			if i == len(cell) {
				cell = append(cell, 0)
			}
			cell[i] = w.Text[i]
		}
		cells[w.At] = string(cell)
	}
	return impl.Disk{Cells: cells, Room: -1, Left: -1}
}

// allBits is a mask of which each bit is set that counts.
const allBits = 1<<60 - 1

// badEnds is no room, and no acts left.
var badEnds = []int{-2, -3, -100, math.MinInt, math.MinInt + 1, -1 << 62, -1 << 32}

// badCells is numbers of no cell.
var badCells = append([]int{-1, -2, 42, 43, 84, 100}, badInts...)

// cellTexts is texts of a cell, short and long, of the longest that there may be.
var cellTexts = []string{"", "a", "b", "XY", "abcdef", "\x00", "\xff\xfe", "H1.1;", strings.Repeat("q", 1100), strings.Repeat("w", 1199), strings.Repeat("e", 1200)}

// madeDisk is a disk that is ok, with so many waits.
func madeDisk(source *rand.Rand, waits int) impl.Disk {
	d := emptyDisk()
	for range source.Intn(60) {
		d.Cells[source.Intn(42)] = cellTexts[source.Intn(len(cellTexts))]
	}
	cells := 1 + source.Intn(42)
	for range waits {
		d.Waits = append(d.Waits, impl.Wait{At: source.Intn(cells), Text: cellTexts[source.Intn(len(cellTexts))]})
	}
	ends := []int{-1, -1, 0, 1, 2, 3, 7, 100, math.MaxInt}
	return withEnds(d, ends[source.Intn(len(ends))], ends[source.Intn(len(ends))])
}

// someDisks is disks that are ok; with none, one, some, and as many waits as there may be; the same ones at each run.
func someDisks() []impl.Disk {
	source := rand.New(rand.NewSource(7))
	list := []impl.Disk{emptyDisk()}
	for _, waits := range []int{0, 0, 0, 1, 1, 2, 2, 3, 5, 20, 59, 60, 61, 62, 98, 99, 99, 100, 100} {
		for range 6 {
			list = append(list, madeDisk(source, waits))
		}
	}
	return list
}

// badDisks is disks that are not ok, each in one way.
func badDisks() []impl.Disk {
	long := strings.Repeat("x", 1201)
	list := []impl.Disk{{}, {Room: -1, Left: -1}}
	for _, n := range []int{1, 41, 43, 84} {
		list = append(list, impl.Disk{Cells: make([]string, n), Room: -1, Left: -1})
	}
	for _, at := range []int{0, 1, 20, 41} {
		list = append(list, withCell(emptyDisk(), at, long), withWaits(emptyDisk(), impl.Wait{At: at, Text: long}))
	}
	for _, at := range badCells {
		list = append(list, withWaits(emptyDisk(), impl.Wait{At: at}), withWaits(emptyDisk(), impl.Wait{At: 3}, impl.Wait{At: at, Text: "a"}))
	}
	for _, n := range []int{101, 102, 200} {
		list = append(list, withWaits(emptyDisk(), make([]impl.Wait, n)...))
	}
	for _, n := range badEnds {
		list = append(list, withEnds(emptyDisk(), n, -1), withEnds(emptyDisk(), -1, n), withEnds(emptyDisk(), n, n))
	}
	return list
}

// wantDiskOk says whether a disk is ok.
func wantDiskOk(d impl.Disk) bool {
	ok := len(d.Cells) == 42 && len(d.Waits) <= 100 && d.Room >= -1 && d.Left >= -1
	for _, text := range d.Cells {
		ok = ok && len(text) <= 1200
	}
	for _, w := range d.Waits {
		ok = ok && w.At >= 0 && w.At <= 41 && len(w.Text) <= 1200
	}
	return ok
}

func mustDisk(t *testing.T, got, want impl.Disk, what ...any) {
	t.Helper()
	if !sameDisk(got, want) {
		t.Fatalf("%.300v: %.2000v, want %.2000v", what, got, want)
	}
}

func mustWrite(t *testing.T, d impl.Disk, at int, text string) impl.Disk {
	t.Helper()
	got, took := impl.DiskWrite(d, at, text)
	want, wantTook := wantWrite(d, at, text)
	if took != wantTook {
		t.Fatalf("cell %d, %.50q: %v, want %v; %.2000v", at, text, took, wantTook, d)
	}
	mustDisk(t, got, want, "cell", at, text)
	return got
}
