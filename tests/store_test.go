package tests

import (
	"fmt"
	"math"
	"math/rand"
	"slices"
	"strings"
	"testing"

	"loop.example/jetton/impl"
)

func mustRead(t *testing.T, d impl.Disk, what ...any) impl.Store {
	t.Helper()
	s, ok := impl.StoreRead(d)
	if !ok {
		t.Fatalf("%.300v: not read: %.40q", what, d.Cells)
	}
	return s
}

func samePages(a impl.Store, pages []string) bool {
	return slices.Equal(a.Pages, pages)
}

func TestStoresHaveTheirConstants(t *testing.T) {
	got := []int{impl.PageCount, impl.PageMax, impl.LogCells, impl.TurnMax, impl.TryMax, impl.StepMax,
		impl.StoreFine, impl.StoreForm, impl.StoreFull, impl.StoreDown, impl.StoreTurn,
		impl.StepRest, impl.StepCommit, impl.StepFall, impl.StepFallRest}
	if want := []int{20, 1100, 20, 99999, 99, 16, 0, 1, 2, 3, 4, 1, 2, 3, 4}; !slices.Equal(got, want) {
		t.Error(got, want)
	}
	mustStore(t, impl.StoreNew(), 0, newStore(), 0, "new")
}

func TestStoresThatAreOk(t *testing.T) {
	for _, s := range someStores() {
		if !impl.StoreOk(s) {
			t.Fatal(tell(s))
		}
		told, _ := wantRead(s.Disk)
		for try := told.Try; try <= 99; try++ {
			s.Try = try
			if !impl.StoreOk(s) {
				t.Fatal(tell(s))
			}
		}
		for try := told.Try - 1; try >= -1; try-- {
			s.Try = try
			if impl.StoreOk(s) {
				t.Fatal(tell(s))
			}
		}
	}
}

func TestStoresThatAreNotOk(t *testing.T) {
	list := []impl.Page{{At: 1, Text: "a"}}
	for _, s := range badStores() {
		if impl.StoreOk(s) {
			t.Fatal(tell(s))
		}
		x, code := impl.StoreRest(s)
		mustStore(t, x, code, impl.Store{}, 1, "rest of", tell(s))
		x, code = impl.StoreCommit(s, list)
		mustStore(t, x, code, impl.Store{}, 1, "commit of", tell(s))
		x, code = impl.StoreCommit(s, nil)
		mustStore(t, x, code, impl.Store{}, 1, "commit of", tell(s))
		mustStore(t, impl.StoreSet(s, -1, -1), 0, impl.Store{}, 0, "set of", tell(s))
	}
}

// frameDisks is disks with logs of each sort, and what they tell: the pages 0 to 3, Try and Next.
func frameDisks() map[string]struct {
	cells     []string
	texts     []string
	try, next int
} {
	frame := wantFrame
	type told = struct {
		cells     []string
		texts     []string
		try, next int
	}
	return map[string]told{
		"none":                            {nil, []string{"", "", "", ""}, 0, 0},
		"a group of one":                  {[]string{frame(5, 1, 0, 2, "!", "x")}, []string{"", "", "x", ""}, 1, 1},
		"an empty text":                   {[]string{frame(5, 1, 0, 2, "!", "")}, []string{"", "", "", ""}, 1, 1},
		"a group of two":                  {[]string{frame(5, 7, 0, 2, "-", "x"), frame(5, 7, 1, 3, "!", "y")}, []string{"", "", "x", "y"}, 7, 2},
		"two groups":                      {[]string{frame(5, 1, 0, 2, "!", "x"), frame(5, 2, 1, 2, "!", "y")}, []string{"", "", "y", ""}, 2, 2},
		"two groups of far tries":         {[]string{frame(5, 1, 0, 2, "!", "x"), frame(5, 99, 1, 0, "!", "y")}, []string{"y", "", "x", ""}, 99, 2},
		"one page twice":                  {[]string{frame(5, 1, 0, 2, "-", "x"), frame(5, 1, 1, 2, "!", "y")}, []string{"", "", "y", ""}, 1, 2},
		"against the order of pages":      {[]string{frame(5, 1, 0, 3, "-", "x"), frame(5, 1, 1, 0, "!", "y")}, []string{"y", "", "", "x"}, 1, 2},
		"without its last":                {[]string{frame(5, 3, 0, 2, "-", "x"), frame(5, 3, 1, 3, "-", "y")}, []string{"", "", "", ""}, 3, 0},
		"a last one of another try":       {[]string{frame(5, 3, 0, 2, "-", "x"), frame(5, 4, 1, 3, "!", "y")}, []string{"", "", "", ""}, 4, 0},
		"a last one of an elder try":      {[]string{frame(5, 3, 0, 2, "-", "x"), frame(5, 2, 1, 3, "!", "y")}, []string{"", "", "", ""}, 3, 0},
		"a try that is not above":         {[]string{frame(5, 3, 0, 2, "!", "x"), frame(5, 3, 1, 3, "!", "y")}, []string{"", "", "x", ""}, 3, 1},
		"a try that is below":             {[]string{frame(5, 3, 0, 2, "!", "x"), frame(5, 2, 1, 3, "!", "y"), frame(5, 9, 2, 1, "!", "z")}, []string{"", "", "x", ""}, 9, 1},
		"of an elder turn":                {[]string{frame(4, 9, 0, 2, "!", "x")}, []string{"", "", "", ""}, 0, 0},
		"of an elder turn behind":         {[]string{frame(5, 1, 0, 2, "!", "x"), frame(4, 9, 1, 3, "!", "y"), frame(5, 2, 2, 3, "!", "z")}, []string{"", "", "x", ""}, 2, 1},
		"of an elder turn in a group":     {[]string{frame(5, 1, 0, 2, "-", "x"), frame(4, 1, 1, 3, "!", "y")}, []string{"", "", "", ""}, 1, 0},
		"none in between":                 {[]string{frame(5, 1, 0, 2, "!", "x"), "", frame(5, 2, 2, 3, "!", "z")}, []string{"", "", "x", ""}, 2, 1},
		"none in a group":                 {[]string{frame(5, 1, 0, 2, "-", "x"), "", frame(5, 1, 2, 3, "!", "z")}, []string{"", "", "", ""}, 1, 0},
		"none ahead":                      {[]string{"", frame(5, 2, 1, 3, "!", "z")}, []string{"", "", "", ""}, 2, 0},
		"of another place":                {[]string{frame(5, 2, 1, 3, "!", "z")}, []string{"", "", "", ""}, 0, 0},
		"of another place and a turn":     {[]string{frame(6, 2, 1, 3, "!", "z")}, []string{"", "", "", ""}, 0, 0},
		"of too great a turn":             {[]string{frame(100000, 2, 0, 3, "!", "z")}, []string{"", "", "", ""}, 0, 0},
		"of no turn":                      {[]string{frame(0, 2, 0, 3, "!", "z")}, []string{"", "", "", ""}, 0, 0},
		"of a turn below":                 {[]string{frame(-5, 2, 0, 3, "!", "z")}, []string{"", "", "", ""}, 0, 0},
		"of the greatest try":             {[]string{frame(5, 99, 0, 3, "!", "z")}, []string{"", "", "", "z"}, 99, 1},
		"of too great a try":              {[]string{frame(5, 100, 0, 3, "!", "z")}, []string{"", "", "", ""}, 0, 0},
		"of no try":                       {[]string{frame(5, 0, 0, 3, "!", "z")}, []string{"", "", "", ""}, 0, 0},
		"of no page":                      {[]string{frame(5, 1, 0, 20, "!", "z")}, []string{"", "", "", ""}, 0, 0},
		"of a page below":                 {[]string{frame(5, 1, 0, -1, "!", "z")}, []string{"", "", "", ""}, 0, 0},
		"of another mark":                 {[]string{frame(5, 1, 0, 3, "?", "z")}, []string{"", "", "", ""}, 0, 0},
		"of no mark":                      {[]string{frame(5, 1, 0, 3, "", "z")}, []string{"", "", "", ""}, 0, 0},
		"of the longest text":             {[]string{frame(5, 1, 0, 3, "!", strings.Repeat("z", 1100))}, []string{"", "", "", strings.Repeat("z", 1100)}, 1, 1},
		"of a text that is too long":      {[]string{frame(5, 1, 0, 3, "!", strings.Repeat("z", 1101))}, []string{"", "", "", ""}, 0, 0},
		"of a text that looks like one":   {[]string{frame(5, 1, 0, 3, "!", frame(5, 1, 0, 2, "!", ":5.1;"))}, []string{"", "", "", "5 1 0 2 ! 5::5.1;:5.1;"}, 1, 1},
		"of another turn at its end":      {[]string{"5 1 0 3 ! 1:z:4.1;"}, []string{"", "", "", ""}, 0, 0},
		"of another try at its end":       {[]string{"5 1 0 3 ! 1:z:5.2;"}, []string{"", "", "", ""}, 0, 0},
		"of another length":               {[]string{"5 1 0 3 ! 2:z:5.1;"}, []string{"", "", "", ""}, 0, 0},
		"of a length below":               {[]string{"5 1 0 3 ! -1:z:5.1;"}, []string{"", "", "", ""}, 0, 0},
		"of a far length":                 {[]string{"5 1 0 3 ! 9223372036854775807:z:5.1;"}, []string{"", "", "", ""}, 0, 0},
		"of a length that is none":        {[]string{"5 1 0 3 ! 99999999999999999999:z:5.1;"}, []string{"", "", "", ""}, 0, 0},
		"with a needless zero":            {[]string{"5 01 0 3 ! 1:z:5.01;"}, []string{"", "", "", ""}, 0, 0},
		"with a needless zero at its end": {[]string{"5 1 0 3 ! 1:z:5.01;"}, []string{"", "", "", ""}, 0, 0},
		"with a sign":                     {[]string{"+5 1 0 3 ! 1:z:5.1;"}, []string{"", "", "", ""}, 0, 0},
		"with a sign ahead of its place":  {[]string{"5 1 -0 3 ! 1:z:5.1;"}, []string{"", "", "", ""}, 0, 0},
		"with a needless space":           {[]string{"5  1 0 3 ! 1:z:5.1;"}, []string{"", "", "", ""}, 0, 0},
		"with something behind it":        {[]string{"5 1 0 3 ! 1:z:5.1;;"}, []string{"", "", "", ""}, 0, 0},
		"with something ahead of it":      {[]string{" 5 1 0 3 ! 1:z:5.1;"}, []string{"", "", "", ""}, 0, 0},
	}
}

func TestP61LogsAreReadAsTheyAreTold(t *testing.T) {
	for name, x := range frameDisks() {
		d := withCell(withCell(emptyDisk(), 1, "H5.5;"), 0, "H4.4;")
		copy(d.Cells[22:], x.cells)
		s := mustRead(t, d, name)
		want := impl.Store{Disk: d, Turn: 5, Try: x.try, Next: x.next, Pages: append(slices.Clone(x.texts), make([]string, 16)...)}
		mustStore(t, s, 0, want, 0, name)
		told, _ := wantRead(d)
		mustStore(t, told, 0, want, 0, "the yardstick:", name)
	}
}

func TestP61HeadsAreReadAsTheyAreTold(t *testing.T) {
	for _, x := range []struct {
		even, odd string
		turn      int
	}{
		{"", "H1.1;", 1}, {"H2.2;", "", 2}, {"H2.2;", "H1.1;", 2}, {"H2.2;", "H3.3;", 3}, {"H10.10;", "H9.9;", 10},
		{"H100.100;", "H99.99;", 100}, {"", "H99999.99999;", 99999}, {"H99998.99998;", "H99999.99999;", 99999},
		{"H2.2;", "H3.2;", 2}, {"H2.2;", "H3.", 2}, {"H2.2;", "H3.3", 2}, {"H4.2;", "H3.3;", 3}, {"H2.2;", "H3.3;;", 2}, {"H2.2;", "h3.3;", 2},
		{"H1.1;", "H2.2;", 0}, {"H3.3;", "H1.1;", 1}, {"H2.2;", "H4.4;", 2},
		{"", "", 0}, {"H0.0;", "", 0}, {"H100000.100000;", "", 0}, {"H100000.100000;", "H1.1;", 1}, {"H-2.-2;", "", 0}, {"", "H-1.-1;", 0}, {"H02.02;", "", 0}, {"H2.02;", "", 0},
		{"H+2.+2;", "", 0}, {"2.2;", "", 0}, {"HH2.2;", "", 0}, {"H2.2.2;", "", 0}, {"H2;", "", 0}, {"H2 .2 ;", "", 0}, {"H;", "H.;", 0}, {" H2.2;", "", 0},
		{"H18446744073709551618.18446744073709551618;", "", 0}, {"H99999999999999999998.99999999999999999998;", "", 0},
	} {
		d := withCell(withCell(emptyDisk(), 0, x.even), 1, x.odd)
		s, ok := impl.StoreRead(d)
		if ok != (x.turn > 0) || s.Turn != x.turn || !ok && !noStore(s) || ok && !impl.StoreOk(s) {
			t.Errorf("%q %q: %v %d, want %d", x.even, x.odd, ok, s.Turn, x.turn)
		}
	}
}

func TestP61WhatIsNotRead(t *testing.T) {
	good := withCell(emptyDisk(), 1, "H5.5;")
	list := append(badDisks(), emptyDisk(), withWaits(good, impl.Wait{At: 30}), withWaits(good, impl.Wait{At: 0, Text: "H6.6;"}))
	for _, place := range []int{0, 7, 19} {
		for _, turn := range []int{6, 7, 50, 99999} {
			list = append(list, withCell(good, 22+place, wantFrame(turn, 1, place, 0, "!", "x")), withCell(good, 22+place, wantFrame(turn, 99, place, 19, "-", "")))
		}
	}
	for _, at := range []int{2, 10, 21} {
		list = append(list, withCell(good, at, strings.Repeat("x", 1101)), withCell(good, at, strings.Repeat("x", 1200)))
	}
	for _, d := range list {
		s, ok := impl.StoreRead(d)
		if ok || !noStore(s) {
			t.Fatalf("%v %s", ok, tell(impl.Store{Disk: d}))
		}
		s, code := impl.StoreRise(d)
		mustStore(t, s, code, impl.Store{}, 1, "rise")
	}
	// A greater turn that is none, or in another place, is none; and so is a long cell under a page of the log.
	for _, d := range []impl.Disk{
		withCell(good, 22, wantFrame(100000, 1, 0, 0, "!", "x")), withCell(good, 23, wantFrame(6, 1, 0, 0, "!", "x")),
		withCell(good, 22, wantFrame(6, 100, 0, 0, "!", "x")), withCell(good, 22, wantFrame(6, 1, 0, 20, "!", "x")),
		withCell(good, 22, wantFrame(6, 0, 0, 0, "!", "x")), withCell(good, 22, wantFrame(6, -1, 0, 0, "!", "x")),
		withCell(good, 22, "6 1 0 0 ! 1:x:5.1;"), withCell(good, 22, "6 1 0 0 ! 1:x:6.1"),
		withCell(withCell(good, 4, strings.Repeat("x", 1200)), 22, wantFrame(5, 1, 0, 2, "!", "x")),
	} {
		mustRead(t, d)
	}
}

func TestP61WhatIsReadIsOk(t *testing.T) {
	source := rand.New(rand.NewSource(61))
	for _, s := range someStores() {
		for range 40 {
			d := s.Disk
			for range source.Intn(4) {
				at, from := source.Intn(42), source.Intn(42)
				text := d.Cells[from]
				if source.Intn(3) == 0 {
					text = wantFrame(s.Turn+source.Intn(2)-source.Intn(5)/4, 1+source.Intn(4), max(0, at-22), source.Intn(20), []string{"-", "!"}[source.Intn(2)], pageTexts[source.Intn(len(pageTexts))])
				}
				d = withCell(d, at, text[:min(len(text), 1200)])
			}
			want, wantOk := wantRead(d)
			got, ok := impl.StoreRead(d)
			if ok != wantOk {
				t.Fatal(ok, wantOk, tell(impl.Store{Disk: d}))
			}
			mustStore(t, got, 0, want, 0, "read")
			again, _ := impl.StoreRead(got.Disk)
			if ok && (!impl.StoreOk(got) || !sameStore(again, got)) {
				t.Fatal(tell(got), tell(again))
			}
		}
	}
}

// Each frame and each head that is torn at any byte is read as the one of before, or as none, but never as a third one.
func TestP61WhatIsTornIsNone(t *testing.T) {
	old := wantFrame(5, 8, 0, 2, "!", "first")
	for _, now := range []string{wantFrame(5, 9, 0, 2, "!", "other"), wantFrame(5, 10, 0, 2, "!", "longer than it"), wantFrame(5, 9, 0, 2, "!", "x"), wantFrame(5, 9, 0, 12, "-", "other")} {
		for bytes := range len(now) {
			d := withWaits(withCell(withCell(emptyDisk(), 1, "H5.5;"), 22, old), impl.Wait{At: 22, Text: now})
			s := mustRead(t, impl.DiskCrash(d, 0, 0, bytes))
			got := s.Disk.Cells[22]
			if wantTry := map[string]int{old: 8, now: 9}[got]; s.Try != wantTry || s.Next != min(wantTry, 1) {
				t.Errorf("%q torn at %d: %q, try %d", now, bytes, got, s.Try)
			}
		}
	}
	for _, turn := range []int{9, 10, 11, 99, 100, 101, 999, 9999, 99999} {
		d := withCell(withCell(emptyDisk(), turn%2, wantHead(max(1, turn-2))), (turn-1)%2, wantHead(turn-1))
		d.Waits = []impl.Wait{{At: turn % 2, Text: wantHead(turn)}}
		for bytes := range 14 {
			s := mustRead(t, impl.DiskCrash(d, 0, 0, bytes))
			if s.Turn != turn-1 && s.Disk.Cells[turn%2] != wantHead(turn) {
				t.Error(turn, bytes, s.Turn, s.Disk.Cells[turn%2])
			}
		}
	}
}

func TestP62WhatWasCommittedIsThere(t *testing.T) {
	source := rand.New(rand.NewSource(62))
	for _, s := range someStores() {
		for _, n := range []int{1, 1, 2, 3, 5, 19, 20} {
			list := madeList(source, n)
			want, wantCode := wantCommit(s, list)
			got, code := impl.StoreCommit(s, list)
			mustStore(t, got, code, want, wantCode, "commit")
			if code != 0 {
				continue
			}
			if !impl.StoreOk(got) || !samePages(got, listed(s.Pages, list)) || !samePages(mustRead(t, got.Disk), got.Pages) {
				t.Fatal(tell(got))
			}
		}
	}
}

func TestP62FramesStandAsTheyAreTold(t *testing.T) {
	s, code := impl.StoreCommit(impl.StoreNew(), []impl.Page{{At: 0, Text: "first"}, {At: 4, Text: ""}, {At: 19, Text: ":1.1;"}})
	if code != 0 || !slices.Equal(s.Disk.Cells[22:26], []string{"1 1 0 0 - 5:first:1.1;", "1 1 1 4 - 0::1.1;", "1 1 2 19 ! 5::1.1;:1.1;", ""}) || s.Turn != 1 || s.Try != 1 || s.Next != 3 || len(s.Disk.Waits) != 0 {
		t.Error(code, tell(s))
	}
	s, code = impl.StoreCommit(s, onePage(0, "again"))
	if code != 0 || s.Disk.Cells[25] != "1 2 3 0 ! 5:again:1.2;" || s.Try != 2 || s.Next != 4 || s.Pages[0] != "again" || s.Disk.Cells[2] != "" {
		t.Error(code, tell(s))
	}
	s, code = impl.StoreRest(s)
	if code != 0 || !slices.Equal(s.Disk.Cells[:8], []string{"H2.2;", "H1.1;", "again", "", "", "", "", ""}) || s.Disk.Cells[21] != ":1.1;" || s.Turn != 2 || s.Try != 0 || s.Next != 0 || s.Disk.Cells[22] == "" {
		t.Error(code, tell(s))
	}
}

func TestP62ListsThatAreWrong(t *testing.T) {
	for _, s := range someStores() {
		for _, left := range []int{-1, 0, 5} {
			s := ended(s, 1, left)
			for _, list := range badLists() {
				got, code := impl.StoreCommit(s, list)
				mustStore(t, got, code, s, 1, "commit", list)
			}
		}
	}
}

func TestP62TheMostThatThereMayBe(t *testing.T) {
	list := wholeList("")
	for i := range list {
		list[i].Text = strings.Repeat(string(rune('a'+i)), 1100)
	}
	s := atTurn(99998)
	s.Try = 98
	got, code := impl.StoreCommit(s, list)
	if code != 0 || got.Turn != 99998 || got.Try != 99 || got.Next != 20 || !impl.StoreOk(got) || !samePages(got, listed(s.Pages, list)) {
		t.Fatal(code, tell(got))
	}
	got, code = impl.StoreCommit(got, onePage(0, "more"))
	if code != 0 || got.Turn != 99999 || got.Try != 1 || got.Next != 1 || got.Pages[0] != "more" || got.Pages[1] != list[1].Text {
		t.Fatal(code, tell(got))
	}
}

// A log without room, and a greatest try, lead to a rest first; one less does not.
func TestP62ALogThatIsFull(t *testing.T) {
	for n := 1; n <= 20; n++ {
		for next := 0; next <= 20; next++ {
			s := newStore()
			if next > 0 {
				s, _ = wantCommit(s, wholeList("a")[:next])
			}
			got, code := impl.StoreCommit(s, wholeList("b")[:n])
			want := 1
			if next+n > 20 {
				want = 2
			}
			if code != 0 || got.Turn != want {
				t.Fatal(n, next, code, got.Turn)
			}
		}
	}
	for try := range 100 {
		s := newStore()
		s.Try = try
		got, code := impl.StoreCommit(s, onePage(1, "a"))
		if code != 0 || got.Turn != 1+try/99 || got.Try != try%99+1 || got.Next != 1 {
			t.Fatal(try, code, tell(got))
		}
	}
}

func TestP63WhatIsRefusedIsNotThere(t *testing.T) {
	source := rand.New(rand.NewSource(63))
	for _, s := range someStores() {
		for room := range 24 {
			list := madeList(source, 1+source.Intn(20))
			want, wantCode := wantCommit(ended(s, room, -1), list)
			got, code := impl.StoreCommit(ended(s, room, -1), list)
			mustStore(t, got, code, want, wantCode, "room", room)
			if code != 2 {
				continue
			}
			if !impl.StoreOk(got) || !samePages(got, s.Pages) || !samePages(mustRead(t, got.Disk), s.Pages) {
				t.Fatal(tell(got))
			}
			on, code := impl.StoreCommit(impl.StoreSet(got, -1, -1), list)
			if code == 4 && got.Turn == 99999 {
				continue
			}
			if code != 0 || !samePages(on, listed(s.Pages, list)) || !samePages(mustRead(t, on.Disk), on.Pages) {
				t.Fatal(code, tell(on))
			}
		}
	}
}

func TestP63FramesOfWhatWasRefused(t *testing.T) {
	s, code := impl.StoreCommit(impl.StoreSet(impl.StoreNew(), 2, -1), wholeList("a")[:3])
	if code != 2 || s.Try != 1 || s.Next != 0 || s.Disk.Room != 0 || s.Disk.Cells[23] != "1 1 1 1 - 2:a1:1.1;" || s.Disk.Cells[24] != "" || len(s.Disk.Waits) != 0 {
		t.Error(code, tell(s))
	}
	// What comes behind it is of another try: the frame that stays of the first one ends the log.
	s, code = impl.StoreCommit(impl.StoreSet(s, -1, -1), onePage(7, "b"))
	if code != 0 || s.Try != 2 || s.Next != 1 || s.Disk.Cells[22] != "1 2 0 7 ! 1:b:1.2;" || s.Disk.Cells[23] != "1 1 1 1 - 2:a1:1.1;" || s.Pages[1] != "" || !impl.StoreOk(s) {
		t.Error(code, tell(s))
	}
	// Also if not a frame was written: Try goes on.
	s, code = impl.StoreCommit(impl.StoreSet(s, 0, -1), onePage(7, "c"))
	if code != 2 || s.Try != 3 || s.Next != 1 || s.Pages[7] != "b" || !impl.StoreOk(s) {
		t.Error(code, tell(s))
	}
}

// A refusal is one more try each time, and behind the greatest one the store comes to rest first.
func TestP63TriesGoUpToTheGreatest(t *testing.T) {
	s := impl.StoreNew()
	for try := 1; try <= 99; try++ {
		x, code := impl.StoreCommit(impl.StoreSet(s, 1, -1), wholeList("a")[:2])
		if code != 2 || x.Try != try || x.Next != 0 || x.Turn != 1 {
			t.Fatal(try, code, tell(x))
		}
		s = x
	}
	x, code := impl.StoreCommit(impl.StoreSet(s, 1, -1), wholeList("a")[:2])
	if code != 2 || x.Turn != 2 || x.Try != 1 || x.Next != 0 || !impl.StoreOk(x) {
		t.Fatal(code, tell(x))
	}
	// The rest is refused itself: that was no frame.
	x, code = impl.StoreCommit(impl.StoreSet(s, 0, -1), wholeList("a")[:2])
	if code != 2 || x.Turn != 1 || x.Try != 99 || !impl.StoreOk(x) {
		t.Fatal(code, tell(x))
	}
	s.Turn = 99999
	s.Disk = withCell(withCell(emptyDisk(), 1, wantHead(99999)), 22, wantFrame(99999, 99, 0, 0, "-", "a"))
	x, code = impl.StoreCommit(s, onePage(1, "a"))
	mustStore(t, x, code, s, 4, "no more turns")
}

// falls is each mask of few waits, and each tear of them behind some bytes; of many waits some of them.
func falls(source *rand.Rand, waits int, call func(mask, tear, bytes int)) {
	if waits > 4 {
		for range 60 {
			call(source.Intn(1<<waits), source.Intn(waits+2)-1, source.Intn(40)-1)
		}
		call(0, -1, 0)
		call(1<<waits-1, -1, 0)
		return
	}
	for mask := range 1 << waits {
		call(mask, -1, 0)
		for tear := range waits {
			for bytes := 0; bytes < 40; bytes += 1 + source.Intn(6) {
				call(mask, tear, bytes)
			}
			call(mask, tear, 1+source.Intn(1200))
		}
	}
}

func TestP64AllPagesOfACommitOrNone(t *testing.T) {
	source := rand.New(rand.NewSource(64))
	for _, s := range fewStores() {
		for _, list := range [][]impl.Page{onePage(0, "one"), wholeList("w")[3:6], madeList(source, 4), wholeList("all")} {
			for _, room := range []int{-1, 0, 1, 3} {
				for left := -1; left < 45; left++ {
					s := ended(s, room, left)
					want, wantCode := wantCommit(s, list)
					x, code := impl.StoreCommit(s, list)
					mustStore(t, x, code, want, wantCode, "commit, left", left, "room", room)
					falls(source, len(x.Disk.Waits), func(mask, tear, bytes int) {
						got := mustRead(t, impl.DiskCrash(x.Disk, mask, tear, bytes), mask, tear, bytes)
						if !samePages(got, listed(s.Pages, list)) && (code == 0 || !samePages(got, s.Pages)) {
							t.Fatal("left", left, "mask", mask, "tear", tear, "bytes", bytes, "code", code, tell(got))
						}
					})
				}
			}
		}
	}
}

func TestP64DownIsSaidWhateverElse(t *testing.T) {
	s := newStore()
	for left, wantCode := range []int{3, 3, 3, 3, 0, 0} {
		x, code := impl.StoreCommit(impl.StoreSet(s, -1, left), wholeList("a")[:2])
		if code != wantCode || code == 3 && (x.Try != 0 || x.Next != 0 || !samePages(x, s.Pages) || x.Disk.Left != 0) {
			t.Error(left, code, tell(x))
		}
		isSafe := len(x.Disk.Waits) == 0 && x.Disk.Cells[23] != ""
		if isSafe != (left >= 3) || len(x.Disk.Waits) != min(left, 2) && !isSafe {
			t.Error(left, tell(x))
		}
	}
	// Refused, and down behind it: what was written ahead is made safe by the last act.
	x, code := impl.StoreCommit(impl.StoreSet(s, 1, 2), wholeList("a")[:2])
	if code != 3 || x.Try != 0 || x.Disk.Cells[22] == "" || len(x.Disk.Waits) != 0 || x.Disk.Left != 0 {
		t.Error(code, tell(x))
	}
	x, code = impl.StoreCommit(impl.StoreSet(s, 1, 3), wholeList("a")[:2])
	if code != 2 || x.Try != 1 || x.Disk.Cells[22] == "" || x.Disk.Left != 1 {
		t.Error(code, tell(x))
	}
	// Down before it begins: nothing is done, and nothing refused.
	x, code = impl.StoreCommit(impl.StoreSet(s, 0, 0), wholeList("a")[:2])
	mustStore(t, x, code, ended(s, 0, 0), 3, "down")
	x, code = impl.StoreRest(impl.StoreSet(s, 0, 0))
	mustStore(t, x, code, ended(s, 0, 0), 3, "down")
}

func TestP65AtRestPagesAreWhereTheyBelong(t *testing.T) {
	for _, s := range someStores() {
		for room := -1; room < 24; room++ {
			want, wantCode := wantRest(ended(s, room, -1))
			got, code := impl.StoreRest(ended(s, room, -1))
			mustStore(t, got, code, want, wantCode, "rest, room", room)
			if !samePages(got, s.Pages) || !impl.StoreOk(got) || !samePages(mustRead(t, got.Disk), s.Pages) {
				t.Fatal(tell(got))
			}
			if code == 0 && (!slices.Equal(got.Disk.Cells[2:22], s.Pages) || got.Turn != s.Turn+1 || got.Try != 0 || got.Next != 0) {
				t.Fatal(tell(got))
			}
			if code == 0 && got.Disk.Cells[got.Turn%2] != wantHead(got.Turn) {
				t.Fatal(tell(got))
			}
		}
	}
}

func TestP65TheLastTurn(t *testing.T) {
	s := atTurn(99999)
	for _, left := range []int{-1, 0, 1, 9} {
		for _, room := range []int{-1, 0, 9} {
			x, code := impl.StoreRest(ended(s, room, left))
			mustStore(t, x, code, ended(s, room, left), 4, "rest", room, left)
			x, code = impl.StoreRise(ended(s, room, left).Disk)
			mustStore(t, x, code, impl.Store{Disk: ended(s, room, left).Disk}, 4, "rise", room, left)
		}
	}
	x, code := impl.StoreRest(atTurn(99998))
	if code != 0 || x.Turn != 99999 || x.Disk.Cells[1] != "H99999.99999;" {
		t.Error(code, tell(x))
	}
	// It still takes what its log has room for.
	x, code = impl.StoreCommit(s, wholeList("a"))
	if code != 0 || x.Next != 20 {
		t.Error(code, tell(x))
	}
	y, code := impl.StoreCommit(x, onePage(0, "b"))
	mustStore(t, y, code, x, 4, "no more room")
}

// Only pages whose cells say something else are written: so much room is enough.
func TestP65OnlyWhatIsAnotherIsWritten(t *testing.T) {
	s, _ := wantCommit(atTurn(7), []impl.Page{{At: 3, Text: "four"}, {At: 4, Text: "new"}, {At: 5, Text: ""}, {At: 6, Text: "x"}})
	for room, wantCode := range []int{2, 2, 2, 0} {
		x, code := impl.StoreRest(impl.StoreSet(s, room, -1))
		if code != wantCode || x.Disk.Room != 0 || (x.Disk.Cells[6] == "new") != (room > 0) || (x.Disk.Cells[8] == "x") != (room > 1) {
			t.Error(room, code, tell(x))
		}
	}
	// Two writes, made safe, a head, made safe.
	for left, wantCode := range []int{3, 3, 3, 3, 3, 3, 0, 0} {
		x, code := impl.StoreRest(impl.StoreSet(s, -1, left))
		if code != wantCode || (x.Disk.Cells[6] == "new") != (left > 2) || (x.Disk.Cells[0] == "H8.8;") != (left > 4) {
			t.Error(left, code, tell(x))
		}
	}
}

func TestP66APowerCutWhileItComesToRest(t *testing.T) {
	source := rand.New(rand.NewSource(66))
	for _, s := range append(fewStores(), someStores()[10:25]...) {
		for _, room := range []int{-1, 0, 1, 2, 5} {
			for left := -1; left < 26; left++ {
				s := ended(s, room, left)
				want, wantCode := wantRest(s)
				x, code := impl.StoreRest(s)
				mustStore(t, x, code, want, wantCode, "rest, left", left, "room", room)
				falls(source, len(x.Disk.Waits), func(mask, tear, bytes int) {
					got := mustRead(t, impl.DiskCrash(x.Disk, mask, tear, bytes), mask, tear, bytes)
					if !samePages(got, s.Pages) {
						t.Fatal("left", left, "mask", mask, "tear", tear, "bytes", bytes, "code", code, tell(got))
					}
				})
			}
		}
	}
}

func TestP67WhatIsUpAgain(t *testing.T) {
	source := rand.New(rand.NewSource(67))
	for _, s := range someStores() {
		for _, ends := range [][2]int{{-1, -1}, {0, -1}, {1, -1}, {3, -1}, {21, -1}, {-1, 0}, {-1, 1}, {-1, 4}, {-1, 23}, {-1, 40}, {2, 2}} {
			d := withEnds(s.Disk, ends[0], ends[1])
			want, wantCode := wantRise(d)
			x, code := impl.StoreRise(d)
			mustStore(t, x, code, want, wantCode, "rise", ends)
			if code != 0 {
				if code < 2 || x.Turn != 0 || x.Try != 0 || x.Next != 0 || len(x.Pages) != 0 || len(x.Disk.Cells) != 42 {
					t.Fatal(code, tell(x))
				}
				falls(source, len(x.Disk.Waits), func(mask, tear, bytes int) {
					if got := mustRead(t, impl.DiskCrash(x.Disk, mask, tear, bytes)); !samePages(got, s.Pages) {
						t.Fatal(mask, tear, bytes, tell(got))
					}
				})
				continue
			}
			if !samePages(x, s.Pages) || x.Turn != s.Turn+1 || !impl.StoreOk(x) {
				t.Fatal(tell(x))
			}
			again, code := impl.StoreRise(x.Disk)
			if code == 0 && (!samePages(again, s.Pages) || again.Turn != s.Turn+2) || code == 1 {
				t.Fatal(code, tell(again))
			}
		}
	}
}

func TestP68CommitsOneBehindTheOther(t *testing.T) {
	source := rand.New(rand.NewSource(68))
	for _, s := range someStores() {
		for range 12 {
			one, two := madeList(source, 1+source.Intn(20)), madeList(source, 1+source.Intn(20))
			x, code := impl.StoreCommit(s, one)
			if code != 0 {
				continue
			}
			room := source.Intn(24) - 1
			y, code := impl.StoreCommit(impl.StoreSet(x, room, -1), two)
			want, wantCode := wantCommit(ended(x, room, -1), two)
			mustStore(t, y, code, want, wantCode, "room", room)
			pages := listed(s.Pages, one)
			if code == 0 {
				pages = listed(pages, two)
			}
			if !samePages(y, pages) || !samePages(mustRead(t, y.Disk), pages) {
				t.Fatal(code, tell(y))
			}
		}
	}
}

// madeStep is a step, now and then one that is not ok.
func madeStep(source *rand.Rand) impl.StoreStep {
	p := impl.StoreStep{Kind: 1 + source.Intn(4), List: madeList(source, 1+source.Intn(6)), Room: -1, Left: -1, Again: source.Intn(2) == 0}
	if source.Intn(8) == 0 {
		p.List = madeList(source, 20)
	}
	if source.Intn(3) == 0 {
		p.Room = source.Intn(9)
	}
	if source.Intn(3) > 0 {
		p.Left = source.Intn(12)
	}
	p.Mask, p.Tear, p.Bytes = source.Intn(1<<60), source.Intn(8)-1, source.Intn(40)-1
	if source.Intn(4) == 0 {
		p.Mask = 0
	}
	bad := badLists()
	switch source.Intn(24) {
	case 0:
		p.Kind = []int{0, -1, 5, 6, math.MinInt, math.MaxInt}[source.Intn(6)]
	case 1:
		p.Room = badEnds[source.Intn(len(badEnds))]
	case 2:
		p.Left = badEnds[source.Intn(len(badEnds))]
	case 3:
		p.Mask = []int{-1, -2, math.MinInt}[source.Intn(3)]
	case 4:
		p.List = bad[source.Intn(len(bad))]
	case 5:
		p.Tear, p.Bytes = badInts[source.Intn(len(badInts))], badInts[source.Intn(len(badInts))]
	}
	return p
}

// mustPlay plays steps, and holds what comes of each beginning of them against the one ahead of it.
func mustPlay(t *testing.T, steps []impl.StoreStep) {
	t.Helper()
	before := newStore()
	mustStore(t, impl.StorePlay(nil), 0, before, 0, "no steps")
	for n := range steps {
		p := steps[n]
		got := impl.StorePlay(steps[:n+1])
		want := before
		if n < 16 {
			want = wantStep(before, p)
		}
		what := fmt.Sprintf("step %d: %.200v", n, p)
		mustStore(t, got, 0, want, 0, what)
		isCommit := (p.Kind == 2 || p.Kind == 3) && inOrder(p.List)
		if !impl.StoreOk(got) || !samePages(got, before.Pages) && !(isCommit && samePages(got, listed(before.Pages, p.List))) {
			t.Fatal(what, tell(got))
		}
		isSure := n < 16 && p.Kind == 2 && isCommit && p.Room == -1 && p.Left >= -1 && p.Mask >= 0
		if isSure && !samePages(got, listed(before.Pages, p.List)) {
			t.Fatal(what, tell(got))
		}
		before = got
	}
}

func TestP69WhateverIsPlayed(t *testing.T) {
	source := rand.New(rand.NewSource(69))
	for range 400 {
		steps := make([]impl.StoreStep, 1+source.Intn(18))
		for i := range steps {
			steps[i] = madeStep(source)
		}
		mustPlay(t, steps)
	}
}

// Power is lost at each act of a step, and again at each act while the store rises.
func TestP69PowerIsLostAtEachAct(t *testing.T) {
	first := impl.StoreStep{Kind: 2, List: wholeList("a")[:18], Room: -1, Left: -1}
	for _, kind := range []int{3, 4} {
		for _, again := range bothWays {
			for left := -1; left < 28; left++ {
				for _, mask := range []int{0, 1, 2, 5, allBits} {
					for _, tear := range []int{-1, 0, 1} {
						step := impl.StoreStep{Kind: kind, List: wholeList("b")[5:8], Room: -1, Left: left, Mask: mask, Tear: tear, Bytes: 9, Again: again}
						mustPlay(t, []impl.StoreStep{first, step, {Kind: 2, List: onePage(19, "c"), Room: -1}})
					}
				}
			}
		}
	}
}

func TestP69StepsThatArePassedOver(t *testing.T) {
	good := impl.StoreStep{Kind: 2, List: onePage(1, "a"), Room: -1, Left: -1}
	wrong := []func(p *impl.StoreStep){
		func(p *impl.StoreStep) { p.Kind = 0 },
		func(p *impl.StoreStep) { p.Kind = -1 },
		func(p *impl.StoreStep) { p.Kind = 5 },
		func(p *impl.StoreStep) { p.Room = -2 },
		func(p *impl.StoreStep) { p.Left = -2 },
		func(p *impl.StoreStep) { p.Mask = -1 },
	}
	for _, kind := range []int{1, 2, 3, 4} {
		for i, change := range wrong {
			p := good
			p.Kind = kind
			change(&p)
			mustStore(t, impl.StorePlay([]impl.StoreStep{p}), 0, newStore(), 0, "step", i)
			one, _ := wantCommit(newStore(), good.List)
			mustStore(t, impl.StorePlay([]impl.StoreStep{p, good, p}), 0, one, 0, "step", i)
		}
	}
	// The greatest ends there are, and none, are fine; a step of those does not look at Left.
	for _, n := range []int{-1, 0, 1, math.MaxInt} {
		p := good
		p.Left, p.Mask, p.Tear, p.Bytes, p.Again = n, math.MaxInt, n, n, true
		if s := impl.StorePlay([]impl.StoreStep{p}); s.Pages[1] != "a" || s.Turn != 1 {
			t.Error(n, tell(s))
		}
	}
	// A seventeenth is passed over.
	var steps []impl.StoreStep
	for n := range 18 {
		steps = append(steps, impl.StoreStep{Kind: 2, List: onePage(n, "a"), Room: -1, Left: -1})
	}
	s := impl.StorePlay(steps)
	if s.Pages[15] != "a" || s.Pages[16] != "" || s.Next != 16 {
		t.Error(tell(s))
	}
	mustStore(t, s, 0, impl.StorePlay(steps[:16]), 0, "sixteen")
}

// Of a step that falls the room is for the step alone, and Left for the rise, too.
func TestP69EndsOfAStep(t *testing.T) {
	fall := impl.StoreStep{Kind: 3, List: wholeList("a")[:3], Room: 2, Left: -1, Mask: allBits, Tear: -1}
	s := impl.StorePlay([]impl.StoreStep{fall})
	if s.Turn != 2 || s.Pages[0] != "" || s.Disk.Room != -1 || s.Disk.Left != -1 {
		t.Error(tell(s))
	}
	fall.Room, fall.Again = 9, true
	s = impl.StorePlay([]impl.StoreStep{fall})
	if s.Turn != 3 || s.Pages[2] != "a2" {
		t.Error(tell(s))
	}
	// Four acts, and it was all safe; the rise writes three pages, makes them safe, and is down.
	fall.Left = 4
	s = impl.StorePlay([]impl.StoreStep{fall})
	if s.Turn != 2 || s.Pages[2] != "a2" {
		t.Error(tell(s))
	}
	fall.Left = 0
	s = impl.StorePlay([]impl.StoreStep{fall})
	if s.Turn != 2 || s.Pages[2] != "" {
		t.Error(tell(s))
	}
	rest := impl.StoreStep{Kind: 1, Room: 0}
	s = impl.StorePlay([]impl.StoreStep{rest})
	mustStore(t, s, 0, newStore(), 0, "a rest without room")
	rest.Room = 1
	if s = impl.StorePlay([]impl.StoreStep{rest}); s.Turn != 2 || s.Disk.Room != -1 {
		t.Error(tell(s))
	}
}

func TestP70WhatWasRefusedNeverComesBack(t *testing.T) {
	source := rand.New(rand.NewSource(70))
	for _, s := range fewStores() {
		for room := range 4 {
			for n := 1; n <= 4; n++ {
				first, second := madeList(source, room+1+source.Intn(3)), madeList(source, n)
				x, code := impl.StoreCommit(ended(s, room, -1), first)
				if code != 2 {
					continue
				}
				for left := -1; left < 12; left++ {
					y, code := impl.StoreCommit(impl.StoreSet(x, -1, left), second)
					want, wantCode := wantCommit(ended(x, -1, left), second)
					mustStore(t, y, code, want, wantCode, "second, left", left)
					falls(source, len(y.Disk.Waits), func(mask, tear, bytes int) {
						got := mustRead(t, impl.DiskCrash(y.Disk, mask, tear, bytes), mask, tear, bytes)
						if !samePages(got, s.Pages) && !samePages(got, listed(s.Pages, second)) {
							t.Fatal("left", left, "mask", mask, "tear", tear, "bytes", bytes, "code", code, tell(got))
						}
					})
				}
			}
		}
	}
}

func TestP71EndsChangeNothingThatIsSaid(t *testing.T) {
	ends := append([]int{-1, 0, 1, 2, 99, math.MaxInt}, badEnds...)
	for _, s := range someStores() {
		for _, room := range ends {
			for _, left := range ends {
				got := impl.StoreSet(s, room, left)
				if room < -1 || left < -1 {
					mustStore(t, got, 0, impl.Store{}, 0, room, left)
					continue
				}
				mustStore(t, got, 0, ended(s, room, left), 0, room, left)
				if !impl.StoreOk(got) || !samePages(got, s.Pages) {
					t.Fatal(tell(got))
				}
			}
		}
	}
}
