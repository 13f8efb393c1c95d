package tests

import (
	"fmt"
	"math/rand"
	"regexp"
	"slices"
	"strconv"
	"strings"
	"testing"

	"loop.example/jetton/impl"
)

// A second store is the yardstick, on the second disk: what it does is a list of acts, what it reads goes by regular expressions.

func sameStore(a, b impl.Store) bool {
	return sameDisk(a.Disk, b.Disk) && a.Turn == b.Turn && a.Try == b.Try && a.Next == b.Next && slices.Equal(a.Pages, b.Pages)
}

func noStore(s impl.Store) bool {
	return sameStore(s, impl.Store{})
}

// tell is a store, short enough to be read.
func tell(s impl.Store) string {
	return fmt.Sprintf("turn %d, try %d, next %d, pages %.20q, cells %.40q, waits %.40v, room %d, left %d", s.Turn, s.Try, s.Next, s.Pages, s.Disk.Cells, s.Disk.Waits, s.Disk.Room, s.Disk.Left)
}

func mustStore(t *testing.T, got impl.Store, gotCode int, want impl.Store, wantCode int, what ...any) {
	t.Helper()
	if gotCode != wantCode || !sameStore(got, want) {
		t.Fatalf("%.300v:\ncode %d, %s,\nwant %d, %s", what, gotCode, tell(got), wantCode, tell(want))
	}
}

func wantHead(turn int) string {
	return fmt.Sprintf("H%d.%d;", turn, turn)
}

func wantFrame(turn, try, place, at int, mark string, text string) string {
	return fmt.Sprintf("%d %d %d %d %s %d:%s:%d.%d;", turn, try, place, at, mark, len(text), text, turn, try)
}

var (
	headForm  = regexp.MustCompile(`^H([1-9][0-9]{0,4})\.([1-9][0-9]{0,4});$`)
	frameForm = regexp.MustCompile(`(?s)^([1-9][0-9]{0,4}) ([1-9][0-9]?) (0|[1-9][0-9]?) (0|[1-9][0-9]?) ([-!]) (0|[1-9][0-9]{0,3}):(.*):([0-9]+)\.([0-9]+);$`)
)

// logged is a frame as it is read.
type logged struct {
	turn, try, at int
	last          bool
	text          string
}

// wantLogged reads the frame of a place; nil, if there is none.
func wantLogged(d impl.Disk, place int) *logged {
	m := frameForm.FindStringSubmatch(d.Cells[22+place])
	if m == nil || m[3] != strconv.Itoa(place) || m[6] != strconv.Itoa(len(m[7])) || len(m[7]) > 1100 || m[8] != m[1] || m[9] != m[2] {
		return nil
	}
	turn, _ := strconv.Atoi(m[1])
	try, _ := strconv.Atoi(m[2])
	at, _ := strconv.Atoi(m[4])
	if at > 19 {
		return nil
	}
	return &logged{turn: turn, try: try, at: at, last: m[5] == "!", text: m[7]}
}

// wantTurn is the greater turn of the heads.
func wantTurn(d impl.Disk) int {
	turn := 0
	for cell := range 2 {
		m := headForm.FindStringSubmatch(d.Cells[cell])
		if m == nil || m[1] != m[2] {
			continue
		}
		n, _ := strconv.Atoi(m[1])
		if n%2 == cell {
			turn = max(turn, n)
		}
	}
	return turn
}

// wantGroup is how long the group from a place on is, and its try; 0, if there is none.
func wantGroup(log []*logged, turn, from int) (int, int) {
	for place := from; place < len(log); place++ {
		f := log[place]
		if f == nil || f.turn != turn || f.try != log[from].try {
			return 0, 0
		}
		if f.last {
			return place - from + 1, f.try
		}
	}
	return 0, 0
}

// wantRead is what a disk tells.
func wantRead(d impl.Disk) (impl.Store, bool) {
	if !wantDiskOk(d) {
		return impl.Store{}, false
	}
	s := impl.Store{Disk: d, Turn: wantTurn(d), Pages: slices.Clone(d.Cells[2:22])}
	if len(d.Waits) > 0 || s.Turn == 0 {
		return impl.Store{}, false
	}
	var log []*logged
	for place := range 20 {
		f := wantLogged(d, place)
		log = append(log, f)
		if f != nil && f.turn > s.Turn {
			return impl.Store{}, false
		}
		if f != nil && f.turn == s.Turn {
			s.Try = max(s.Try, f.try)
		}
	}
	for ahead := 0; ; {
		n, try := wantGroup(log, s.Turn, s.Next)
		if n == 0 || try <= ahead {
			break
		}
		for _, f := range log[s.Next : s.Next+n] {
			s.Pages[f.at] = f.text
		}
		s.Next += n
		ahead = try
	}
	for _, text := range s.Pages {
		if len(text) > 1100 {
			return impl.Store{}, false
		}
	}
	return s, true
}

// act is something that a store does to its disk: a write, or all is made safe.
type act struct {
	sync  bool
	at    int
	text  string
	frame bool
}

// wantActs is a disk behind acts, and which of them was refused.
func wantActs(d impl.Disk, acts []act) (impl.Disk, *act) {
	for _, a := range acts {
		if a.sync {
			d = wantSync(d)
			continue
		}
		x, took := wantWrite(d, a.at, a.text)
		if !took {
			return wantSync(x), &a
		}
		d = x
	}
	return d, nil
}

// wantDone is a store behind acts, and the code of it.
func wantDone(was, then impl.Store, acts []act) (impl.Store, int) {
	d, refused := wantActs(was.Disk, acts)
	was.Disk, then.Disk = d, d
	if d.Left == 0 {
		return was, 3
	}
	if refused == nil {
		return then, 0
	}
	if refused.frame {
		was.Try++
	}
	return was, 2
}

// restActs is how a store comes to rest.
func restActs(s impl.Store) []act {
	var acts []act
	for i, text := range s.Pages {
		if s.Disk.Cells[2+i] != text {
			acts = append(acts, act{at: 2 + i, text: text})
		}
	}
	return append(acts, act{sync: true}, act{at: (s.Turn + 1) % 2, text: wantHead(s.Turn + 1)}, act{sync: true})
}

// commitActs is how pages come into the log.
func commitActs(s impl.Store, list []impl.Page) []act {
	var acts []act
	for i, p := range list {
		mark := "-"
		if i == len(list)-1 {
			mark = "!"
		}
		acts = append(acts, act{at: 22 + s.Next + i, text: wantFrame(s.Turn, s.Try+1, s.Next+i, p.At, mark, p.Text), frame: true})
	}
	return append(acts, act{sync: true})
}

// wantRest is a store that is ok at rest.
func wantRest(s impl.Store) (impl.Store, int) {
	if s.Turn == 99999 {
		return s, 4
	}
	then := s
	then.Turn, then.Try, then.Next = s.Turn+1, 0, 0
	return wantDone(s, then, restActs(s))
}

// listed is pages with those of a list.
func listed(pages []string, list []impl.Page) []string {
	texts := slices.Clone(pages)
	for _, p := range list {
		texts[p.At] = p.Text
	}
	return texts
}

// inOrder says whether a list can be committed.
func inOrder(list []impl.Page) bool {
	last := -1
	for _, p := range list {
		if p.At <= last || p.At > 19 || len(p.Text) > 1100 {
			return false
		}
		last = p.At
	}
	return len(list) > 0
}

// wantCommit is a store that is ok with pages.
func wantCommit(s impl.Store, list []impl.Page) (impl.Store, int) {
	if !inOrder(list) {
		return s, 1
	}
	if s.Next+len(list) > 20 || s.Try == 99 {
		x, code := wantRest(s)
		if code != 0 {
			return x, code
		}
		s = x
	}
	then := s
	then.Try, then.Next, then.Pages = s.Try+1, s.Next+len(list), listed(s.Pages, list)
	return wantDone(s, then, commitActs(s, list))
}

// wantRise is a store that is up again.
func wantRise(d impl.Disk) (impl.Store, int) {
	s, ok := wantRead(d)
	if !ok {
		return impl.Store{}, 1
	}
	x, code := wantRest(s)
	if code != 0 {
		return impl.Store{Disk: x.Disk}, code
	}
	return x, 0
}

// wantStep is a store that is ok behind a step.
func wantStep(s impl.Store, p impl.StoreStep) impl.Store {
	if p.Kind < 1 || p.Kind > 4 || p.Room < -1 || p.Left < -1 || p.Mask < 0 {
		return s
	}
	s.Disk = withEnds(s.Disk, p.Room, p.Left)
	if p.Kind < 3 {
		s.Disk.Left = -1
	}
	if p.Kind == 2 || p.Kind == 3 {
		s, _ = wantCommit(s, p.List)
	} else {
		s, _ = wantRest(s)
	}
	if p.Kind < 3 {
		s.Disk = withEnds(s.Disk, -1, -1)
		return s
	}
	d := wantCrash(s.Disk, p.Mask, p.Tear, p.Bytes)
	if p.Again {
		x, _ := wantRise(withEnds(d, -1, p.Left))
		d = wantCrash(x.Disk, p.Mask, p.Tear, p.Bytes)
	}
	s, _ = wantRise(d)
	return s
}

// newStore is a new store.
func newStore() impl.Store {
	return impl.Store{Disk: withCell(emptyDisk(), 1, "H1.1;"), Turn: 1, Pages: make([]string, 20)}
}

// endless is a store whose disk goes without end.
func endless(s impl.Store) impl.Store {
	s.Disk = withEnds(s.Disk, -1, -1)
	return s
}

// ended is a store whose disk has so much room, and so many acts left.
func ended(s impl.Store, room, left int) impl.Store {
	s.Disk = withEnds(s.Disk, room, left)
	return s
}

// onePage is a list of one page.
func onePage(at int, text string) []impl.Page {
	return []impl.Page{{At: at, Text: text}}
}

// pageTexts is texts of a page: such as look like frames and heads, and of the longest that there may be.
var pageTexts = []string{"", "a", "first", "other", "third!", ":1.1;", "H1.1;", "1 1 0 0 ! 1:a:1.1;", "1:", " ", "\x00\xff", "0", strings.Repeat("p", 1099), strings.Repeat("P", 1100)}

// madeList is pages that can be committed, so many of them.
func madeList(source *rand.Rand, n int) []impl.Page {
	ats := source.Perm(20)[:n]
	slices.Sort(ats)
	var list []impl.Page
	for _, at := range ats {
		text := pageTexts[source.Intn(len(pageTexts))]
		if source.Intn(2) == 0 {
			text = "text " + strconv.Itoa(source.Intn(1000))
		}
		list = append(list, impl.Page{At: at, Text: text})
	}
	return list
}

// wholeList is all pages.
func wholeList(text string) []impl.Page {
	var list []impl.Page
	for at := range 20 {
		list = append(list, impl.Page{At: at, Text: text + strconv.Itoa(at)})
	}
	return list
}

// atTurn is a store of a turn, with some pages in their cells, and an elder log.
func atTurn(turn int) impl.Store {
	d := withCell(emptyDisk(), turn%2, wantHead(turn))
	d.Cells[5], d.Cells[21] = "four", strings.Repeat("x", 1100)
	if turn > 2 {
		d.Cells[(turn-1)%2] = wantHead(turn - 1)
		d.Cells[22], d.Cells[23] = wantFrame(turn-1, 9, 0, 3, "!", "elder"), wantFrame(turn-1, 10, 1, 3, "!", "elder")
	}
	s, _ := wantRead(d)
	return s
}

// someStores is stores that are ok: such as commits, refusals and rests leave behind, and those at the edges.
func someStores() []impl.Store {
	list := []impl.Store{newStore(), atTurn(2), atTurn(3), atTurn(98), atTurn(99), atTurn(100), atTurn(99997), atTurn(99998), atTurn(99999)}
	source := rand.New(rand.NewSource(8))
	for _, s := range slices.Clone(list) {
		full, _ := wantCommit(s, wholeList("all"))
		almost, _ := wantCommit(s, madeList(source, 19))
		refused, _ := wantCommit(ended(s, 2, -1), madeList(source, 5))
		tried := s
		tried.Try = 98
		most, _ := wantCommit(tried, madeList(source, 2))
		two, _ := wantCommit(almost, madeList(source, 1))
		over, _ := wantCommit(endless(refused), madeList(source, 3))
		list = append(list, full, almost, endless(refused), tried, most, two, over)
	}
	for range 20 {
		s := newStore()
		for range source.Intn(12) {
			x, _ := wantCommit(ended(s, source.Intn(9)-1, -1), madeList(source, 1+source.Intn(8)))
			s = endless(x)
		}
		list = append(list, s)
	}
	// The cell of a page may have more than a page, as long as the log has another text for it.
	long := newStore()
	long.Disk = withCell(withCell(long.Disk, 4, strings.Repeat("y", 1200)), 22, wantFrame(1, 3, 0, 2, "!", "short"))
	long, _ = wantRead(long.Disk)
	return append(list, long)
}

// fewStores is stores of each sort, few enough for each act and many masks.
func fewStores() []impl.Store {
	source := rand.New(rand.NewSource(9))
	one, _ := wantCommit(newStore(), []impl.Page{{At: 0, Text: "first"}, {At: 4, Text: "second"}})
	full, _ := wantCommit(one, madeList(source, 18))
	refused, _ := wantCommit(ended(one, 2, -1), madeList(source, 4))
	tried := one
	tried.Try = 99
	return []impl.Store{newStore(), one, full, endless(refused), tried, atTurn(9), atTurn(99998), atTurn(99999)}
}

// badStores is stores that are not ok, each in one way.
func badStores() []impl.Store {
	good, _ := wantCommit(newStore(), []impl.Page{{At: 0, Text: "first"}, {At: 4, Text: "second"}})
	var list []impl.Store
	add := func(change func(s *impl.Store)) {
		s := good
		s.Disk.Cells, s.Pages = slices.Clone(s.Disk.Cells), slices.Clone(s.Pages)
		change(&s)
		list = append(list, s)
	}
	for _, d := range badDisks() {
		add(func(s *impl.Store) { s.Disk = d })
	}
	for _, n := range append([]int{0, 2, -1, 3}, badInts...) {
		add(func(s *impl.Store) { s.Turn = n })
	}
	for _, n := range append([]int{0, -1, 100, 101}, badInts...) {
		add(func(s *impl.Store) { s.Try = n })
	}
	for _, n := range append([]int{0, 1, 3, -1, 20}, badInts...) {
		add(func(s *impl.Store) { s.Next = n })
	}
	add(func(s *impl.Store) { s.Pages[0] = "second" })
	add(func(s *impl.Store) { s.Pages[19] = " " })
	add(func(s *impl.Store) { s.Pages = s.Pages[:19] })
	add(func(s *impl.Store) { s.Pages = append(s.Pages, "") })
	add(func(s *impl.Store) { s.Pages = nil })
	add(func(s *impl.Store) { s.Disk.Waits = []impl.Wait{{At: 30}} })
	add(func(s *impl.Store) { s.Disk.Waits = []impl.Wait{{At: 1, Text: "H1.1;"}} })
	add(func(s *impl.Store) { s.Disk.Cells[1] = "" })
	add(func(s *impl.Store) { s.Disk.Cells[0] = "H2.2;" })
	add(func(s *impl.Store) { s.Disk.Cells[9] = "x" })
	add(func(s *impl.Store) { s.Disk.Cells[23] = "" })
	add(func(s *impl.Store) { s.Disk.Cells[24] = wantFrame(1, 2, 2, 7, "!", "more") })
	add(func(s *impl.Store) { s.Disk.Cells[30] = wantFrame(1, 2, 8, 7, "-", "tried") })
	add(func(s *impl.Store) { s.Disk.Cells[30] = wantFrame(2, 1, 8, 7, "-", "later") })
	return append(list, impl.Store{})
}

// badLists is pages that cannot be committed, each list in one way.
func badLists() [][]impl.Page {
	list := [][]impl.Page{
		nil,
		{{At: 3}, {At: 3}},
		{{At: 3, Text: "a"}, {At: 2, Text: "b"}},
		{{At: 0}, {At: 1}, {At: 2}, {At: 2}},
		{{At: 5}, {At: 6}, {At: 0}},
		onePage(0, strings.Repeat("x", 1101)),
		onePage(19, strings.Repeat("x", 1200)),
		{{At: 0}, {At: 1, Text: strings.Repeat("x", 1101)}},
		append(wholeList("a"), impl.Page{At: 20}),
		append(wholeList("a"), impl.Page{At: 19}),
	}
	for _, at := range append([]int{-1, 20, 21, 42}, badInts...) {
		list = append(list, onePage(at, "a"))
	}
	return list
}
