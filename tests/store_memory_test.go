package tests

import (
	"math/rand"
	"runtime"
	"slices"
	"testing"
	"time"

	"loop.example/jetton/impl"
)

func (l *loan) disk(d impl.Disk) impl.Disk {
	d.Cells = lent(l, d.Cells, "spare")
	d.Waits = lent(l, d.Waits, impl.Wait{At: 9, Text: "spare"})
	return d
}

func (l *loan) store(s impl.Store) impl.Store {
	s.Disk = l.disk(s.Disk)
	s.Pages = lent(l, s.Pages, "spare")
	return s
}

func (l *loan) pages(list []impl.Page) []impl.Page {
	return lent(l, list, impl.Page{At: 19, Text: "spare"})
}

func (l *loan) steps(list []impl.StoreStep) []impl.StoreStep {
	list = slices.Clone(list)
	for i := range list {
		list[i].List = l.pages(list[i].List)
	}
	return lent(l, list, impl.StoreStep{Kind: 2, List: onePage(5, "spare"), Room: -1, Left: -1})
}

// answered is a list of an answer, spare room included: how to write all over it, and whether it is as it was.
type answered struct {
	spoil func()
	stays func() bool
}

func answeredList[T comparable](list []T, spoilt T) answered {
	list = list[:cap(list)]
	before := slices.Clone(list)
	return answered{
		spoil: func() {
			for i := range list {
				list[i] = spoilt
			}
		},
		stays: func() bool { return slices.Equal(list, before) },
	}
}

// answeredLists is each list of stores.
func answeredLists(stores []impl.Store) []answered {
	var lists []answered
	for _, s := range stores {
		lists = append(lists, answeredList(s.Disk.Cells, "spoilt"), answeredList(s.Disk.Waits, impl.Wait{At: -7, Text: "spoilt"}), answeredList(s.Pages, "spoilt"))
	}
	return lists
}

// askedStores makes a call that must not panic, write into what was lent, or answer with memory that is not new.
func askedStores(t *testing.T, l *loan, call func() []impl.Store, what ...any) {
	t.Helper()
	defer func() {
		if e := recover(); e != nil {
			t.Fatal("panics:", e, what)
		}
	}()
	lists := answeredLists(call())
	if !l.isKept(nil) {
		t.Fatal("writes into an argument:", what)
	}
	for i, list := range lists {
		list.spoil()
		if !l.isKept(nil) {
			t.Fatal("answers with memory of an argument:", what)
		}
		for _, other := range lists[i+1:] {
			if !other.stays() {
				t.Fatal("answers with two lists that share memory:", what)
			}
		}
	}
}

// disksOf is disks as stores.
func disksOf(disks ...impl.Disk) []impl.Store {
	var stores []impl.Store
	for _, d := range disks {
		stores = append(stores, impl.Store{Disk: d})
	}
	return stores
}

// diskCalls is each function that takes a disk.
func diskCalls(d impl.Disk, at int, text string, n int) map[string]func() []impl.Store {
	return map[string]func() []impl.Store{
		"DiskOk":    func() []impl.Store { impl.DiskOk(d); return nil },
		"DiskRead":  func() []impl.Store { impl.DiskRead(d, at); return nil },
		"DiskWrite": func() []impl.Store { x, _ := impl.DiskWrite(d, at, text); return disksOf(x) },
		"DiskSync":  func() []impl.Store { return disksOf(impl.DiskSync(d)) },
		"DiskCrash": func() []impl.Store { return disksOf(impl.DiskCrash(d, n, at, n)) },
		"DiskSet":   func() []impl.Store { return disksOf(impl.DiskSet(d, n, at)) },
		"StoreRead": func() []impl.Store { x, _ := impl.StoreRead(d); return []impl.Store{x} },
		"StoreRise": func() []impl.Store { x, _ := impl.StoreRise(d); return []impl.Store{x} },
		"all of them": func() []impl.Store {
			x, _ := impl.DiskWrite(d, at, text)
			y, _ := impl.StoreRead(d)
			z, _ := impl.StoreRise(d)
			return append(disksOf(x, impl.DiskSync(d), impl.DiskCrash(d, n, at, n), impl.DiskSet(d, n, at)), y, z)
		},
	}
}

// storeCalls is each function that takes a store.
func storeCalls(s impl.Store, list []impl.Page, n int) map[string]func() []impl.Store {
	return map[string]func() []impl.Store{
		"StoreOk":     func() []impl.Store { impl.StoreOk(s); return nil },
		"StoreRest":   func() []impl.Store { x, _ := impl.StoreRest(s); return []impl.Store{x} },
		"StoreCommit": func() []impl.Store { x, _ := impl.StoreCommit(s, list); return []impl.Store{x} },
		"StoreSet":    func() []impl.Store { return []impl.Store{impl.StoreSet(s, n, n)} },
		"all of them": func() []impl.Store {
			x, _ := impl.StoreRest(s)
			y, _ := impl.StoreCommit(s, list)
			return []impl.Store{x, y, impl.StoreSet(s, n, n)}
		},
	}
}

func TestDisksKeepMemoryApart(t *testing.T) {
	disks := append(someDisks(), badDisks()...)
	for _, s := range append(someStores(), badStores()...) {
		disks = append(disks, s.Disk)
	}
	numbers := append([]int{-2, -1, 0, 1, 2, 41, 42}, badInts...)
	for i, d := range disks {
		for j, n := range numbers {
			l := &loan{}
			for name, call := range diskCalls(l.disk(d), numbers[(i+j)%len(numbers)], cellTexts[(i+j)%len(cellTexts)], n) {
				askedStores(t, l, call, name, n)
			}
		}
	}
}

func TestStoresKeepMemoryApart(t *testing.T) {
	source := rand.New(rand.NewSource(10))
	for _, s := range append(someStores(), badStores()...) {
		lists := append(badLists(), madeList(source, 1), madeList(source, 3), madeList(source, 20))
		for i, list := range lists {
			l := &loan{}
			x := l.store(s)
			if i%3 > 0 && impl.DiskOk(s.Disk) {
				x.Disk = withEnds(x.Disk, source.Intn(8)-1, source.Intn(8)-1)
			}
			for name, call := range storeCalls(x, l.pages(list), source.Intn(5)-2) {
				askedStores(t, l, call, name, tell(s))
			}
		}
	}
}

func TestPlaysKeepMemoryApart(t *testing.T) {
	source := rand.New(rand.NewSource(11))
	for range 200 {
		steps := make([]impl.StoreStep, source.Intn(20))
		for i := range steps {
			steps[i] = madeStep(source)
		}
		l := &loan{}
		x := l.steps(steps)
		askedStores(t, l, func() []impl.Store { return []impl.Store{impl.StorePlay(x), impl.StorePlay(x)} }, "StorePlay")
	}
}

// What takes no list must still answer with new memory, call by call.
func TestNewDisksAndStoresAreApart(t *testing.T) {
	askedStores(t, &loan{}, func() []impl.Store { return disksOf(impl.DiskNew(), impl.DiskNew()) }, "DiskNew")
	askedStores(t, &loan{}, func() []impl.Store { return []impl.Store{impl.StoreNew(), impl.StoreNew()} }, "StoreNew")
	mustDisk(t, impl.DiskNew(), emptyDisk(), "new")
	mustStore(t, impl.StoreNew(), 0, newStore(), 0, "new")
}

// No goroutine is left behind by a call, be it fine, refused or down.
func TestNoGoroutineStays(t *testing.T) {
	before := runtime.NumGoroutine()
	for _, s := range someStores() {
		for room := -1; room < 3; room++ {
			for left := -1; left < 3; left++ {
				x := ended(s, room, left)
				impl.StoreCommit(x, wholeList("a"))
				impl.StoreRest(x)
				impl.StoreRise(x.Disk)
				impl.DiskWrite(x.Disk, 3, "a")
				impl.DiskRead(impl.DiskSync(x.Disk), 3)
			}
		}
	}
	// One that has told all may take a moment to go.
	for range 1000 {
		if runtime.NumGoroutine() <= before {
			return
		}
		time.Sleep(time.Millisecond)
	}
	t.Error(runtime.NumGoroutine()-before, "goroutines stay")
}
