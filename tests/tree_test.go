package tests

import (
	"fmt"
	"math/rand"
	"slices"
	"strings"
	"testing"

	"loop.example/jetton/impl"
)

func TestTreesHaveTheirConstants(t *testing.T) {
	got := []int{impl.NodeMax, impl.NodeMin, impl.TreeNodes, impl.KeyMax, impl.ValMax, impl.TreeFine, impl.TreeForm, impl.TreeFull, impl.TreeNone}
	if want := []int{4, 2, 19, 96, 140, 0, 1, 2, 3}; !slices.Equal(got, want) {
		t.Error(got, want)
	}
	mustTree(t, impl.TreeNew(), 0, emptyTree(), 0, "new")
}

func TestTreesThatAreOk(t *testing.T) {
	seen := map[int]bool{}
	for _, x := range someTrees() {
		levels, ok := wantLevels(x)
		if !ok {
			t.Fatal("no tree to try:", tellTree(x))
		}
		if !impl.TreeOk(x) || impl.TreeDeep(x) != len(levels) {
			t.Fatal(impl.TreeOk(x), impl.TreeDeep(x), tellTree(x))
		}
		seen[len(levels)] = true
	}
	if !seen[1] || !seen[2] || !seen[3] {
		t.Error(seen)
	}
}

func TestTreesThatAreNotOk(t *testing.T) {
	for _, x := range badTrees() {
		if wantTreeOk(x) {
			t.Fatal("a tree that is ok:", tellTree(x))
		}
		if impl.TreeOk(x) || impl.TreeDeep(x) != 0 {
			t.Fatal(tellTree(x))
		}
		for _, key := range append([]string{"a", "c", "d", "zz"}, badKeys...) {
			put, code := impl.TreePut(x, key, "v")
			mustTree(t, put, code, impl.Tree{}, 1, "put", tellTree(x))
			drop, code := impl.TreeDrop(x, key)
			mustTree(t, drop, code, impl.Tree{}, 1, "drop", tellTree(x))
			if val, ok := impl.TreeGet(x, key); val != "" || ok {
				t.Fatal(val, ok, tellTree(x))
			}
			if list := impl.TreeList(x, "", key); len(list) != 0 {
				t.Fatal(list, tellTree(x))
			}
		}
	}
}

// spoiltTree is a tree with one thing about it changed.
func spoiltTree(source *rand.Rand, t impl.Tree) impl.Tree {
	x := copyTree(t)
	at := source.Intn(19)
	if source.Intn(3) > 0 {
		for noNode(x.Nodes[at]) {
			at = source.Intn(19)
		}
	}
	n := &x.Nodes[at]
	some := nearKeys(t)
	key := some[source.Intn(len(some))]
	switch source.Intn(9) {
	case 0:
		x.Root = source.Intn(21) - 1
	case 1:
		n.Leaf = !n.Leaf
	case 2:
		n.Keys = append(n.Keys, key)
	case 3:
		n.Vals = append(n.Vals, key)
	case 4:
		n.Kids = append(n.Kids, source.Intn(21)-1)
	case 5:
		n.Keys = n.Keys[:max(0, len(n.Keys)-1)]
		n.Vals = n.Vals[:max(0, len(n.Vals)-1)]
	case 6:
		if len(n.Keys) > 0 {
			n.Keys[source.Intn(len(n.Keys))] = key
		}
	case 7:
		if len(n.Kids) > 0 {
			n.Kids[source.Intn(len(n.Kids))] = source.Intn(21) - 1
		}
	case 8:
		x.Nodes[at], x.Nodes[source.Intn(19)] = impl.Node{}, *n
	}
	return x
}

func TestTreesThatMayBeOk(t *testing.T) {
	source := rand.New(rand.NewSource(21))
	count := map[bool]int{}
	for _, x := range someTrees() {
		for range 120 {
			y := spoiltTree(source, x)
			ok := wantTreeOk(y)
			count[ok]++
			if impl.TreeOk(y) != ok {
				t.Fatal(!ok, tellTree(y))
			}
		}
	}
	if count[true] < 500 || count[false] < 5000 {
		t.Error(count)
	}
}

// withPair is a list with one more pair, or with another text of its key.
func withPair(list []impl.Pair, p impl.Pair) []impl.Pair {
	list = withoutKey(list, p.Key)
	list = append(list, p)
	slices.SortFunc(list, func(a, b impl.Pair) int { return strings.Compare(a.Key, b.Key) })
	return list
}

func withoutKey(list []impl.Pair, key string) []impl.Pair {
	return slices.DeleteFunc(slices.Clone(list), func(p impl.Pair) bool { return p.Key == key })
}

func TestP72WhatWasPutIsThere(t *testing.T) {
	codes := map[int]int{}
	for _, x := range someTrees() {
		all := impl.TreeList(x, "", "")
		for i, key := range nearKeys(x) {
			val := strings.Repeat("n", []int{0, 1, 2, 139, 140}[i%5])
			y, code := impl.TreePut(x, key, val)
			want, wantCode := wantTreePut(x, key, val)
			mustTree(t, y, code, want, wantCode, "put", key, tellTree(x))
			codes[code]++
			if code != 0 {
				continue
			}
			if got, ok := impl.TreeGet(y, key); !ok || got != val || !impl.TreeOk(y) {
				t.Fatal(got, ok, tellTree(y))
			}
			if !slices.Equal(impl.TreeList(y, "", ""), withPair(all, impl.Pair{Key: key, Val: val})) {
				t.Fatalf("%q %s", key, tellTree(x))
			}
		}
	}
	if codes[0] < 1000 || codes[2] < 100 {
		t.Error(codes)
	}
}

func TestP72WhatCannotBePut(t *testing.T) {
	for _, x := range someTrees() {
		for _, key := range badKeys {
			y, code := impl.TreePut(x, key, "v")
			mustTree(t, y, code, x, 1, "put", len(key), tellTree(x))
			if val, ok := impl.TreeGet(x, key); val != "" || ok {
				t.Fatal(val, ok, tellTree(x))
			}
		}
		for _, long := range []int{141, 142, 5000} {
			for _, key := range append(nearKeys(x)[:3], "k") {
				y, code := impl.TreePut(x, key, strings.Repeat("v", long))
				mustTree(t, y, code, x, 1, "put", key, long, tellTree(x))
			}
		}
		longest := strings.Repeat("k", 96)
		y, code := impl.TreePut(x, longest, strings.Repeat("v", 140))
		want, wantCode := wantTreePut(x, longest, strings.Repeat("v", 140))
		mustTree(t, y, code, want, wantCode, "longest", tellTree(x))
	}
}

// What comes of parting, told node by node.
func TestP72HowNodesAreParted(t *testing.T) {
	x := impl.TreeNew()
	for _, key := range []string{"a", "b", "c", "d"} {
		x, _ = impl.TreePut(x, key, key+key)
	}
	mustTree(t, x, 0, treeWith(0, map[int]impl.Node{0: leafOf("a", "b", "c", "d")}), 0, "a leaf of four")
	x, _ = impl.TreePut(x, "bb", "bbbb")
	mustTree(t, x, 0, treeWith(2, map[int]impl.Node{0: leafOf("a", "b", "bb"), 1: leafOf("c", "d"), 2: forkOf([]int{0, 1}, "c")}), 0, "a leaf of five")
	for _, key := range []string{"e", "f", "g", "h", "i", "j", "k", "l", "m"} {
		x, _ = impl.TreePut(x, key, key+key)
	}
	four := treeWith(2, map[int]impl.Node{0: leafOf("a", "b", "bb"), 1: leafOf("c", "d", "e"), 3: leafOf("f", "g", "h"), 4: leafOf("i", "j", "k"), 5: leafOf("l", "m"), 2: forkOf([]int{0, 1, 3, 4, 5}, "c", "f", "i", "l")})
	mustTree(t, x, 0, four, 0, "a root of four")
	x, _ = impl.TreePut(x, "cc", "cccc")
	x, _ = impl.TreePut(x, "dd", "dddd")
	five := treeWith(8, map[int]impl.Node{0: leafOf("a", "b", "bb"), 1: leafOf("c", "cc", "d"), 6: leafOf("dd", "e"), 3: leafOf("f", "g", "h"), 4: leafOf("i", "j", "k"), 5: leafOf("l", "m"),
		2: forkOf([]int{0, 1, 6}, "c", "dd"), 7: forkOf([]int{3, 4, 5}, "i", "l"), 8: forkOf([]int{2, 7}, "f")})
	mustTree(t, x, 0, five, 0, "a root of five")
}

// A new node is the first that is nothing, the lower ones first.
func TestP72NewNodesAreTheFirst(t *testing.T) {
	x := treeWith(3, map[int]impl.Node{3: leafOf("a", "b", "c", "d")})
	y, _ := impl.TreePut(x, "e", "ee")
	mustTree(t, y, 0, treeWith(1, map[int]impl.Node{3: leafOf("a", "b", "c"), 0: leafOf("d", "e"), 1: forkOf([]int{3, 0}, "d")}), 0, "from 3")
	x = treeWith(1, map[int]impl.Node{1: leafOf("a", "b", "c", "d")})
	y, _ = impl.TreePut(x, "e", "ee")
	mustTree(t, y, 0, treeWith(2, map[int]impl.Node{1: leafOf("a", "b", "c"), 0: leafOf("d", "e"), 2: forkOf([]int{1, 0}, "d")}), 0, "from 1")
}

func TestP73WhatIsPutTwiceHasTheLaterText(t *testing.T) {
	for _, x := range someTrees() {
		for _, key := range nearKeys(x) {
			first, code := impl.TreePut(x, key, "first")
			if code != 0 {
				continue
			}
			twice, code := impl.TreePut(first, key, "later")
			once, onceCode := impl.TreePut(x, key, "later")
			mustTree(t, twice, code, once, onceCode, "twice", key, tellTree(x))
			if code != 0 {
				t.Fatal(code, key, tellTree(x))
			}
		}
	}
}

func TestP74ATreeIsNotFullEarly(t *testing.T) {
	full := 0
	for _, x := range someTrees() {
		count := len(wantPairs(x))
		for _, key := range nearKeys(x) {
			y, code := impl.TreePut(x, key, "v")
			if code != 2 {
				continue
			}
			full++
			mustTree(t, y, code, x, 2, "full", key)
			if _, is := impl.TreeGet(x, key); is || count < 28 {
				t.Fatal(is, count, key, tellTree(x))
			}
		}
	}
	if full < 100 {
		t.Error("too few full ones:", full)
	}
}

// Keys that come and go in whatever order make no tree full that has fewer than 28.
func TestP74KeysThatComeAndGo(t *testing.T) {
	source := rand.New(rand.NewSource(22))
	keys := letters(60)
	for range 20 {
		x := impl.TreeNew()
		for range 200 {
			key := keys[source.Intn(len(keys))]
			put, code := impl.TreePut(x, key, "v")
			if code == 2 && len(wantPairs(x)) < 28 {
				t.Fatal(key, tellTree(x))
			}
			if len(wantPairs(put)) >= 28 || source.Intn(3) == 0 {
				put, _ = impl.TreeDrop(put, keys[source.Intn(len(keys))])
			}
			x = put
		}
	}
}

// A tree with all its nodes takes a key that needs none, and no other.
func TestP74AllNodesAndOneMore(t *testing.T) {
	sizes := []int{4, 2, 2, 2, 2, 2, 2, 3, 2, 2, 2, 2, 2, 2, 2}
	x := treeWith(15, map[int]impl.Node{})
	keys := letters(60)
	var firsts []string
	for i, size := range sizes {
		x.Nodes[i] = leafOf(keys[:size]...)
		firsts = append(firsts, keys[0])
		keys = keys[size+1:]
	}
	for i := range 3 {
		x.Nodes[16+i] = forkOf([]int{5 * i, 5*i + 1, 5*i + 2, 5*i + 3, 5*i + 4}, firsts[5*i+1:5*i+5]...)
	}
	x.Nodes[15] = forkOf([]int{16, 17, 18}, firsts[5], firsts[10])
	if !wantTreeOk(x) {
		t.Fatal("no tree to try:", tellTree(x))
	}
	y, code := impl.TreePut(x, "a", "v")
	mustTree(t, y, code, x, 2, "one more node")
	for i, first := range firsts[1:] {
		y, code = impl.TreePut(x, first+"x", "v")
		if code != 0 || len(y.Nodes[i+1].Keys) != sizes[i+1]+1 {
			t.Error(code, tellTree(y))
		}
	}
	y, code = impl.TreePut(x, firsts[0], "v")
	if code != 0 || y.Nodes[0].Vals[0] != "v" {
		t.Error(code, tellTree(y))
	}
	// One node is free, and two are needed: a leaf's, and its fork's.
	y, _ = impl.TreeDrop(x, firsts[14])
	if freeNode(y) < 0 {
		t.Fatal(tellTree(y))
	}
	z, code := impl.TreePut(y, "a", "v")
	mustTree(t, z, code, y, 2, "two more nodes")
}

func TestP75WhatWasTakenOutIsGone(t *testing.T) {
	codes := map[int]int{}
	for _, x := range someTrees() {
		all := impl.TreeList(x, "", "")
		for _, key := range append(nearKeys(x), badKeys...) {
			_, is := impl.TreeGet(x, key)
			y, code := impl.TreeDrop(x, key)
			want, wantCode := wantTreeDrop(x, key)
			mustTree(t, y, code, want, wantCode, "drop", key, tellTree(x))
			codes[code]++
			if is != (code == 0) || !is && code != 3 {
				t.Fatal(is, code, key)
			}
			if _, still := impl.TreeGet(y, key); still || !impl.TreeOk(y) || !slices.Equal(impl.TreeList(y, "", ""), withoutKey(all, key)) {
				t.Fatalf("%q %s", key, tellTree(x))
			}
		}
	}
	if codes[0] < 1000 || codes[3] < 1000 {
		t.Error(codes)
	}
}

// All of a tree goes, in several orders, until it is a leaf without keys.
func TestP75AllGoes(t *testing.T) {
	source := rand.New(rand.NewSource(23))
	for _, x := range someTrees() {
		order := source.Perm(len(wantPairs(x)))
		all := wantPairs(x)
		for _, i := range order {
			y, code := impl.TreeDrop(x, all[i].Key)
			want, wantCode := wantTreeDrop(x, all[i].Key)
			mustTree(t, y, code, want, wantCode, "drop", all[i].Key, tellTree(x))
			x = y
		}
		if !sameTree(x, treeWith(x.Root, map[int]impl.Node{x.Root: {Leaf: true}})) {
			t.Fatal(tellTree(x))
		}
	}
}

// lending is a key that goes, and what is left of a tree then.
type lending struct {
	what string
	from impl.Tree
	key  string
	to   impl.Tree
}

// leafTree is leaves under one root, the keys between them being the first of each but the first.
func leafTree(between []string, leaves ...impl.Node) impl.Tree {
	nodes := map[int]impl.Node{}
	var kids []int
	for i, n := range leaves {
		nodes[i+4] = n
		kids = append(kids, i+4)
	}
	nodes[1] = forkOf(kids, between...)
	return treeWith(1, nodes)
}

func TestP75HowLeavesAreMended(t *testing.T) {
	a, b, c := leafOf("a", "b"), leafOf("f", "g"), leafOf("k", "l")
	list := []lending{
		{"of the one ahead", leafTree([]string{"f", "k"}, leafOf("a", "b", "c"), b, leafOf("k", "l", "m")), "g", leafTree([]string{"c", "k"}, a, leafOf("c", "f"), leafOf("k", "l", "m"))},
		{"of the one behind", leafTree([]string{"f", "k"}, a, b, leafOf("k", "l", "m")), "g", leafTree([]string{"f", "l"}, a, leafOf("f", "k"), leafOf("l", "m"))},
		{"of the one behind, without one ahead", leafTree([]string{"f", "k"}, a, leafOf("f", "g", "h"), c), "a", leafTree([]string{"g", "k"}, leafOf("b", "f"), leafOf("g", "h"), c)},
		{"with the one ahead", leafTree([]string{"f", "k"}, a, b, c), "f", leafTree([]string{"k"}, leafOf("a", "b", "g"), c)},
		{"with the one behind", leafTree([]string{"f", "k"}, a, b, c), "b", leafTree([]string{"k"}, leafOf("a", "f", "g"), c)},
		{"the last one", leafTree([]string{"f", "k"}, a, b, c), "k", leafTree([]string{"f"}, a, leafOf("f", "g", "l"))},
		{"a key between that stays", leafTree([]string{"f", "k"}, a, leafOf("f", "g", "h"), c), "f", leafTree([]string{"f", "k"}, a, leafOf("g", "h"), c)},
		{"a key between that is no leaf's", leafTree([]string{"e", "j"}, a, b, c), "l", leafTree([]string{"e"}, a, leafOf("f", "g", "k"))},
		{"two become the root", leafTree([]string{"f"}, a, b), "g", treeWith(4, map[int]impl.Node{4: leafOf("a", "b", "f")})},
	}
	// The later one of two is nothing then, and what is behind it keeps its number.
	list[3].to = treeWith(1, map[int]impl.Node{1: forkOf([]int{4, 6}, "k"), 4: leafOf("a", "b", "g"), 6: c})
	list[4].to = treeWith(1, map[int]impl.Node{1: forkOf([]int{4, 6}, "k"), 4: leafOf("a", "f", "g"), 6: c})
	for _, l := range list {
		x, code := impl.TreeDrop(l.from, l.key)
		mustTree(t, x, code, l.to, 0, l.what)
	}
}

// forkTree is forks under one root, each with leaves of two keys that begin with its letters.
func forkTree(between []string, forks ...string) impl.Tree {
	x := treeWith(0, map[int]impl.Node{})
	root := impl.Node{Keys: between}
	next := len(forks) + 1
	for i, word := range forks {
		fork := impl.Node{}
		for j := range len(word) {
			letter := word[j : j+1]
			if j > 0 {
				fork.Keys = append(fork.Keys, letter)
			}
			fork.Kids = append(fork.Kids, next)
			x.Nodes[next] = leafOf(letter+"1", letter+"2")
			next++
		}
		x.Nodes[i+1] = fork
		root.Kids = append(root.Kids, i+1)
	}
	x.Nodes[0] = root
	return x
}

func TestP75HowForksAreMended(t *testing.T) {
	ahead := forkTree([]string{"f", "k"}, "abcd", "fgh", "klm")
	x, code := impl.TreeDrop(ahead, "g2")
	want := copyTree(ahead)
	want.Nodes[0].Keys = []string{"d", "k"}
	want.Nodes[1] = forkOf([]int{4, 5, 6}, "b", "c")
	want.Nodes[2] = forkOf([]int{7, 8, 10}, "f", "h")
	want.Nodes[8], want.Nodes[9] = leafOf("f1", "f2", "g1"), impl.Node{}
	mustTree(t, x, code, want, 0, "of the one ahead")

	behind := forkTree([]string{"f", "k"}, "abc", "fgh", "klmn")
	x, code = impl.TreeDrop(behind, "g2")
	want = copyTree(behind)
	want.Nodes[0].Keys = []string{"f", "l"}
	want.Nodes[2] = forkOf([]int{7, 9, 10}, "h", "k")
	want.Nodes[3] = forkOf([]int{11, 12, 13}, "m", "n")
	want.Nodes[7], want.Nodes[8] = leafOf("f1", "f2", "g1"), impl.Node{}
	mustTree(t, x, code, want, 0, "of the one behind")

	none := forkTree([]string{"f", "k"}, "abc", "fgh", "klm")
	x, code = impl.TreeDrop(none, "g2")
	want = copyTree(none)
	want.Nodes[0] = forkOf([]int{1, 3}, "k")
	want.Nodes[1] = forkOf([]int{4, 5, 6, 7, 9}, "b", "c", "f", "h")
	want.Nodes[2], want.Nodes[8] = impl.Node{}, impl.Node{}
	want.Nodes[7] = leafOf("f1", "f2", "g1")
	mustTree(t, x, code, want, 0, "with the one ahead")

	x, code = impl.TreeDrop(none, "b2")
	want = copyTree(none)
	want.Nodes[0] = forkOf([]int{1, 3}, "k")
	want.Nodes[1] = forkOf([]int{4, 6, 7, 8, 9}, "c", "f", "g", "h")
	want.Nodes[2], want.Nodes[5] = impl.Node{}, impl.Node{}
	want.Nodes[4] = leafOf("a1", "a2", "b1")
	mustTree(t, x, code, want, 0, "with the one behind")

	two := forkTree([]string{"f"}, "abc", "fgh")
	x, code = impl.TreeDrop(two, "h1")
	want = copyTree(two)
	want.Root = 1
	want.Nodes[0], want.Nodes[2], want.Nodes[8] = impl.Node{}, impl.Node{}, impl.Node{}
	want.Nodes[1] = forkOf([]int{3, 4, 5, 6, 7}, "b", "c", "f", "g")
	want.Nodes[7] = leafOf("g1", "g2", "h2")
	mustTree(t, x, code, want, 0, "a root that is left with one kid")
}

func TestP76WhatWasPutAndTakenOut(t *testing.T) {
	for _, x := range someTrees() {
		all := impl.TreeList(x, "", "")
		for _, key := range nearKeys(x) {
			if _, is := wantTreeGet(x, key); is {
				continue
			}
			put, code := impl.TreePut(x, key, "v")
			if code != 0 {
				continue
			}
			y, code := impl.TreeDrop(put, key)
			if code != 0 || !impl.TreeOk(y) || !slices.Equal(impl.TreeList(y, "", ""), all) {
				t.Fatalf("%d %q %s", code, key, tellTree(x))
			}
		}
	}
}

func TestP77TwoKeysInEitherOrder(t *testing.T) {
	source := rand.New(rand.NewSource(24))
	for _, x := range someTrees() {
		keys := nearKeys(x)
		for range 30 {
			a, b := keys[source.Intn(len(keys))], keys[source.Intn(len(keys))]
			if a == b {
				continue
			}
			one, code1 := impl.TreePut(x, a, "a")
			one, code2 := impl.TreePut(one, b, "b")
			two, code3 := impl.TreePut(x, b, "b")
			two, code4 := impl.TreePut(two, a, "a")
			if code1+code2+code3+code4 != 0 {
				continue
			}
			list := impl.TreeList(one, "", "")
			want := withPair(withPair(wantPairs(x), impl.Pair{Key: a, Val: "a"}), impl.Pair{Key: b, Val: "b"})
			if !slices.Equal(list, impl.TreeList(two, "", "")) || !slices.Equal(list, want) {
				t.Fatalf("%q %q %s", a, b, tellTree(x))
			}
		}
	}
}

func TestP78WhatIsListed(t *testing.T) {
	source := rand.New(rand.NewSource(25))
	for _, x := range someTrees() {
		all := wantPairs(x)
		ends := append(nearKeys(x), append([]string{""}, badKeys...)...)
		mustList(t, x, "", "", all)
		for _, p := range all {
			mustList(t, x, p.Key, "", wantTreeList(x, p.Key, ""))
			mustList(t, x, "", p.Key, wantTreeList(x, "", p.Key))
			mustList(t, x, p.Key, p.Key, nil)
			mustList(t, x, p.Key, p.Key+"\x00", []impl.Pair{p})
			if val, ok := impl.TreeGet(x, p.Key); val != p.Val || !ok {
				t.Fatal(val, ok, p)
			}
		}
		for range 60 {
			low, high := ends[source.Intn(len(ends))], ends[source.Intn(len(ends))]
			mustList(t, x, low, high, wantTreeList(x, low, high))
		}
		for _, key := range ends {
			val, ok := impl.TreeGet(x, key)
			want, wantOk := wantTreeGet(x, key)
			if val != want || ok != wantOk {
				t.Fatal(val, ok, want, wantOk, key)
			}
		}
	}
}

func mustList(t *testing.T, x impl.Tree, low, high string, want []impl.Pair) {
	t.Helper()
	if got := impl.TreeList(x, low, high); !slices.Equal(got, want) {
		t.Fatalf("%q %q: %.40q, want %.40q; %s", low, high, got, want, tellTree(x))
	}
}

func TestP79ATreeIsNoDeeperThanThree(t *testing.T) {
	least := map[int]int{1: 99, 2: 99, 3: 99}
	source := rand.New(rand.NewSource(26))
	list := someTrees()
	for range 300 {
		list = append(list, madeTree(source))
	}
	for _, x := range list {
		count, deep := len(wantPairs(x)), impl.TreeDeep(x)
		levels, _ := wantLevels(x)
		if deep != len(levels) || deep < 1 || deep > 3 {
			t.Fatal(deep, tellTree(x))
		}
		least[deep] = min(least[deep], count)
		if deep == 1 && count > 4 {
			t.Fatal(count, tellTree(x))
		}
	}
	if least[1] != 0 || least[2] != 4 || least[3] != 12 {
		t.Error(least)
	}
}

// Keys come and go at random: each tree on the way is that of the second one, number by number.
func TestTreesGoTheSameWay(t *testing.T) {
	source := rand.New(rand.NewSource(27))
	for round := range 12 {
		x := impl.TreeNew()
		keys := madeKeys(source, 30+3*round)
		for range 250 {
			key := keys[source.Intn(len(keys))]
			val := fmt.Sprint(source.Intn(100))
			if source.Intn(5) < 2 {
				y, code := impl.TreeDrop(x, key)
				want, wantCode := wantTreeDrop(x, key)
				mustTree(t, y, code, want, wantCode, "drop", key, tellTree(x))
				x = y
				continue
			}
			y, code := impl.TreePut(x, key, val)
			want, wantCode := wantTreePut(x, key, val)
			mustTree(t, y, code, want, wantCode, "put", key, tellTree(x))
			x = y
		}
	}
}

// someNodes is nodes that are ok, of each number of keys, short and long.
func someNodes() []impl.Node {
	list := []impl.Node{{Leaf: true}, forkOf([]int{0, 0}, "a"), forkOf([]int{18, 18, 18}, "a", "b")}
	for n := 1; n <= 4; n++ {
		leaf, fork := impl.Node{Leaf: true}, impl.Node{Kids: []int{18}}
		odd, oddFork := impl.Node{Leaf: true}, impl.Node{Kids: []int{0}}
		for i := range n {
			leaf.Keys = append(leaf.Keys, strings.Repeat(string(rune('a'+i)), 96))
			leaf.Vals = append(leaf.Vals, strings.Repeat("v", 140))
			odd.Keys = append(odd.Keys, []string{"\x00", "1,0:", "L", "\xff"}[i])
			odd.Vals = append(odd.Vals, []string{"", ":", "0,", "\n"}[i])
			fork.Kids, oddFork.Kids = append(fork.Kids, 17-i), append(oddFork.Kids, i*9%19)
		}
		fork.Keys, oddFork.Keys = leaf.Keys, odd.Keys
		list = append(list, leaf, fork, odd, oddFork)
	}
	for _, x := range someTrees() {
		for _, n := range x.Nodes {
			if !noNode(n) {
				list = append(list, n)
			}
		}
	}
	return list
}

func TestP80NodesAreReadBack(t *testing.T) {
	for _, n := range someNodes() {
		text := impl.NodePut(n)
		if text != wantNodePut(n) || text == "" || len(text) > 1100 {
			t.Fatalf("%q %q", text, wantNodePut(n))
		}
		got, ok := impl.NodeGet(text)
		if !ok || !sameNode(got, n) {
			t.Fatal(ok, got, n)
		}
	}
	if got, ok := impl.NodeGet(impl.NodePut(impl.Node{})); !ok || !noNode(got) || impl.NodePut(impl.Node{}) != "" {
		t.Error(ok, got)
	}
	for text, n := range map[string]impl.Node{
		"L":                     {Leaf: true},
		"L1,0:a":                {Leaf: true, Keys: []string{"a"}, Vals: []string{""}},
		"L3,0:,:12,3:ab12:":     {Leaf: true, Keys: []string{",:1", "ab"}, Vals: []string{"", "12:"}},
		"N0:1,18:a":             forkOf([]int{0, 18}, "a"),
		"N10:1,2:a1,3:b2,10:cd": forkOf([]int{10, 2, 3, 10}, "a", "b", "cd"),
	} {
		if got := impl.NodePut(n); got != text {
			t.Errorf("%q, want %q", got, text)
		}
		if got, ok := impl.NodeGet(text); !ok || !sameNode(got, n) {
			t.Errorf("%q: %v %v", text, got, ok)
		}
	}
}

func TestP80NodesThatAreNotOk(t *testing.T) {
	for _, n := range badNodes() {
		if wantNodeOk(n) || noNode(n) {
			t.Fatal("a node that is ok:", n)
		}
		if text := impl.NodePut(n); text != "" {
			t.Fatalf("%v %q", n, text)
		}
	}
}

func mustNode(t *testing.T, s string) bool {
	t.Helper()
	n, ok := impl.NodeGet(s)
	want, wantOk := wantNodeGet(s)
	if ok != wantOk || !sameNode(n, want) {
		t.Fatalf("%q: %v %v, want %v %v", s, n, ok, want, wantOk)
	}
	if ok && impl.NodePut(n) != s {
		t.Fatalf("%q: %q", s, impl.NodePut(n))
	}
	return ok
}

func TestP81WhatIsReadAsANodeIsWrittenSo(t *testing.T) {
	source := rand.New(rand.NewSource(28))
	bytes := "LN0123456789,:ab-+ \x00\xff"
	oks := 0
	for _, n := range someNodes() {
		text := impl.NodePut(n)
		mustNode(t, text)
		for range 12 {
			at := source.Intn(len(text))
			x := bytes[source.Intn(len(bytes))]
			for _, s := range []string{
				text[:at] + string([]byte{x}) + text[at+1:],
				text[:at] + string([]byte{x}) + text[at:],
				text[:at] + text[at+1:],
				text[:at],
				text[at:],
				text + text[at:],
			} {
				if mustNode(t, s) {
					oks++
				}
			}
		}
	}
	if oks < 200 {
		t.Error("too few that are nodes:", oks)
	}
}

func TestP81TextsThatAreNoNodes(t *testing.T) {
	eachText("LN01,:a", 7, func(s string) { mustNode(t, s) })
	leaf := "L1,0:a"
	for _, s := range []string{
		"l", "n", "X", " ", "L ", " L", "LL", "L1", "L1,", "L1,0", "L1,0:", "L1,1:a", "L0,0:", "L0,1:a", "L01,0:a", "L1,00:a", "L+1,0:a", "L1,+0:a", "L-1,0:a", "L1,-0:a", "L1,-1:a",
		leaf + " ", leaf + "1", leaf + leaf, "L1,0:b1,0:a", "L1,0:a1,0:a", "L1,0:a1,0:b1,0:c1,0:d1,0:e", "L1 ,0:a", "L1, 0:a", "L1,0 :a", "L97,0:" + strings.Repeat("a", 97), "L1,141:a" + strings.Repeat("v", 141),
		"L99999999999999999999,0:a", "L1,99999999999999999999:a", "L9223372036854775807,9223372036854775807:a",
		"N", "N0", "N0:", "N:", "N:1,1:a", "N0:1,19:a", "N19:1,0:a", "N-1:1,0:a", "N+0:1,1:a", "N00:1,1:a", "N0:01,1:a", "N0:1,01:a", "N0:1,1:", "N0:0,1:", "N0:2,1:a", "N0:1,1:ab", "N0:1,1:b1,2:a", "N0:1,1:a1,2:a",
		"N0:1,1:a1,2:b1,3:c1,4:d1,5:e", "N0:97,1:" + strings.Repeat("a", 97), "N0:1,1", "N0:1", "NL", "LN0:1,1:a", "N0:1,1:a ", "N99999999999999999999:1,1:a", strings.Repeat("L1,0:a", 3000), strings.Repeat("N0:1,1:a", 3000), "N0:" + strings.Repeat("1,1:a", 3000),
	} {
		if mustNode(t, s) {
			t.Errorf("%.80q", s)
		}
	}
}
