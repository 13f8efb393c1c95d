package tests

import (
	"fmt"
	"math/rand"
	"regexp"
	"slices"
	"strconv"
	"strings"
	"testing"

	"loop.example/jetton/impl"
)

// The second tree: its nodes stay in their list and are told by their numbers; a way down is a list of places.

func sameNode(a, b impl.Node) bool {
	return a.Leaf == b.Leaf && slices.Equal(a.Keys, b.Keys) && slices.Equal(a.Vals, b.Vals) && slices.Equal(a.Kids, b.Kids)
}

func noNode(n impl.Node) bool {
	return sameNode(n, impl.Node{})
}

func sameTree(a, b impl.Tree) bool {
	return a.Root == b.Root && slices.EqualFunc(a.Nodes, b.Nodes, sameNode)
}

func noTree(t impl.Tree) bool {
	return sameTree(t, impl.Tree{})
}

func copyNode(n impl.Node) impl.Node {
	return impl.Node{Leaf: n.Leaf, Keys: slices.Clone(n.Keys), Vals: slices.Clone(n.Vals), Kids: slices.Clone(n.Kids)}
}

func copyTree(t impl.Tree) impl.Tree {
	x := impl.Tree{Root: t.Root}
	for _, n := range t.Nodes {
		x.Nodes = append(x.Nodes, copyNode(n))
	}
	return x
}

func mustTree(t *testing.T, got impl.Tree, gotCode int, want impl.Tree, wantCode int, what ...any) {
	t.Helper()
	if gotCode != wantCode || !sameTree(got, want) {
		t.Fatalf("%.2000v: %d, want %d\n%s\n%s", what, gotCode, wantCode, tellTree(got), tellTree(want))
	}
}

// tellTree is a tree in a few words.
func tellTree(t impl.Tree) string {
	words := []string{strconv.Itoa(t.Root)}
	for at, n := range t.Nodes {
		if !noNode(n) {
			words = append(words, fmt.Sprintf("%d:%v %.20q %v", at, n.Leaf, n.Keys, n.Kids))
		}
	}
	return strings.Join(words, "; ")
}

func emptyTree() impl.Tree {
	return treeWith(0, map[int]impl.Node{0: {Leaf: true}})
}

// treeWith has these nodes, and no others.
func treeWith(root int, nodes map[int]impl.Node) impl.Tree {
	t := impl.Tree{Root: root, Nodes: make([]impl.Node, 19)}
	for at, n := range nodes {
		t.Nodes[at] = n
	}
	return t
}

// leafOf has keys, the text of each being its own, twice.
func leafOf(keys ...string) impl.Node {
	n := impl.Node{Leaf: true, Keys: keys}
	for _, key := range keys {
		n.Vals = append(n.Vals, key+key)
	}
	return n
}

func forkOf(kids []int, keys ...string) impl.Node {
	return impl.Node{Keys: keys, Kids: kids}
}

func wantNodeOk(n impl.Node) bool {
	if len(n.Keys) > 4 {
		return false
	}
	for i, key := range n.Keys {
		if key == "" || len(key) > 96 || i > 0 && n.Keys[i-1] >= key {
			return false
		}
	}
	for _, val := range n.Vals {
		if len(val) > 140 {
			return false
		}
	}
	for _, kid := range n.Kids {
		if kid < 0 || kid > 18 {
			return false
		}
	}
	if n.Leaf {
		return len(n.Kids) == 0 && len(n.Vals) == len(n.Keys)
	}
	return len(n.Vals) == 0 && len(n.Keys) > 0 && len(n.Kids) == len(n.Keys)+1
}

// ranged is a node, and between which texts its keys must be; no high end is the empty text.
type ranged struct {
	at        int
	low, high string
}

// rangedOk looks at a node by itself, and at its range.
func rangedOk(t impl.Tree, r ranged) bool {
	n := t.Nodes[r.at]
	if !wantNodeOk(n) || r.at != t.Root && len(n.Keys) < 2 {
		return false
	}
	for _, key := range n.Keys {
		if key < r.low || r.high != "" && key >= r.high {
			return false
		}
	}
	return true
}

// wantLevels is the numbers of the nodes, level by level; false, if the tree is not ok.
func wantLevels(t impl.Tree) ([][]int, bool) {
	if len(t.Nodes) != 19 || t.Root < 0 || t.Root > 18 {
		return nil, false
	}
	led := map[int]bool{t.Root: true}
	var levels [][]int
	for level := []ranged{{at: t.Root}}; len(level) > 0; {
		var next []ranged
		var ats []int
		leaves := 0
		for _, r := range level {
			if !rangedOk(t, r) {
				return nil, false
			}
			n := t.Nodes[r.at]
			if n.Leaf {
				leaves++
			}
			ends := append(append([]string{r.low}, n.Keys...), r.high)
			for i, kid := range n.Kids {
				if led[kid] {
					return nil, false
				}
				led[kid] = true
				next = append(next, ranged{at: kid, low: ends[i], high: ends[i+1]})
			}
			ats = append(ats, r.at)
		}
		if leaves != 0 && leaves != len(level) {
			return nil, false
		}
		levels, level = append(levels, ats), next
	}
	for at, n := range t.Nodes {
		if !led[at] && !noNode(n) {
			return nil, false
		}
	}
	return levels, true
}

func wantTreeOk(t impl.Tree) bool {
	_, ok := wantLevels(t)
	return ok
}

// wantPairs is all pairs of a tree that is ok.
func wantPairs(t impl.Tree) []impl.Pair {
	levels, ok := wantLevels(t)
	if !ok {
		return nil
	}
	var list []impl.Pair
	for _, at := range levels[len(levels)-1] {
		for i, key := range t.Nodes[at].Keys {
			list = append(list, impl.Pair{Key: key, Val: t.Nodes[at].Vals[i]})
		}
	}
	return list
}

func wantTreeList(t impl.Tree, low, high string) []impl.Pair {
	var list []impl.Pair
	for _, p := range wantPairs(t) {
		if p.Key >= low && (high == "" || p.Key < high) {
			list = append(list, p)
		}
	}
	return list
}

// wantTreeGet looks through all pairs.
func wantTreeGet(t impl.Tree, key string) (string, bool) {
	for _, p := range wantPairs(t) {
		if p.Key == key {
			return p.Val, true
		}
	}
	return "", false
}

// waypoint is a node, and the place of the kid at which the way goes on.
type waypoint struct {
	at, place int
}

// wantPath is the way to the leaf to which a key belongs.
func wantPath(t impl.Tree, key string) []waypoint {
	var path []waypoint
	at := t.Root
	for !t.Nodes[at].Leaf {
		place := 0
		for place < len(t.Nodes[at].Keys) && t.Nodes[at].Keys[place] <= key {
			place++
		}
		path = append(path, waypoint{at, place})
		at = t.Nodes[at].Kids[place]
	}
	return append(path, waypoint{at: at})
}

// freeNode is the first node that is nothing; -1, if there is none.
func freeNode(t impl.Tree) int {
	return slices.IndexFunc(t.Nodes, noNode)
}

func wantTreePut(t impl.Tree, key, val string) (impl.Tree, int) {
	if !wantTreeOk(t) {
		return impl.Tree{}, 1
	}
	if key == "" || len(key) > 96 || len(val) > 140 {
		return t, 1
	}
	x := copyTree(t)
	path := wantPath(x, key)
	leaf := &x.Nodes[path[len(path)-1].at]
	place := 0
	for place < len(leaf.Keys) && leaf.Keys[place] < key {
		place++
	}
	if place < len(leaf.Keys) && leaf.Keys[place] == key {
		leaf.Vals[place] = val
		return x, 0
	}
	leaf.Keys = slices.Insert(leaf.Keys, place, key)
	leaf.Vals = slices.Insert(leaf.Vals, place, val)
	for i := len(path) - 1; i >= 0 && len(x.Nodes[path[i].at].Keys) > 4; i-- {
		if !wantParted(&x, path[:i+1]) {
			return t, 2
		}
	}
	return x, 0
}

// wantParted parts the last node of a way; false, if there is no node for it.
func wantParted(x *impl.Tree, path []waypoint) bool {
	at := path[len(path)-1].at
	free := freeNode(*x)
	if free < 0 {
		return false
	}
	n := copyNode(x.Nodes[at])
	up := n.Keys[2]
	x.Nodes[at] = impl.Node{Keys: n.Keys[:2], Kids: n.Kids[:min(len(n.Kids), 3)]}
	x.Nodes[free] = copyNode(impl.Node{Keys: n.Keys[3:], Kids: n.Kids[min(len(n.Kids), 3):]})
	if n.Leaf {
		up = n.Keys[3]
		x.Nodes[at] = impl.Node{Leaf: true, Keys: n.Keys[:3], Vals: n.Vals[:3]}
		x.Nodes[free] = copyNode(impl.Node{Leaf: true, Keys: n.Keys[3:], Vals: n.Vals[3:]})
	}
	if len(path) > 1 {
		above := path[len(path)-2]
		a := &x.Nodes[above.at]
		a.Keys = slices.Insert(slices.Clone(a.Keys), above.place, up)
		a.Kids = slices.Insert(slices.Clone(a.Kids), above.place+1, free)
		return true
	}
	root := freeNode(*x)
	if root < 0 {
		return false
	}
	x.Nodes[root] = impl.Node{Keys: []string{up}, Kids: []int{at, free}}
	x.Root = root
	return true
}

func wantTreeDrop(t impl.Tree, key string) (impl.Tree, int) {
	if !wantTreeOk(t) {
		return impl.Tree{}, 1
	}
	x := copyTree(t)
	path := wantPath(x, key)
	leaf := &x.Nodes[path[len(path)-1].at]
	place := slices.Index(leaf.Keys, key)
	if place < 0 {
		return t, 3
	}
	leaf.Keys = slices.Delete(leaf.Keys, place, place+1)
	leaf.Vals = slices.Delete(leaf.Vals, place, place+1)
	for i := len(path) - 1; i > 0 && len(x.Nodes[path[i].at].Keys) < 2; i-- {
		wantMended(&x, path[i-1])
	}
	if root := x.Nodes[x.Root]; !root.Leaf && len(root.Keys) == 0 {
		x.Nodes[x.Root] = impl.Node{}
		x.Root = root.Kids[0]
	}
	return x, 0
}

// wantMended helps the kid at a place of a node.
func wantMended(x *impl.Tree, above waypoint) {
	kids, place := x.Nodes[above.at].Kids, above.place
	switch {
	case place > 0 && len(x.Nodes[kids[place-1]].Keys) > 2:
		wantShared(x, above.at, place-1, len(x.Nodes[kids[place-1]].Keys)-1)
	case place+1 < len(kids) && len(x.Nodes[kids[place+1]].Keys) > 2:
		wantShared(x, above.at, place, len(x.Nodes[kids[place]].Keys)+1)
	case place > 0:
		wantShared(x, above.at, place-1, -1)
	default:
		wantShared(x, above.at, place, -1)
	}
}

// wantShared lays the kids at a place and behind it out anew: the earlier one has so many keys then, or all, if that is below 0.
func wantShared(x *impl.Tree, at, place, keep int) {
	a := copyNode(x.Nodes[at])
	left, right := x.Nodes[a.Kids[place]], x.Nodes[a.Kids[place+1]]
	keys := slices.Clone(left.Keys)
	if !left.Leaf {
		keys = append(keys, a.Keys[place])
	}
	keys = append(keys, right.Keys...)
	vals := slices.Concat(left.Vals, right.Vals)
	kids := slices.Concat(left.Kids, right.Kids)
	switch {
	case keep < 0:
		x.Nodes[a.Kids[place]] = impl.Node{Leaf: left.Leaf, Keys: keys, Vals: vals, Kids: kids}
		x.Nodes[a.Kids[place+1]] = impl.Node{}
		a.Keys = slices.Delete(a.Keys, place, place+1)
		a.Kids = slices.Delete(a.Kids, place+1, place+2)
	case left.Leaf:
		x.Nodes[a.Kids[place]] = copyNode(impl.Node{Leaf: true, Keys: keys[:keep], Vals: vals[:keep]})
		x.Nodes[a.Kids[place+1]] = copyNode(impl.Node{Leaf: true, Keys: keys[keep:], Vals: vals[keep:]})
		a.Keys[place] = keys[keep]
	default:
		x.Nodes[a.Kids[place]] = copyNode(impl.Node{Keys: keys[:keep], Kids: kids[:keep+1]})
		x.Nodes[a.Kids[place+1]] = copyNode(impl.Node{Keys: keys[keep+1:], Kids: kids[keep+1:]})
		a.Keys[place] = keys[keep]
	}
	x.Nodes[at] = a
}

func wantNodePut(n impl.Node) string {
	if !wantNodeOk(n) {
		return ""
	}
	var text strings.Builder
	if n.Leaf {
		text.WriteString("L")
	} else {
		text.WriteString("N" + strconv.Itoa(n.Kids[0]) + ":")
	}
	for i, key := range n.Keys {
		text.WriteString(strconv.Itoa(len(key)) + ",")
		if n.Leaf {
			text.WriteString(strconv.Itoa(len(n.Vals[i])) + ":" + key + n.Vals[i])
		} else {
			text.WriteString(strconv.Itoa(n.Kids[i+1]) + ":" + key)
		}
	}
	return text.String()
}

var (
	entryForm = regexp.MustCompile(`^(0|[1-9][0-9]{0,2}),(0|[1-9][0-9]{0,2}):`)
	firstForm = regexp.MustCompile(`^N(0|[1-9][0-9]{0,2}):`)
)

// wantNodeGet reads by forms, strictly.
func wantNodeGet(s string) (impl.Node, bool) {
	if s == "" {
		return impl.Node{}, true
	}
	n := impl.Node{Leaf: s[0] == 'L'}
	if n.Leaf {
		s = s[1:]
	} else if first := firstForm.FindStringSubmatch(s); first != nil {
		n.Kids = []int{atoi(first[1])}
		s = s[len(first[0]):]
	} else {
		return impl.Node{}, false
	}
	for s != "" {
		entry := entryForm.FindStringSubmatch(s)
		if entry == nil {
			return impl.Node{}, false
		}
		s = s[len(entry[0]):]
		long, number := atoi(entry[1]), atoi(entry[2])
		if long > len(s) || n.Leaf && long+number > len(s) {
			return impl.Node{}, false
		}
		n.Keys, s = append(n.Keys, s[:long]), s[long:]
		if n.Leaf {
			n.Vals, s = append(n.Vals, s[:number]), s[number:]
		} else {
			n.Kids = append(n.Kids, number)
		}
	}
	if !wantNodeOk(n) {
		return impl.Node{}, false
	}
	return n, true
}

func atoi(s string) int {
	n, err := strconv.Atoi(s)
	if err != nil {
		panic(err)
	}
	return n
}

// madeKeys is so many keys, ascending: short ones that begin alike, and some of the longest.
func madeKeys(source *rand.Rand, n int) []string {
	bytes := "\x00\x01ab.~\xfe\xff"
	var keys []string
	for len(keys) < n {
		key := make([]byte, 1+source.Intn(4))
		if source.Intn(8) == 0 {
			key = make([]byte, 94+source.Intn(3))
		}
		for i := range key {
			key[i] = bytes[source.Intn(len(bytes))]
		}
		keys = append(keys, string(key))
		slices.Sort(keys)
		keys = slices.Compact(keys)
	}
	return keys
}

// madeShape is how many leaves each fork has; none, if the root is the only node.
func madeShape(source *rand.Rand) []int {
	switch source.Intn(6) {
	case 0:
		return nil
	case 1:
		return []int{2 + source.Intn(4)}
	}
	shapes := [][]int{{3, 3}, {3, 4}, {4, 3}, {5, 5}, {3, 5}, {3, 3, 3}, {5, 3, 4}, {4, 5, 3}, {5, 5, 4}, {5, 5, 5}, {3, 3, 3, 3}, {4, 3, 3, 3}, {3, 4, 3, 4}, {5, 3, 3, 3}, {3, 3, 3, 5}}
	return shapes[source.Intn(len(shapes))]
}

// treeMaker lays leaves and what is between them into nodes, numbered at random.
type treeMaker struct {
	source *rand.Rand
	keys   []string
	ats    []int
	nodes  map[int]impl.Node
}

func (m *treeMaker) number(n impl.Node) int {
	at := m.ats[0]
	m.ats = m.ats[1:]
	m.nodes[at] = n
	return at
}

func (m *treeMaker) leaf(size int) int {
	n := impl.Node{Leaf: true}
	for range size {
		n.Keys = append(n.Keys, m.keys[0])
		n.Vals = append(n.Vals, strings.Repeat("v", []int{0, 1, 2, 139, 140}[m.source.Intn(5)]))
		m.keys = m.keys[1:]
	}
	return m.number(n)
}

// between is the first key of the next leaf, or one that is no leaf's.
func (m *treeMaker) between() string {
	key := m.keys[0]
	if m.source.Intn(2) == 0 {
		m.keys = m.keys[1:]
	}
	return key
}

// size is how many keys a leaf has; often as few or as many as there may be.
func (m *treeMaker) size() int {
	return []int{2, 2, 3, 4}[m.source.Intn(4)]
}

func (m *treeMaker) fork(leaves int) int {
	n := impl.Node{}
	for i := range leaves {
		if i > 0 {
			n.Keys = append(n.Keys, m.between())
		}
		n.Kids = append(n.Kids, m.leaf(m.size()))
	}
	return m.number(n)
}

// madeTree is any tree that is ok, be it one that comes of putting and taking out, or not.
func madeTree(source *rand.Rand) impl.Tree {
	m := &treeMaker{source: source, keys: madeKeys(source, 90), ats: source.Perm(19), nodes: map[int]impl.Node{}}
	shape := madeShape(source)
	switch len(shape) {
	case 0:
		return treeWith(m.leaf(source.Intn(5)), m.nodes)
	case 1:
		return treeWith(m.fork(shape[0]), m.nodes)
	}
	root := impl.Node{}
	for i, leaves := range shape {
		if i > 0 {
			root.Keys = append(root.Keys, m.between())
		}
		root.Kids = append(root.Kids, m.fork(leaves))
	}
	return treeWith(m.number(root), m.nodes)
}

// grownTree is a tree into which keys came one behind the other, as long as it was not full.
func grownTree(keys ...string) impl.Tree {
	t := emptyTree()
	for _, key := range keys {
		x, code := wantTreePut(t, key, key+key)
		if code != 0 {
			break
		}
		t = x
	}
	return t
}

// letters is so many keys of two letters, ascending.
func letters(n int) []string {
	var keys []string
	for i := range n {
		keys = append(keys, string([]byte{byte('a' + i/26), byte('a' + i%26)}))
	}
	return keys
}

// someTrees is trees that are ok: of each size that comes of putting keys in, up and down, and others.
func someTrees() []impl.Tree {
	list := []impl.Tree{emptyTree(), treeWith(18, map[int]impl.Node{18: {Leaf: true}})}
	ascending := letters(60)
	descending := slices.Clone(ascending)
	slices.Reverse(descending)
	for n := 1; n <= 46; n += 3 {
		list = append(list, grownTree(ascending[:n]...), grownTree(descending[:n]...))
	}
	source := rand.New(rand.NewSource(20))
	for range 120 {
		list = append(list, madeTree(source))
	}
	return list
}

// nearKeys is the keys of a tree, of leaves and between them, and texts just beside these.
func nearKeys(t impl.Tree) []string {
	keys := []string{"a", "\x00", "\xff\xff", strings.Repeat("k", 96), strings.Repeat("\xff", 96)}
	for _, n := range t.Nodes {
		for _, key := range n.Keys {
			keys = append(keys, key, key[:len(key)-1])
			if len(key) < 96 {
				keys = append(keys, key+"\x00")
			}
		}
	}
	slices.Sort(keys)
	return slices.DeleteFunc(slices.Compact(keys), func(key string) bool { return key == "" })
}

// badKeys is texts that are no keys.
var badKeys = []string{"", strings.Repeat("a", 97), strings.Repeat("\xff", 97), strings.Repeat("a", 5000)}

// badNodes is nodes that are not ok, each in one way, and are not nothing.
func badNodes() []impl.Node {
	long, longVal := strings.Repeat("k", 97), strings.Repeat("v", 141)
	list := []impl.Node{
		{Leaf: true, Keys: []string{""}, Vals: []string{""}},
		{Leaf: true, Keys: []string{"b", "a"}, Vals: []string{"", ""}},
		{Leaf: true, Keys: []string{"a", "a"}, Vals: []string{"", ""}},
		{Leaf: true, Keys: []string{"a", "c", "b"}, Vals: []string{"", "", ""}},
		{Leaf: true, Keys: []string{long}, Vals: []string{""}},
		{Leaf: true, Keys: []string{"a"}, Vals: []string{longVal}},
		{Leaf: true, Keys: []string{"a"}},
		{Leaf: true, Vals: []string{""}},
		{Leaf: true, Keys: []string{"a"}, Vals: []string{"", ""}},
		{Leaf: true, Kids: []int{1}},
		{Leaf: true, Keys: []string{"a", "b"}, Kids: []int{1, 2, 3}},
		{Leaf: true, Keys: []string{"a", "b"}, Vals: []string{"", ""}, Kids: []int{1, 2, 3}},
		leafOf("a", "b", "c", "d", "e"),
		{Kids: []int{1}}, {Vals: []string{""}}, {Keys: []string{"a"}},
		{Keys: []string{"a"}, Vals: []string{"a"}},
		{Keys: []string{"a", "b"}, Kids: []int{1, 2}},
		{Keys: []string{"a"}, Kids: []int{1, 2, 3}},
		{Keys: []string{"a"}, Vals: []string{""}, Kids: []int{1, 2}},
		{Keys: []string{""}, Kids: []int{1, 2}},
		{Keys: []string{long}, Kids: []int{1, 2}},
		{Keys: []string{"b", "a"}, Kids: []int{1, 2, 3}},
		{Keys: []string{"a", "a"}, Kids: []int{1, 2, 3}},
		forkOf([]int{1, 2, 3, 4, 5, 6}, "a", "b", "c", "d", "e"),
	}
	for _, at := range append([]int{-1, 19}, badInts...) {
		list = append(list, forkOf([]int{at, 1}, "a"), forkOf([]int{1, at}, "a"), forkOf([]int{1, 2, at}, "a", "b"))
	}
	return list
}

// badTrees is trees that are not ok, each in one way.
func badTrees() []impl.Tree {
	var list []impl.Tree
	change := func(t impl.Tree, by func(t *impl.Tree)) {
		x := copyTree(t)
		by(&x)
		list = append(list, x)
	}
	two := treeWith(5, map[int]impl.Node{5: forkOf([]int{3, 9, 0}, "d", "g"), 3: leafOf("a", "b"), 9: leafOf("d", "e", "f"), 0: leafOf("g", "h")})
	for _, t := range []impl.Tree{emptyTree(), two} {
		change(t, func(t *impl.Tree) { t.Nodes = nil })
		change(t, func(t *impl.Tree) { t.Nodes = t.Nodes[:18] })
		change(t, func(t *impl.Tree) { t.Nodes = append(t.Nodes, impl.Node{}) })
		for _, root := range append([]int{-1, 1, 19, 20}, badInts...) {
			change(t, func(t *impl.Tree) { t.Root = root })
		}
		for _, n := range badNodes() {
			change(t, func(t *impl.Tree) { t.Nodes[7] = n })
			change(t, func(t *impl.Tree) { t.Nodes[t.Root] = n })
		}
		// Nothing leads to these.
		for _, n := range []impl.Node{{Leaf: true}, leafOf("x", "y"), forkOf([]int{11, 12}, "x")} {
			change(t, func(t *impl.Tree) { t.Nodes[7] = n })
		}
	}
	for at, n := range map[int]impl.Node{
		5: forkOf([]int{3, 9, 3}, "d", "g"),
		3: leafOf("a"),
		9: leafOf("d", "g"),
		0: leafOf("f", "h"),
	} {
		change(two, func(t *impl.Tree) { t.Nodes[at] = n })
	}
	for _, n := range []impl.Node{
		{}, {Leaf: true}, leafOf("d"), leafOf("c", "e"), leafOf("c\xff", "e"), leafOf("e", "g"), leafOf("e", "h"), leafOf("d", "e", "f", "ff", "fff"),
		forkOf([]int{5, 6, 7}, "d", "e"), forkOf([]int{11, 12, 13}, "d", "e"), forkOf([]int{9, 9}, "d"), forkOf([]int{3, 0}, "d"),
	} {
		change(two, func(t *impl.Tree) { t.Nodes[9] = n })
	}
	// All is in order but the depth of one leaf.
	change(two, func(t *impl.Tree) {
		t.Nodes[9] = forkOf([]int{11, 12, 13}, "e", "f")
		t.Nodes[11], t.Nodes[12], t.Nodes[13] = leafOf("d", "dd"), leafOf("e", "ee"), leafOf("f", "ff")
	})
	list = append(list, impl.Tree{}, roundTree(), twiceTree(), unevenTree())
	return append(list, thirdLevelTrees()...)
}

// roundTree is a fork that leads to itself.
func roundTree() impl.Tree {
	return treeWith(0, map[int]impl.Node{0: forkOf([]int{0, 1}, "c"), 1: leafOf("c", "d")})
}

// twiceTree leads to one leaf by two ways.
func twiceTree() impl.Tree {
	return treeWith(0, map[int]impl.Node{0: forkOf([]int{1, 1}, "c"), 1: leafOf("a", "b")})
}

// unevenTree has leaves of two depths under each of its forks.
func unevenTree() impl.Tree {
	return treeWith(0, map[int]impl.Node{
		0: forkOf([]int{1, 2}, "m"), 1: forkOf([]int{3, 4, 5}, "c", "e"), 2: forkOf([]int{9, 10, 11}, "o", "q"),
		3: leafOf("a", "b"), 4: leafOf("c", "d"), 5: forkOf([]int{6, 7, 8}, "g", "i"), 6: leafOf("e", "f"), 7: leafOf("g", "h"), 8: leafOf("i", "j"),
		9: leafOf("m", "n"), 10: leafOf("o", "p"), 11: forkOf([]int{12, 13, 14}, "s", "u"), 12: leafOf("q", "r"), 13: leafOf("s", "t"), 14: leafOf("u", "v"),
	})
}

// thirdLevelTrees is trees of three levels, of which only what is under the root's kids goes wrong.
func thirdLevelTrees() []impl.Tree {
	whole := func() impl.Tree {
		t := treeWith(0, map[int]impl.Node{0: forkOf([]int{1, 2}, "m"), 1: forkOf([]int{3, 4, 5}, "c", "e"), 2: forkOf([]int{6, 7, 8}, "o", "q")})
		for i, keys := range [][]string{{"a", "b"}, {"c", "d"}, {"e", "f"}, {"m", "n"}, {"o", "p"}, {"q", "r"}} {
			t.Nodes[3+i] = leafOf(keys...)
		}
		return t
	}
	if !wantTreeOk(whole()) {
		panic("the whole one is not ok")
	}
	var list []impl.Tree
	for at, n := range map[int]impl.Node{
		1: forkOf([]int{3, 4, 5}, "c", "m"),
		2: forkOf([]int{6, 7, 8}, "l", "q"),
		3: {Leaf: true},
		5: leafOf("e", "m"),
		6: leafOf("l", "n"),
		7: leafOf("o", "q"),
		8: leafOf("q"),
		4: forkOf([]int{3, 5, 9}, "c", "d"),
	} {
		t := whole()
		t.Nodes[at] = n
		list = append(list, t)
	}
	for _, kids := range [][]int{{6, 7, 3}, {6, 7, 1}, {6, 7, 0}, {6, 7, 2}, {8, 7, 6}} {
		t := whole()
		t.Nodes[2].Kids = kids
		list = append(list, t)
	}
	few := whole()
	few.Nodes[2] = forkOf([]int{6, 7}, "o")
	few.Nodes[8] = impl.Node{}
	return append(list, few)
}
