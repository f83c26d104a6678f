package walk_test

import (
	"bytes"
	"crypto/sha256"
	"slices"
	"strings"
	"sync"
	"testing"

	"dormouse/api"
	"dormouse/tree"
	"dormouse/walk"
)

// text, list and prefix are bytes as chapters 2 and 5 say, without packages nib and rlp.
func text(s string) string {
	if len(s) == 1 && s[0] < 128 {
		return s
	}
	return ahead(len(s), 128) + s
}

func list(l ...string) string {
	s := strings.Join(l, "")
	return ahead(len(s), 192) + s
}

func ahead(n, from int) string {
	switch {
	case n < 56:
		return string([]byte{byte(from + n)})
	case n < 256:
		return string([]byte{byte(from + 56), byte(n)})
	case n < 65536:
		return string([]byte{byte(from + 57), byte(n >> 8), byte(n)})
	}
	return string([]byte{byte(from + 58), byte(n >> 16), byte(n >> 8), byte(n)})
}

func prefix(p string, leaf bool) string {
	mark := byte(0)
	if leaf {
		mark = 2
	}
	all := string([]byte{mark, 0})
	if len(p)%2 == 1 {
		all = string([]byte{mark + 1})
	}
	all += p
	var b []byte
	for i := 0; i < len(all); i += 2 {
		b = append(b, all[i]<<4|all[i+1])
	}
	return string(b)
}

// What a shape is that is none of a node's kinds.
const (
	nothing = 0
	dropped = 4
)

// A shape is a tree as chapter 8's words have it, without packages tree and walk.
type shape struct {
	kind        int
	path, value string
	ref         string
	kids        [16]*shape // of an extension the first one
}

func leaf(path, value string) *shape {
	return sealed(&shape{kind: api.NLeaf, path: path, value: value})
}

func ext(path string, kid *shape) *shape {
	return sealed(&shape{kind: api.NExt, path: path, kids: [16]*shape{kid}})
}

// branch has trees of nibbles from 0 on (nil: there is none).
func branch(kids ...*shape) *shape {
	s := &shape{kind: api.NBranch}
	copy(s.kids[:], kids)
	return sealed(s)
}

func drop(ref string) *shape { return &shape{kind: dropped, ref: ref} }

// lost is the dropped part of a sum.
func lost(s string) *shape { return drop(strings.Repeat(s, 32)) }

// sealed tells a shape with its reference.
func sealed(s *shape) *shape {
	s.ref = s.enc()
	if len(s.ref) >= 32 {
		x := sha256.Sum256([]byte(s.ref))
		s.ref = string(x[:])
	}
	return s
}

// enc tells a shape's bytes.
func (s *shape) enc() string {
	switch s.kind {
	case api.NLeaf:
		return list(text(prefix(s.path, true)), text(s.value))
	case api.NExt:
		return list(text(prefix(s.path, false)), s.kids[0].stands())
	case api.NBranch:
		var l []string
		for _, kid := range s.kids {
			l = append(l, kid.stands())
		}
		return list(append(l, text(""))...)
	}
	return ""
}

// stands tells as which bytes a reference to a shape stands in another's.
func (s *shape) stands() string {
	if s == nil {
		return text("")
	}
	if len(s.ref) == 32 {
		return text(s.ref)
	}
	return s.ref
}

// node tells a shape's node.
func (s *shape) node() api.Node {
	n := api.Node{Kind: s.kind, Path: []byte(s.path), Value: s.value}
	for i, kid := range s.kids {
		if kid != nil {
			n.Kids[i] = kid.ref
		}
	}
	return n
}

// grown tells the tree of a shape, as Make makes it; one of a shape that stands there more than once.
func grown(t *testing.T, s *shape) tree.Tree {
	t.Helper()
	made := map[*shape]tree.Tree{}
	var grow func(s *shape) tree.Tree
	grow = func(s *shape) tree.Tree {
		if x, there := made[s]; there || s.kind == nothing {
			return x
		}
		if s.kind == dropped {
			return tree.Drop(s.ref)
		}
		var in []tree.Tree
		for _, kid := range s.kids {
			if kid != nil {
				in = append(in, grow(kid))
			}
		}
		x, e := tree.Make(s.node(), in...)
		if e != api.OK {
			t.Fatalf("Make: %d", int(e))
		}
		made[s] = x
		return x
	}
	return grow(s)
}

// path tells a key's path, without package nib; key tells the key of a path, that is 0 behind what is said.
func path(k api.Key) string {
	var b []byte
	for _, x := range k {
		b = append(b, x>>4, x&15)
	}
	return string(b)
}

func key(p string) api.Key {
	p += strings.Repeat("\x00", 64-len(p))
	var k api.Key
	for i := range k {
		k[i] = p[2*i]<<4 | p[2*i+1]
	}
	return k
}

// full tells so many nibbles of one kind.
func full(nibble byte, n int) string { return strings.Repeat(string([]byte{nibble}), n) }

// built tells the shape that is built of keys and values, of whose paths so many nibbles are gone.
func built(l []api.Pair, gone int) *shape {
	switch len(l) {
	case 0:
		return &shape{}
	case 1:
		return leaf(path(l[0].Key)[gone:], l[0].Value)
	}
	first := path(l[0].Key)
	n := gone
	for !slices.ContainsFunc(l, func(x api.Pair) bool { return path(x.Key)[n] != first[n] }) {
		n++
	}
	if n > gone {
		return ext(first[gone:n], built(l, n))
	}
	kids := make([]*shape, 16)
	for i := range kids {
		in := slices.DeleteFunc(slices.Clone(l), func(x api.Pair) bool { return path(x.Key)[n] != byte(i) })
		if len(in) > 0 {
			kids[i] = built(in, n+1)
		}
	}
	return branch(kids...)
}

// A sight is what the chapter asks for of a shape, by its words.
type sight struct {
	pairs        []api.Pair
	stubs, depth int
}

// look tells what is seen of a shape that stands at the end of a way, within so many nodes.
func (s *shape) look(way string, over int, x *sight) {
	switch s.kind {
	case nothing:
		return
	case dropped:
		x.stubs++
		return
	case api.NLeaf:
		if way += s.path; len(way) == 64 {
			x.pairs = append(x.pairs, api.Pair{Key: key(way), Value: s.value})
		}
	case api.NExt:
		s.kids[0].look(way+s.path, over+1, x)
	case api.NBranch:
		for i, kid := range s.kids {
			if kid != nil {
				kid.look(way+string([]byte{byte(i)}), over+1, x)
			}
		}
	}
	x.depth = max(x.depth, over+1)
}

func (s *shape) seen() sight {
	var x sight
	s.look("", 0, &x)
	slices.SortFunc(x.pairs, func(a, b api.Pair) int { return strings.Compare(path(a.Key), path(b.Key)) })
	return x
}

// along tells the nodes that a path goes through.
func (s *shape) along(p string) []api.Node {
	if s == nil || s.kind == nothing || s.kind == dropped {
		return nil
	}
	l := []api.Node{s.node()}
	switch {
	case s.kind == api.NExt && strings.HasPrefix(p, s.path):
		l = append(l, s.kids[0].along(p[len(s.path):])...)
	case s.kind == api.NBranch && p != "":
		l = append(l, s.kids[p[0]].along(p[1:])...)
	}
	return l
}

// sameNodes tells whether nodes are the same.
func sameNodes(a, b []api.Node) bool {
	return slices.EqualFunc(a, b, func(x, y api.Node) bool {
		return x.Kind == y.Kind && bytes.Equal(x.Path, y.Path) && x.Value == y.Value && x.Kids == y.Kids
	})
}

// up and down tell the key behind a key, and the one ahead of it; behind all keys comes the first one.
func up(k api.Key) api.Key {
	for i := len(k) - 1; i >= 0; i-- {
		k[i]++
		if k[i] != 0 {
			break
		}
	}
	return k
}

func down(k api.Key) api.Key {
	for i := len(k) - 1; i >= 0; i-- {
		k[i]--
		if k[i] != 255 {
			break
		}
	}
	return k
}

// keysOf tells keys to ask for: the first and the last one of all, those of pairs, those beside them, and some that leave their paths somewhere.
func keysOf(c *chance, l []api.Pair) []api.Key {
	keys := []api.Key{key(""), key(full(15, 64)), key(full(7, 64)), key("\x05\x05")}
	for _, x := range l {
		keys = append(keys, x.Key, up(x.Key), down(x.Key))
		p := []byte(path(x.Key))
		p[c.below(64)] = byte(c.below(16))
		keys = append(keys, key(string(p)))
	}
	return keys
}

// some tells some of a list, all if there are few, as chance says.
func (c *chance) some(l []api.Key) []api.Key {
	for len(l) > 24 {
		l = slices.Delete(l, 0, 1+c.below(len(l)/2))
	}
	return l
}

// asks asks all that is told of a tree, of some keys, as the chapter's words have it of its shape.
func asks(t *testing.T, what string, x tree.Tree, s *shape) {
	t.Helper()
	want := s.seen()
	if l := walk.Pairs(x); !slices.Equal(l, want.pairs) {
		t.Fatalf("%s: Pairs: %d instead of %d", what, len(l), len(want.pairs))
	}
	if there, stubs := walk.Count(x); there != len(want.pairs) || stubs != want.stubs {
		t.Errorf("%s: Count: %d, %d instead of %d, %d", what, there, stubs, len(want.pairs), want.stubs)
	}
	if n := walk.Depth(x); n != want.depth {
		t.Errorf("%s: Depth: %d instead of %d", what, n, want.depth)
	}
	first(t, what, "First", want.pairs, func() (api.Pair, bool) { return walk.First(x) })
	c := chance(len(want.pairs))
	keys := c.some(keysOf(&c, want.pairs))
	for _, k := range keys {
		behind := among(want.pairs, func(y string) bool { return y > path(k) })
		first(t, what, "Next", behind, func() (api.Pair, bool) { return walk.Next(x, k) })
		if l := walk.Path(x, k); !sameNodes(l, s.along(path(k))) {
			t.Errorf("%s: Path of %x: %d nodes instead of %d", what, k, len(l), len(s.along(path(k))))
		}
		for _, to := range keys {
			in := among(want.pairs, func(y string) bool { return y >= path(k) && y < path(to) })
			if l := walk.Range(x, k, to); !slices.Equal(l, in) {
				t.Errorf("%s: Range of %x, %x: %d instead of %d", what, k, to, len(l), len(in))
			}
		}
	}
}

// among tells the pairs whose path is as is asked.
func among(l []api.Pair, in func(p string) bool) []api.Pair {
	return slices.DeleteFunc(slices.Clone(l), func(x api.Pair) bool { return !in(path(x.Key)) })
}

// first asks for the first one of pairs.
func first(t *testing.T, what, call string, l []api.Pair, ask func() (api.Pair, bool)) {
	t.Helper()
	var want api.Pair
	if len(l) > 0 {
		want = l[0]
	}
	if x, is := ask(); x != want || is != (len(l) > 0) {
		t.Errorf("%s: %s: %x, %t instead of %x, %t", what, call, x.Key, is, want.Key, len(l) > 0)
	}
}

// chance tells numbers that look like chance, the same ones of the same seed.
type chance uint64

func (c *chance) below(n int) int {
	*c = *c*6364136223846793005 + 1442695040888963407
	return int(uint64(*c)>>33) % n
}

// pairs tells keys that have long beginnings in common, and values, mostly short ones.
func (c *chance) pairs(n int) []api.Pair {
	m := map[api.Key]string{}
	var keys []api.Key
	for range n {
		p := make([]byte, 64)
		if len(keys) > 0 && c.below(4) > 0 {
			copy(p, path(keys[c.below(len(keys))]))
		}
		for range 1 + c.below(3) {
			p[[]int{0, 1, 30, 31, 60, 61, 62, 63, c.below(64)}[c.below(9)]] = byte(c.below(4) * 5)
		}
		k := key(string(p))
		if _, there := m[k]; !there {
			keys = append(keys, k)
		}
		m[k] = strings.Repeat(string([]byte{byte(97 + c.below(4))}), 1+c.below(3)*c.below(20))
	}
	var l []api.Pair
	for _, k := range keys {
		l = append(l, api.Pair{Key: k, Value: m[k]})
	}
	return l
}

// less tells a shape of which parts are dropped, as chance says.
func (c *chance) less(s *shape) *shape {
	if s.kind == nothing {
		return s
	}
	if c.below(8) == 0 {
		return drop(s.ref)
	}
	x := *s
	for i, kid := range s.kids {
		if kid != nil {
			x.kids[i] = c.less(kid)
		}
	}
	return &x
}

// odd tells a shape as only Make makes them: of ways of any length, most of them near a key's, with dropped parts where chance says.
func (c *chance) odd(gone, deep int) *shape {
	left := max(64-gone, 0)
	switch c.below(5) {
	case 0:
		return leaf(full(5, min(left+c.below(3), 64)), "odd")
	case 1:
		return leaf(full(byte(c.below(16)), left), full(byte(97+c.below(4)), 1+c.below(40)))
	case 2:
		if c.below(3) == 0 {
			return lost("s")
		}
		n := max(min(c.below(3)*left/2+c.below(4), 64), 1)
		return ext(full(byte(5+c.below(2)), n), c.oddBranch(gone+n, deep))
	}
	return c.oddBranch(gone, deep)
}

func (c *chance) oddBranch(gone, deep int) *shape {
	kids := make([]*shape, 16)
	for range 2 + c.below(4) {
		at := c.below(16)
		kids[at] = leaf(full(2, min(max(63-gone, 0)+c.below(2), 64)), "a")
		if deep > 0 {
			kids[at] = c.odd(gone+1, deep-1)
		}
	}
	at := c.below(15)
	kids[at], kids[at+1] = leaf(full(3, max(63-gone, 0)), "b"), leaf("\x01", full('c', 1+c.below(40)))
	return branch(kids...)
}

// steep tells a shape in which so many branches stand within one another, at a nibble, the last one having s there, all of them a leaf at the next nibble, or at the one ahead.
func steep(n, at int, s *shape) *shape {
	beside := at + 1
	if at == 15 {
		beside = 14
	}
	for range n {
		kids := make([]*shape, 16)
		kids[at], kids[beside] = s, leaf("", "b")
		s = branch(kids...)
	}
	return s
}

// fork tells pairs whose paths fork at each nibble: the tree of them is as deep as one of keys can be, where all nibbles are that one.
func fork(nibble byte) []api.Pair {
	all := full(nibble, 64)
	l := []api.Pair{{Key: key(all), Value: "deep"}}
	for i := range 64 {
		l = append(l, api.Pair{Key: key(all[:i] + string([]byte{nibble ^ 1}) + all[i+1:]), Value: "beside"})
	}
	return l
}

// hand is a tree of five keys, by hand: an extension of 1, a branch, in it a leaf at 0, at 2 a branch of leaves at 3 and 4, at 15 an extension of zeros, and a branch of leaves at 0 and 15.
func hand() ([]api.Pair, *shape) {
	l := []api.Pair{
		{Key: key("\x01\x00"), Value: "a"}, {Key: key("\x01\x02\x03"), Value: "b"}, {Key: key("\x01\x02\x04\x09"), Value: "c"},
		{Key: key("\x01\x0f"), Value: "d"}, {Key: key("\x01\x0f" + full(0, 61) + "\x0f"), Value: "e"},
	}
	s2 := branch(nil, nil, nil, leaf(full(0, 61), "b"), leaf("\x09"+full(0, 60), "c"))
	s15 := ext(full(0, 61), branch(leaf("", "d"), nil, nil, nil, nil, nil, nil, nil, nil, nil, nil, nil, nil, nil, nil, leaf("", "e")))
	return l, ext("\x01", branch(leaf(full(0, 62), "a"), nil, s2, nil, nil, nil, nil, nil, nil, nil, nil, nil, nil, nil, nil, s15))
}

// shapes are shapes of all kinds.
func shapes() map[string]*shape {
	_, h := hand()
	stub, other := lost("s"), lost("o")
	a, b := leaf(full(0, 63), "a"), leaf(full(9, 63), full('b', 40))
	in := branch(leaf(full(0, 62), "a"), leaf(full(9, 62), "b"))
	l := map[string]*shape{
		"nothing": {}, "dropped": stub, "dropped, of own bytes": drop(leaf("", "a").ref), "by hand": h,
		"a leaf": leaf(full(3, 64), "a"), "a long leaf": leaf(full(0, 64), full('v', 65552)), "the last leaf of all": leaf(full(15, 64), "a"),
		"a branch": branch(a, b), "a branch of 16": branch(slices.Repeat([]*shape{a, b}, 8)...), "a branch of the last ones": branch(append(make([]*shape, 14), b, a)...),
		"the first one dropped": branch(stub, a, b), "the middle one dropped": branch(a, stub, b), "the last one dropped": branch(a, b, stub), "all dropped": branch(stub, other), "one dropped twice": branch(stub, a, stub), "all 16 dropped": branch(slices.Repeat([]*shape{stub}, 16)...),
		"behind an extension": ext("\x05", stub), "behind a long extension": ext(full(5, 64), stub), "an extension dropped in a branch": branch(a, ext("\x05", stub), b), "far within": branch(a, branch(in, branch(stub, leaf(full(1, 61), "c"))), b), "dropped beside what stands by its own bytes": ext(full(0, 63), branch(leaf("", "a"), drop(leaf("", "b").ref), leaf("", "c"))),
		"one dropped, the same one not": branch(a, drop(b.ref), b), "deeper on the left": branch(branch(in, leaf(full(0, 62), "x")), a), "deeper on the right": branch(a, branch(in, leaf(full(0, 62), "x"))), "deepest in the middle": branch(a, branch(branch(leaf(full(0, 61), "x"), leaf(full(0, 61), "y")), stub), in),
		"65 deep, all nibbles 0": built(fork(0), 0), "65 deep, all nibbles 15": built(fork(15), 0), "65 deep, all nibbles 6": built(fork(6), 0),
	}
	for n := range 3 { // leaves whose ways have 63, 64 and 65 nibbles
		p := full(4, 62+n)
		l["odd leaf "+full('+', n)] = leaf(full(4, min(63+n, 64)), "odd")
		l["odd leaves "+full('+', n)] = branch(leaf(p, "a"), leaf(p, "b"))
		l["odd and not "+full('+', n)] = branch(a, leaf(p, "odd"), b, ext("\x04", branch(leaf(full(4, 60+n), "a"), leaf(full(4, 61), "b"))))
		l["odd extension "+full('+', n)] = ext(full(4, 62+n), branch(leaf("", "a"), leaf("", "b")))
		l["odd dropped "+full('+', n)] = ext(full(4, 62+n), stub)
		l["odd, dropped and not "+full('+', n)] = ext(full(4, 62+n), branch(stub, leaf("", "b"), leaf("\x01", "c"), leaf("\x01\x01", "d")))
	}
	l["a branch where keys end"] = ext(full(4, 64), branch(leaf("", "a"), leaf("\x04", "b")))
	l["an extension beyond where keys end"] = ext(full(4, 62), branch(nil, nil, nil, nil, ext("\x04\x04", branch(leaf("", "a"), leaf("", "b"))), leaf("\x04", "c")))
	l["100 branches"] = steep(100, 3, leaf("", "a"))
	l["63 branches, and a leaf where keys end"] = branch(nil, nil, nil, steep(63, 3, leaf("", "a")), leaf(full(3, 63), "c"))
	return l
}

// P10.1

func TestNothing(t *testing.T) {
	for _, x := range []tree.Tree{{}, tree.Of(), tree.Drop(""), tree.Drop("x")} {
		if l := walk.Pairs(x); len(l) != 0 {
			t.Errorf("Pairs: %d", len(l))
		}
		if there, stubs := walk.Count(x); there != 0 || stubs != 0 {
			t.Errorf("Count: %d, %d", there, stubs)
		}
		if n := walk.Depth(x); n != 0 {
			t.Errorf("Depth: %d", n)
		}
		asks(t, "nothing", x, &shape{})
	}
}

func TestDropped(t *testing.T) {
	for _, ref := range []string{full('s', 32), full(0, 32), leaf("", "a").ref, branch(leaf("", "a"), leaf("", "b")).ref} {
		x := tree.Drop(ref)
		if l := walk.Pairs(x); len(l) != 0 {
			t.Errorf("Pairs: %d", len(l))
		}
		if there, stubs := walk.Count(x); there != 0 || stubs != 1 {
			t.Errorf("Count: %d, %d", there, stubs)
		}
		if n := walk.Depth(x); n != 0 {
			t.Errorf("Depth: %d", n)
		}
		asks(t, "dropped", x, drop(ref))
	}
}

func TestByHand(t *testing.T) {
	l, s := hand()
	for _, x := range []tree.Tree{tree.Of(l...), grown(t, s)} {
		if got := walk.Pairs(x); !slices.Equal(got, l) {
			t.Errorf("Pairs: %v", got)
		}
		if there, stubs := walk.Count(x); there != 5 || stubs != 0 {
			t.Errorf("Count: %d, %d", there, stubs)
		}
		if n := walk.Depth(x); n != 5 {
			t.Errorf("Depth: %d", n)
		}
		if got, is := walk.First(x); got != l[0] || !is {
			t.Errorf("First: %v, %t", got, is)
		}
		if got := walk.Range(x, l[1].Key, l[3].Key); !slices.Equal(got, l[1:3]) {
			t.Errorf("Range: %v", got)
		}
		for i := range l {
			got, is := walk.Next(x, l[i].Key)
			if i == 4 && (is || got != (api.Pair{})) || i < 4 && (!is || got != l[i+1]) {
				t.Errorf("%d: Next: %v, %t", i, got, is)
			}
		}
	}
}

func TestShapes(t *testing.T) {
	for what, s := range shapes() {
		asks(t, what, grown(t, s), s)
	}
}

func TestDepths(t *testing.T) {
	stub, b := lost("s"), leaf("", "b")
	for what, c := range map[string]struct {
		s    *shape
		want int
	}{
		"a leaf": {b, 1}, "two leaves": {branch(b, b), 2}, "behind an extension": {ext("\x01", branch(b, b)), 3}, "an extension of a dropped part": {ext("\x01", stub), 1}, "dropped parts": {branch(stub, stub), 1}, "a dropped part and a leaf": {branch(stub, b), 2}, "a leaf and a dropped part": {branch(b, stub), 2},
		"the deepest one dropped": {branch(b, branch(b, branch(stub, stub))), 3}, "first": {branch(branch(branch(b, b), b), b), 4}, "last": {branch(b, branch(b, branch(b, b))), 4}, "both": {branch(branch(b, b), branch(b, b)), 3},
		"65 of keys": {built(fork(9), 0), 65}, "the last two nibbles": {built(fork(9)[63:], 0), 3}, "300 of own and of other bytes": {steep(299, 2, b), 300}, "300, on the right": {steep(299, 15, b), 300},
	} {
		if n := walk.Depth(grown(t, c.s)); n != c.want {
			t.Errorf("%s: %d instead of %d", what, n, c.want)
		}
	}
}

func TestCounts(t *testing.T) {
	stub, a, odd := lost("s"), leaf(full(0, 63), "a"), leaf("", "odd")
	for what, c := range map[string]struct {
		s            *shape
		there, stubs int
	}{
		"a leaf": {leaf(full(1, 64), "a"), 1, 0}, "a short leaf": {leaf(full(1, 63), "a"), 0, 0}, "no path": {odd, 0, 0}, "a branch": {branch(a, a), 2, 0}, "odd ones": {branch(odd, odd), 0, 0}, "one odd": {branch(odd, a), 1, 0},
		"dropped": {branch(stub, stub, stub), 0, 3}, "both": {branch(stub, a, odd, a, stub), 2, 2}, "behind an extension": {ext("\x01", stub), 0, 1}, "deep": {steep(80, 3, stub), 1, 1}, "deep, at once": {steep(80, 3, branch(stub, odd, stub)), 1, 2},
	} {
		if there, stubs := walk.Count(grown(t, c.s)); there != c.there || stubs != c.stubs {
			t.Errorf("%s: %d, %d instead of %d, %d", what, there, stubs, c.there, c.stubs)
		}
	}
}

// TestDeepTrees has as many parts within one another as may be.
func TestDeepTrees(t *testing.T) {
	const n = 1<<16 - 2
	stub := lost("s")
	for _, at := range []int{0, 9, 15} {
		x := grown(t, stub)
		b := grown(t, leaf("", "b"))
		s := stub
		for range n {
			s = steep(1, at, drop(s.ref))
			l := []tree.Tree{x, b}
			if at == 15 {
				l = []tree.Tree{b, x}
			}
			y, e := tree.Make(s.node(), l...)
			if e != api.OK {
				t.Fatal(int(e))
			}
			x = y
		}
		if d := walk.Depth(x); d != n+1 {
			t.Errorf("Depth: %d", d)
		}
		if there, stubs := walk.Count(x); there != 1 || stubs != 1 {
			t.Errorf("Count: %d, %d", there, stubs)
		}
		beside := []byte(full(byte(at), 64))
		beside[63]++
		if at == 15 {
			beside[63] = 14
		}
		k := key(string(beside))
		if l := walk.Pairs(x); len(l) != 1 || l[0].Key != k {
			t.Errorf("Pairs: %v", l)
		}
		if l := walk.Path(x, key(full(byte(at), 64))); len(l) != 65 || l[64].Kind != api.NBranch {
			t.Errorf("Path: %d nodes", len(l))
		}
		if p, is := walk.First(x); !is || p.Key != k {
			t.Errorf("First: %v, %t", p, is)
		}
		if p, is := walk.Next(x, k); is {
			t.Errorf("Next: %v, %t", p, is)
		}
	}
}

// TestPairsOfEachOrder puts the same pairs in orders made by chance.
func TestPairsOfEachOrder(t *testing.T) {
	for seed := range 40 {
		c := chance(seed)
		l := c.pairs(1 + c.below(40))
		var sorted []api.Pair
		for _, x := range l {
			at := 0
			for at < len(sorted) && path(sorted[at].Key) < path(x.Key) {
				at++
			}
			sorted = slices.Insert(sorted, at, x)
		}
		for range 4 {
			for i := range l {
				j := c.below(i + 1)
				l[i], l[j] = l[j], l[i]
			}
			if got := walk.Pairs(tree.Of(l...)); !slices.Equal(got, sorted) {
				t.Fatalf("seed %d: %d pairs instead of %d", seed, len(got), len(sorted))
			}
		}
	}
}

func TestTreesOfKeysByChance(t *testing.T) {
	for seed := range 150 {
		c := chance(seed)
		l := c.pairs(c.below(60))
		asks(t, "by chance", tree.Of(l...), built(l, 0))
	}
}

func TestDroppedByChance(t *testing.T) {
	stubs := 0
	for seed := range 300 {
		c := chance(seed)
		s := c.less(built(c.pairs(c.below(60)), 0))
		asks(t, "by chance", grown(t, s), s)
		stubs += s.seen().stubs
	}
	if stubs < 500 {
		t.Errorf("%d dropped parts", stubs)
	}
}

func TestOddTreesByChance(t *testing.T) {
	there, stubs, odd := 0, 0, 0
	for seed := range 600 {
		c := chance(seed)
		s := c.odd(0, c.below(6))
		asks(t, "by chance", grown(t, s), s)
		x := s.seen()
		there, stubs = there+len(x.pairs), stubs+x.stubs
		if x.depth > 2 && len(x.pairs) > 0 {
			odd++
		}
	}
	if there < 500 || stubs < 100 || odd < 100 {
		t.Errorf("%d pairs, %d dropped parts, %d deep ones with pairs", there, stubs, odd)
	}
}

// P10.2

func TestLess(t *testing.T) {
	keys := []api.Key{{}, {31: 1}, {31: 127}, {31: 128}, {31: 255}, {30: 1}, {30: 1, 31: 255}, {15: 200}, {15: 201}, {1: 1}, {1: 1, 31: 1}, {0: 1}, {0: 127, 1: 255}, {0: 128}, {0: 128, 2: 1}, {0: 255}, key(full(15, 64))}
	for i, a := range keys {
		for j, b := range keys {
			if walk.Less(a, b) != (i < j) {
				t.Errorf("%x, %x: %t", a, b, i >= j)
			}
		}
	}
	var c chance
	for range 2000 {
		a, at := api.Key{}, c.below(32)
		for i := range a {
			a[i] = byte(c.below(256))
		}
		b := a
		for i := at; i < len(b); i++ {
			b[i] = byte(c.below(256))
		}
		if walk.Less(a, b) != (path(a) < path(b)) || walk.Less(a, a) {
			t.Errorf("%x, %x", a, b)
		}
	}
}

func TestNextBeside(t *testing.T) {
	last := key(full(15, 64))
	l := []api.Pair{{Key: key(""), Value: "a"}, {Key: key("\x05"), Value: "b"}, {Key: last, Value: "c"}}
	x := tree.Of(l...)
	for _, c := range []struct {
		what string
		k    api.Key
		want int // 3: none
	}{
		{"the first one", l[0].Key, 1}, {"behind it", up(l[0].Key), 1}, {"ahead of the middle one", down(l[1].Key), 1}, {"the middle one", l[1].Key, 2}, {"behind the middle one", up(l[1].Key), 2}, {"ahead of the last one", down(last), 2}, {"the last one of all", last, 3},
	} {
		p, is := walk.Next(x, c.k)
		if is != (c.want < 3) || is && p != l[c.want] || !is && p != (api.Pair{}) {
			t.Errorf("%s: %v, %t", c.what, p, is)
		}
	}
	if p, is := walk.Next(tree.Of(l[:2]...), l[1].Key); is || p != (api.Pair{}) {
		t.Errorf("none behind: %v, %t", p, is)
	}
}

// TestNextGoesThrough comes to all pairs, from First on.
func TestNextGoesThrough(t *testing.T) {
	for seed := range 40 {
		c := chance(seed)
		s := c.less(built(c.pairs(60), 0))
		x := grown(t, s)
		var l []api.Pair
		for p, is := walk.First(x); is; p, is = walk.Next(x, p.Key) {
			l = append(l, p)
		}
		if want := s.seen().pairs; !slices.Equal(l, want) {
			t.Errorf("seed %d: %d instead of %d", seed, len(l), len(want))
		}
	}
}

func TestRangeEdges(t *testing.T) {
	first, last := key(""), key(full(15, 64))
	l := []api.Pair{{Key: first, Value: "a"}, {Key: key("\x05"), Value: "b"}, {Key: key("\x05\x00\x01"), Value: "c"}, {Key: last, Value: "d"}}
	x := tree.Of(l...)
	b, c := l[1].Key, l[2].Key
	for _, w := range []struct {
		what     string
		from, to api.Key
		want     []api.Pair
	}{
		{"all but the last one of all", first, last, l[:3]}, {"both alike", b, b, nil}, {"both alike, the first one of all", first, first, nil}, {"both alike, the last one of all", last, last, nil}, {"the wrong way", c, b, nil}, {"the wrong way, all", last, first, nil},
		{"from on", b, last, l[1:3]}, {"from behind", up(b), last, l[2:3]}, {"from ahead", down(b), last, l[1:3]}, {"ahead of to", first, c, l[:2]}, {"ahead of what is behind", first, up(c), l[:3]}, {"ahead of what is ahead", first, down(c), l[:2]},
		{"the first one alone", first, up(first), l[:1]}, {"one alone", b, up(b), l[1:2]}, {"ahead of it", down(b), b, nil}, {"between", up(b), c, nil}, {"ahead of the last one", down(last), last, nil}, {"behind all but the last one", up(c), last, nil},
	} {
		if got := walk.Range(x, w.from, w.to); !slices.Equal(got, w.want) {
			t.Errorf("%s: %d instead of %d", w.what, len(got), len(w.want))
		}
	}
}

// wide tells the tree that has a value at each key there is: each branch has one tree at all nibbles.
func wide(t *testing.T) (*shape, tree.Tree) {
	s := leaf("", "v")
	for range 64 {
		s = branch(slices.Repeat([]*shape{s}, 16)...)
	}
	return s, grown(t, s)
}

// TestOfEachKey has a tree of more pairs than can be gone through.
func TestOfEachKey(t *testing.T) {
	s, x := wide(t)
	v := func(k api.Key) api.Pair { return api.Pair{Key: k, Value: "v"} }
	if p, is := walk.First(x); !is || p != v(key("")) {
		t.Errorf("First: %v, %t", p, is)
	}
	c := chance(9)
	for _, p := range append(fork(7), c.pairs(50)...) {
		k := p.Key
		if got, is := walk.Next(x, k); !is || got != v(up(k)) {
			t.Errorf("Next of %x: %v, %t", k, got, is)
		}
		to := up(up(up(k)))
		if got := walk.Range(x, k, to); !slices.Equal(got, []api.Pair{v(k), v(up(k)), v(up(up(k)))}) {
			t.Errorf("Range of %x: %v", k, got)
		}
		if got := walk.Range(x, to, k); len(got) != 0 {
			t.Errorf("Range of %x, the wrong way: %v", k, got)
		}
		if got := walk.Path(x, k); !sameNodes(got, s.along(path(k))) || len(got) != 65 {
			t.Errorf("Path of %x: %d nodes", k, len(got))
		}
	}
	last := key(full(15, 64))
	if got, is := walk.Next(x, last); is || got != (api.Pair{}) {
		t.Errorf("Next of the last key: %v, %t", got, is)
	}
	if got := walk.Range(x, down(last), last); !slices.Equal(got, []api.Pair{v(down(last))}) {
		t.Errorf("Range of the last keys: %v", got)
	}
}

// TestManyKeys asks often, of a tree that is not small.
func TestManyKeys(t *testing.T) {
	var l []api.Pair
	var x tree.Tree
	for i := range 20000 {
		k := api.Key(sha256.Sum256([]byte{byte(i), byte(i >> 8)}))
		y, e := x.Put(k, "v")
		if e != api.OK {
			t.Fatal(int(e))
		}
		x, l = y, append(l, api.Pair{Key: k, Value: "v"})
	}
	slices.SortFunc(l, func(a, b api.Pair) int { return bytes.Compare(a.Key[:], b.Key[:]) })
	if !slices.Equal(walk.Pairs(x), l) {
		t.Error("Pairs")
	}
	if there, stubs := walk.Count(x); there != len(l) || stubs != 0 {
		t.Errorf("Count: %d, %d", there, stubs)
	}
	for i := range l[:len(l)-5] {
		if p, is := walk.Next(x, l[i].Key); !is || p != l[i+1] {
			t.Fatalf("%d: Next", i)
		}
		if got := walk.Range(x, l[i].Key, l[i+5].Key); !slices.Equal(got, l[i:i+5]) {
			t.Fatalf("%d: Range", i)
		}
		if got := walk.Path(x, l[i].Key); got[len(got)-1].Value != "v" {
			t.Fatalf("%d: Path", i)
		}
	}
	if got := walk.Range(x, l[10].Key, l[len(l)-10].Key); !slices.Equal(got, l[10:len(l)-10]) {
		t.Error("Range of nearly all")
	}
}

// P10.3

func TestPathByHand(t *testing.T) {
	_, s := hand()
	in := s.kids[0]
	two, fifteen := in.kids[2], in.kids[15]
	x := grown(t, s)
	for _, c := range []struct {
		what, path string
		want       []*shape
	}{
		{"to a leaf", "\x01\x00", []*shape{s, in, in.kids[0]}}, {"to a leaf by two branches", "\x01\x02\x03", []*shape{s, in, two, two.kids[3]}}, {"by two extensions", "\x01\x0f", []*shape{s, in, fifteen, fifteen.kids[0], fifteen.kids[0].kids[0]}}, {"the last one", "\x01\x0f" + full(0, 61) + "\x0f", []*shape{s, in, fifteen, fifteen.kids[0], fifteen.kids[0].kids[15]}},
		{"not through the first extension", "\x00", []*shape{s}}, {"not through the first extension, beyond", "\x02", []*shape{s}}, {"nothing in a branch", "\x01\x01", []*shape{s, in}}, {"nothing in a branch far within", "\x01\x02\x05", []*shape{s, in, two}}, {"nothing in the last branch", "\x01\x0f" + full(0, 61) + "\x01", []*shape{s, in, fifteen, fifteen.kids[0]}},
		{"not through an extension", "\x01\x0f\x01", []*shape{s, in, fifteen}}, {"not through the end of an extension", "\x01\x0f" + full(0, 60) + "\x01", []*shape{s, in, fifteen}}, {"not through a leaf", "\x01\x00\x01", []*shape{s, in, in.kids[0]}}, {"not through the end of a leaf", "\x01\x00" + full(0, 61) + "\x01", []*shape{s, in, in.kids[0]}}, {"not through the middle of a leaf", "\x01\x02\x04\x08", []*shape{s, in, two, two.kids[4]}},
	} {
		var want []api.Node
		for _, y := range c.want {
			want = append(want, y.node())
		}
		if got := walk.Path(x, key(c.path)); !sameNodes(got, want) {
			t.Errorf("%s: %d nodes instead of %d", c.what, len(got), len(want))
		}
	}
}

func TestPathToDropped(t *testing.T) {
	stub, a := lost("s"), leaf(full(0, 63), "a")
	for what, c := range map[string]struct {
		s    *shape
		path string
		want int
	}{
		"alone": {stub, "", 0}, "in a branch": {branch(stub, a), "", 1}, "beside": {branch(stub, a), "\x01", 2}, "elsewhere": {branch(stub, a), "\x02", 1}, "behind an extension": {ext("\x05", stub), "\x05", 1}, "not through the extension": {ext("\x05", stub), "\x06", 1}, "far within": {branch(a, branch(leaf("", "a"), ext("\x01", stub))), "\x01\x01\x01", 3},
		"at a key's end": {ext(full(2, 64), stub), full(2, 64), 1}, "beyond": {branch(nil, nil, ext(full(2, 64), stub), a), full(2, 64), 2},
	} {
		if l := walk.Path(grown(t, c.s), key(c.path)); len(l) != c.want {
			t.Errorf("%s: %d nodes instead of %d", what, len(l), c.want)
		}
	}
}

func TestPathOfOddTrees(t *testing.T) {
	a := leaf("", "a")
	two := branch(a, leaf("\x04", "b"))
	for what, c := range map[string]struct {
		s    *shape
		want int
	}{
		"a branch where keys end": {ext(full(4, 64), two), 2}, "an extension where keys end": {branch(a, a, a, a, ext(full(4, 63), branch(a, a, a, a, a, a))), 3}, "an extension that goes on beyond": {branch(a, a, a, a, ext(full(4, 64), two)), 2}, "a leaf that goes on beyond": {branch(a, a, a, a, leaf(full(4, 64), "v")), 2}, "a leaf where keys end": {branch(a, a, a, a, leaf(full(4, 63), "v")), 2}, "a leaf ahead of where keys end": {branch(a, a, a, a, leaf("\x04", "v")), 2}, "a leaf without a path": {a, 1},
		"branches beyond where keys end": {steep(70, 4, a), 65}, "branches to where keys end": {steep(64, 4, a), 65}, "branches to ahead of where keys end": {steep(63, 4, a), 64},
	} {
		l := walk.Path(grown(t, c.s), key(full(4, 64)))
		if want := c.s.along(full(4, 64)); len(l) != c.want || !sameNodes(l, want) {
			t.Errorf("%s: %d nodes instead of %d", what, len(l), c.want)
		}
	}
}

// What is handed in is nobody else's, and what is answered is new.

func TestHandedOut(t *testing.T) {
	l, s := hand()
	x := grown(t, s)
	k := l[2].Key
	pairs, between, nodes := walk.Pairs(x), walk.Range(x, l[0].Key, l[4].Key), walk.Path(x, k)
	for i := range pairs {
		pairs[i] = api.Pair{}
	}
	for i := range between {
		between[i] = api.Pair{}
	}
	_, _ = append(pairs[:1], api.Pair{Value: "z"}), append(between[:1], api.Pair{Value: "z"})
	for i := range nodes {
		for j := range nodes[i].Path {
			nodes[i].Path[j] = 9
		}
		_ = append(nodes[i].Path, 9)
		nodes[i].Kids[0] = "other"
	}
	asks(t, "behind it", x, s)
	again := walk.Path(x, k)
	for i, n := range again {
		for _, m := range again[i+1:] {
			if len(n.Path) > 0 && len(m.Path) > 0 && &n.Path[0] == &m.Path[0] {
				t.Error("two nodes have one path")
			}
		}
	}
}

// TestAsBefore asks for the same again, after other calls, and of trees that have parts in common.
func TestAsBefore(t *testing.T) {
	l, s := hand()
	x := tree.Of(l...)
	y, e := x.Put(key("\x09"), "more")
	if e != api.OK {
		t.Fatal(int(e))
	}
	asks(t, "the one", x, s)
	asks(t, "the other", y, built(append(slices.Clone(l), api.Pair{Key: key("\x09"), Value: "more"}), 0))
	asks(t, "the one again", x, s)
}

func TestAtOnce(t *testing.T) {
	c := chance(7)
	l := c.pairs(60)
	s := built(l, 0)
	x := tree.Of(l...)
	var group sync.WaitGroup
	for range 4 {
		group.Go(func() { asks(t, "at once", x, s) })
	}
	group.Wait()
}
