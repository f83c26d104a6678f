package proof_test

import (
	"crypto/sha256"
	"math"
	"slices"
	"strings"
	"sync"
	"testing"

	"dormouse/api"
	"dormouse/proof"
	"dormouse/root"
	"dormouse/tree"
)

// text, list and prefix are bytes as chapters 2 and 5 say, without packages nib and rlp.
func text(s string) string {
	if len(s) == 1 && s[0] < 128 {
		return s
	}
	return ahead(len(s), 128) + s
}

func list(l ...string) string {
	s := strings.Join(l, "")
	return ahead(len(s), 192) + s
}

func ahead(n, from int) string {
	switch {
	case n < 56:
		return string([]byte{byte(from + n)})
	case n < 256:
		return string([]byte{byte(from + 56), byte(n)})
	case n < 65536:
		return string([]byte{byte(from + 57), byte(n >> 8), byte(n)})
	}
	return string([]byte{byte(from + 58), byte(n >> 16), byte(n >> 8), byte(n)})
}

func prefix(p string, leaf bool) string {
	mark := byte(0)
	if leaf {
		mark = 2
	}
	all := string([]byte{mark, 0})
	if len(p)%2 == 1 {
		all = string([]byte{mark + 1})
	}
	all += p
	var b []byte
	for i := 0; i < len(all); i += 2 {
		b = append(b, all[i]<<4|all[i+1])
	}
	return string(b)
}

// What a shape is that is none of a node's kinds.
const (
	nothing = 0
	dropped = 4
)

// A shape is a tree as chapter 8's words have it, without packages tree and walk.
type shape struct {
	kind        int
	path, value string
	ref         string
	kids        [16]*shape // of an extension the first one
}

func leaf(path, value string) *shape {
	return sealed(&shape{kind: api.NLeaf, path: path, value: value})
}

func ext(path string, kid *shape) *shape {
	return sealed(&shape{kind: api.NExt, path: path, kids: [16]*shape{kid}})
}

// branch has trees of nibbles from 0 on (nil: there is none).
func branch(kids ...*shape) *shape {
	s := &shape{kind: api.NBranch}
	copy(s.kids[:], kids)
	return sealed(s)
}

func drop(ref string) *shape { return &shape{kind: dropped, ref: ref} }

// lost is the dropped part of a sum.
func lost(s string) *shape { return drop(strings.Repeat(s, 32)) }

// sealed tells a shape with its reference.
func sealed(s *shape) *shape {
	s.ref = s.enc()
	if len(s.ref) >= 32 {
		x := sha256.Sum256([]byte(s.ref))
		s.ref = string(x[:])
	}
	return s
}

// enc tells a shape's bytes.
func (s *shape) enc() string {
	switch s.kind {
	case api.NLeaf:
		return list(text(prefix(s.path, true)), text(s.value))
	case api.NExt:
		return list(text(prefix(s.path, false)), s.kids[0].stands())
	case api.NBranch:
		var l []string
		for _, kid := range s.kids {
			l = append(l, kid.stands())
		}
		return list(append(l, text(""))...)
	}
	return ""
}

// stands tells as which bytes a reference to a shape stands in another's.
func (s *shape) stands() string {
	if s == nil {
		return text("")
	}
	if len(s.ref) == 32 {
		return text(s.ref)
	}
	return s.ref
}

// node tells a shape's node.
func (s *shape) node() api.Node {
	if s.kind == dropped {
		return api.Node{}
	}
	n := api.Node{Kind: s.kind, Path: []byte(s.path), Value: s.value}
	for i, kid := range s.kids {
		if kid != nil {
			n.Kids[i] = kid.ref
		}
	}
	return n
}

// steps tells the ways from a shape on to those right within, each in the place of its own.
func (s *shape) steps() [16]string {
	var l [16]string
	for i := range l {
		l[i] = string([]byte{byte(i)})
	}
	if s.kind == api.NExt {
		l[0] = s.path
	}
	return l
}

// with tells a shape that has others in the places of those right within, whose references are the same.
func (s *shape) with(other func(step string, kid *shape) *shape) *shape {
	x := *s
	for i, step := range s.steps() {
		if s.kids[i] != nil {
			x.kids[i] = other(step, s.kids[i])
		}
	}
	return &x
}

// proof tells the bytes of those that a path goes through, the first one's, and of the others of 32 bytes or more; and whether it meets a dropped part.
func (s *shape) proof(p string) (l []string, stub bool) {
	l, stub = s.along(p)
	for i := len(l) - 1; i > 0; i-- {
		if len(l[i]) < 32 {
			l = slices.Delete(l, i, i+1)
		}
	}
	return l, stub
}

// along tells the bytes of all those that a path goes through, and whether it meets a dropped part.
func (s *shape) along(p string) (l []string, stub bool) {
	if s == nil || s.kind == nothing || s.kind == dropped {
		return nil, s != nil && s.kind == dropped
	}
	switch {
	case s.kind == api.NExt && strings.HasPrefix(p, s.path):
		l, stub = s.kids[0].along(p[len(s.path):])
	case s.kind == api.NBranch && p != "":
		l, stub = s.kids[p[0]].along(p[1:])
	}
	return append([]string{s.enc()}, l...), stub
}

// grown tells the tree of a shape, as Make makes it; one of a shape that stands there more than once.
func grown(t *testing.T, s *shape) tree.Tree {
	t.Helper()
	made := map[*shape]tree.Tree{}
	var grow func(s *shape) tree.Tree
	grow = func(s *shape) tree.Tree {
		if x, there := made[s]; there || s.kind == nothing {
			return x
		}
		if s.kind == dropped {
			return tree.Drop(s.ref)
		}
		var in []tree.Tree
		for _, kid := range s.kids {
			if kid != nil {
				in = append(in, grow(kid))
			}
		}
		x, e := tree.Make(s.node(), in...)
		if e != api.OK {
			t.Fatalf("Make: %d", int(e))
		}
		made[s] = x
		return x
	}
	return grow(s)
}

// path tells a key's path, without package nib; key tells the key of a path, that is 0 behind what is said.
func path(k api.Key) string {
	var b []byte
	for _, x := range k {
		b = append(b, x>>4, x&15)
	}
	return string(b)
}

func key(p string) api.Key {
	p += strings.Repeat("\x00", 64-len(p))
	var k api.Key
	for i := range k {
		k[i] = p[2*i]<<4 | p[2*i+1]
	}
	return k
}

// full tells so many nibbles of one kind.
func full(nibble byte, n int) string { return strings.Repeat(string([]byte{nibble}), n) }

// built tells the shape that is built of keys and values, of whose paths so many nibbles are gone.
func built(l []api.Pair, gone int) *shape {
	switch len(l) {
	case 0:
		return &shape{}
	case 1:
		return leaf(path(l[0].Key)[gone:], l[0].Value)
	}
	first := path(l[0].Key)
	n := gone
	for !slices.ContainsFunc(l, func(x api.Pair) bool { return path(x.Key)[n] != first[n] }) {
		n++
	}
	if n > gone {
		return ext(first[gone:n], built(l, n))
	}
	kids := make([]*shape, 16)
	for i := range kids {
		in := slices.DeleteFunc(slices.Clone(l), func(x api.Pair) bool { return path(x.Key)[n] != byte(i) })
		if len(in) > 0 {
			kids[i] = built(in, n+1)
		}
	}
	return branch(kids...)
}

// chance tells numbers that look like chance, the same ones of the same seed.
type chance uint64

func (c *chance) below(n int) int {
	*c = *c*6364136223846793005 + 1442695040888963407
	return int(uint64(*c)>>33) % n
}

// pairs tells keys that have long beginnings in common, and values, mostly short ones.
func (c *chance) pairs(n int) []api.Pair {
	m := map[api.Key]string{}
	var keys []api.Key
	for range n {
		p := make([]byte, 64)
		if len(keys) > 0 && c.below(4) > 0 {
			copy(p, path(keys[c.below(len(keys))]))
		}
		for range 1 + c.below(3) {
			p[[]int{0, 1, 30, 31, 60, 61, 62, 63, c.below(64)}[c.below(9)]] = byte(c.below(4) * 5)
		}
		k := key(string(p))
		if _, there := m[k]; !there {
			keys = append(keys, k)
		}
		m[k] = strings.Repeat(string([]byte{byte(97 + c.below(4))}), 1+c.below(3)*c.below(20))
	}
	var l []api.Pair
	for _, k := range keys {
		l = append(l, api.Pair{Key: k, Value: m[k]})
	}
	return l
}

// less tells a shape of which parts are dropped, as chance says.
func (c *chance) less(s *shape) *shape {
	switch {
	case s.kind == nothing:
		return s
	case c.below(8) == 0:
		return drop(s.ref)
	}
	return s.with(func(_ string, kid *shape) *shape { return c.less(kid) })
}

// odd tells a shape as only Make makes them: of ways of any length, most of them near a key's, with dropped parts where chance says.
func (c *chance) odd(gone, deep int) *shape {
	left := max(64-gone, 0)
	switch c.below(5) {
	case 0:
		return leaf(full(5, min(left+c.below(3), 64)), "odd")
	case 1:
		return leaf(full(byte(c.below(16)), left), full(byte(97+c.below(4)), 1+c.below(40)))
	case 2:
		if c.below(3) == 0 {
			return lost("s")
		}
		n := max(min(c.below(3)*left/2+c.below(4), 64), 1)
		return ext(full(byte(5+c.below(2)), n), c.oddBranch(gone+n, deep))
	}
	return c.oddBranch(gone, deep)
}

func (c *chance) oddBranch(gone, deep int) *shape {
	kids := make([]*shape, 16)
	for range 2 + c.below(4) {
		at := c.below(16)
		kids[at] = leaf(full(2, min(max(63-gone, 0)+c.below(2), 64)), "a")
		if deep > 0 {
			kids[at] = c.odd(gone+1, deep-1)
		}
	}
	at := c.below(15)
	kids[at], kids[at+1] = leaf(full(3, max(63-gone, 0)), "b"), leaf("\x01", full('c', 1+c.below(40)))
	return branch(kids...)
}

// ends tells the paths of keys that lead to what ends within a shape, or leave it: each way, cut off, or filled up with a few nibbles.
func (s *shape) ends(way string) []string {
	var l []string
	for _, n := range []byte{0, 5, 15} {
		l = append(l, (way + s.path + full(n, 64))[:64], (way + full(n, 64))[:64])
	}
	for i, step := range s.steps() {
		if s.kids[i] != nil {
			l = append(l, s.kids[i].ends(way+step)...)
		}
	}
	return l
}

// some tells some of a list, no more than so many, as chance says.
func some[T any](c *chance, n int, l []T) []T {
	l = slices.Clone(l)
	for len(l) > n {
		at := c.below(len(l))
		l = slices.Delete(l, at, at+1)
	}
	return l
}

// fork tells pairs whose paths fork at each nibble: the tree of them is as deep as one of keys can be, where all nibbles are that one.
func fork(nibble byte) []api.Pair {
	all := full(nibble, 64)
	l := []api.Pair{{Key: key(all), Value: full('d', 40)}}
	for i := range 64 {
		l = append(l, api.Pair{Key: key(all[:i] + string([]byte{nibble ^ 1}) + all[i+1:]), Value: "beside"})
	}
	return l
}

// joined tells all texts of proofs, those left out that were there ahead.
func joined(l ...api.Proof) []string {
	var all []string
	for _, p := range l {
		for _, enc := range p {
			if !slices.Contains(all, enc) {
				all = append(all, enc)
			}
		}
	}
	return all
}

// sumOf tells a text's sum.
func sumOf(enc string) api.Sum { return sha256.Sum256([]byte(enc)) }

// rootOf tells the root of a shape that is not dropped.
func rootOf(s *shape) api.Sum {
	if s.kind == nothing {
		return sumOf("\x80")
	}
	return sumOf(s.enc())
}

// proves fails where a key's proof is another one than is wanted, or its nodes are not told by their sums in those ahead of them.
func proves(t *testing.T, what string, x tree.Tree, p string, want ...string) api.Proof {
	t.Helper()
	got, e := proof.Of(x, key(p))
	if e != api.OK || !slices.Equal(got, want) {
		t.Fatalf("%s: %x: %d nodes instead of %d, error %d", what, p, len(got), len(want), int(e))
	}
	for i := 1; i < len(got); i++ {
		if x := sumOf(got[i]); !strings.Contains(got[i-1], string(x[:])) {
			t.Errorf("%s: %x: the node ahead of node %d does not tell it", what, p, i)
		}
	}
	return got
}

// refuses fails where a key has a proof.
func refuses(t *testing.T, what string, x tree.Tree, p string) {
	t.Helper()
	if got, e := proof.Of(x, key(p)); e != api.ErrStub || len(got) > 0 {
		t.Errorf("%s: %x: %d nodes, error %d", what, p, len(got), int(e))
	}
}

// reads fails where Partial does not tell what chapter 9 tells of the same bodies; it tells the tree.
func reads(t *testing.T, what string, r api.Sum, l ...api.Proof) (tree.Tree, api.Errno) {
	t.Helper()
	want, e := root.Load(r, joined(l...)...)
	got, f := proof.Partial(r, l...)
	if e != f || got.Enc() != want.Enc() || !slices.Equal(root.Nodes(got), root.Nodes(want)) {
		t.Errorf("%s: Partial: error %d instead of %d", what, int(f), int(e))
	}
	return got, f
}

// sameGet fails where trees tell unlike things of a key.
func sameGet(t *testing.T, what string, x, y tree.Tree, p string) {
	t.Helper()
	v, e := x.Get(key(p))
	if w, f := y.Get(key(p)); w != v || f != e {
		t.Errorf("%s: Get of %x: %q, %d instead of %q, %d", what, p, w, int(f), v, int(e))
	}
}

// asks asks for proofs in a tree, as the chapter's words have them of its shape.
func asks(t *testing.T, what string, x tree.Tree, s *shape) {
	t.Helper()
	c := chance(len(s.enc()))
	var all []api.Proof
	var told []string
	for _, p := range some(&c, 40, s.ends("")) {
		want, stub := s.proof(p)
		if stub {
			refuses(t, what, x, p)
			continue
		}
		all, told = append(all, proves(t, what, x, p, want...)), append(told, p)
	}
	if len(all) == 0 {
		return
	}
	for i, p := range told {
		if y, e := reads(t, what, rootOf(s), all[i]); e == api.OK {
			sameGet(t, what, x, y, p)
		}
	}
	y, e := reads(t, what+", all", rootOf(s), all...)
	for _, p := range told {
		if e == api.OK {
			sameGet(t, what+", all", x, y, p)
		}
	}
}

// hand is a tree of five keys, by hand: an extension of 1, a branch, in it a leaf at 0, at 2 a branch of leaves at 3 and 4, at 15 an extension of zeros, and a branch of leaves at 0 and 15, which both stand by their own bytes, and so does that branch.
func hand() ([]api.Pair, *shape) {
	l := []api.Pair{
		{Key: key("\x01\x00"), Value: "a"}, {Key: key("\x01\x02\x03"), Value: "b"}, {Key: key("\x01\x02\x04\x09"), Value: "c"},
		{Key: key("\x01\x0f"), Value: "d"}, {Key: key("\x01\x0f" + full(0, 61) + "\x0f"), Value: "e"},
	}
	s2 := branch(nil, nil, nil, leaf(full(0, 61), "b"), leaf("\x09"+full(0, 60), "c"))
	s15 := ext(full(0, 61), branch(leaf("", "d"), nil, nil, nil, nil, nil, nil, nil, nil, nil, nil, nil, nil, nil, nil, leaf("", "e")))
	return l, ext("\x01", branch(leaf(full(0, 62), "a"), nil, s2, nil, nil, nil, nil, nil, nil, nil, nil, nil, nil, nil, nil, s15))
}

// own is a tree of two keys, an extension of zeros, and a branch of leaves at 0 and 1; all but its root stand by their own bytes.
func own() *shape { return ext(full(0, 63), branch(leaf("", "a"), leaf("", "b"))) }

// sized tells a leaf that has so many bytes.
func sized(n int) *shape { return leaf("", strings.Repeat("v", n-3)) }

// shapes are shapes of all kinds.
func shapes() map[string]*shape {
	_, h := hand()
	gone, other := lost("s"), lost("o")
	a, b := leaf(full(0, 63), "a"), leaf(full(9, 63), full('b', 40))
	in := branch(leaf(full(0, 62), "a"), leaf(full(9, 62), "b"))
	l := map[string]*shape{
		"nothing": {}, "dropped": gone, "dropped, of own bytes": drop(leaf("", "a").ref), "by hand": h, "of own bytes": own(),
		"a leaf": leaf(full(3, 64), "a"), "a leaf of own bytes": leaf("", "a"), "a long leaf": leaf(full(0, 64), full('v', 65552)), "a branch": branch(a, b), "a branch of 16": branch(slices.Repeat([]*shape{a, b}, 8)...), "a branch of the last ones": branch(append(make([]*shape, 14), b, a)...),
		"the first one dropped": branch(gone, a, b), "the middle one dropped": branch(a, gone, b), "the last one dropped": branch(a, b, gone), "all dropped": branch(gone, other), "one dropped twice": branch(gone, a, gone), "all 16 dropped": branch(slices.Repeat([]*shape{gone}, 16)...),
		"behind an extension": ext("\x05", gone), "behind a long extension": ext(full(5, 64), gone), "an extension dropped in a branch": branch(a, drop(ext("\x05", in).ref), ext("\x05", in)), "far within": branch(a, branch(in, branch(gone, leaf(full(1, 61), "c"))), b),
		"own bytes beside a dropped part": branch(leaf("", "a"), gone, ext("\x01", branch(leaf("", "a"), leaf("", "b")))), "own bytes dropped": ext(full(0, 63), branch(leaf("", "a"), drop(leaf("", "b").ref), leaf("", "b"))), "a branch of own bytes dropped": branch(a, ext(full(0, 62), drop(own().kids[0].ref)), own().kids[0]),
		"a sum behind an extension": branch(a, ext("\x05", in), b), "a root of own bytes": ext("\x05", branch(leaf("", "a"), leaf("", "b"))), "31, 32 and 33 bytes": branch(sized(31), sized(32), sized(33)), "the same one in itself twice": branch(in, in, branch(in, in)),
		"a leaf dropped behind an extension": branch(ext("\x05", drop(a.ref)), drop(a.ref), a), "a leaf of own bytes dropped behind an extension": branch(ext("\x05", drop(leaf("", "a").ref)), drop(leaf("", "a").ref), leaf("", "a")),
		"65 deep, all nibbles 0": built(fork(0), 0), "65 deep, all nibbles 15": built(fork(15), 0), "65 deep, all nibbles 6": built(fork(6), 0),
	}
	for n := range 3 { // leaves whose ways have 63, 64 and 65 nibbles
		p := full(4, 62+n)
		l["odd leaves "+full('+', n)] = branch(leaf(p, "a"), leaf(p, "b"))
		l["odd and not "+full('+', n)] = branch(a, leaf(p, "odd"), b, ext("\x04", branch(leaf(full(4, 60+n), "a"), leaf(full(4, 61), "b"))))
		l["odd extension "+full('+', n)] = ext(full(4, 62+n), branch(leaf("", full('a', 40)), leaf("", "b")))
		l["odd dropped "+full('+', n)] = branch(a, nil, nil, nil, ext(full(4, 62+n), gone))
	}
	l["a branch where keys end"] = ext(full(4, 64), branch(leaf("", full('a', 40)), leaf("\x04", "b"), gone))
	l["an extension beyond where keys end"] = ext(full(4, 62), branch(nil, nil, nil, nil, ext("\x04\x04", branch(leaf("", full('a', 40)), leaf("", "b"))), leaf("\x04", full('c', 40))))
	return l
}

// P13.1

func TestShapes(t *testing.T) {
	for what, s := range shapes() {
		asks(t, what, grown(t, s), s)
	}
}

func TestTreesOfKeysByChance(t *testing.T) {
	for seed := range 100 {
		c := chance(seed)
		l := c.pairs(c.below(60))
		asks(t, "by chance", tree.Of(l...), built(l, 0))
	}
}

func TestDroppedByChance(t *testing.T) {
	for seed := range 200 {
		c := chance(seed)
		s := c.less(built(c.pairs(c.below(60)), 0))
		asks(t, "by chance", grown(t, s), s)
	}
}

func TestOddTreesByChance(t *testing.T) {
	for seed := range 300 {
		c := chance(seed)
		s := c.odd(0, c.below(6))
		asks(t, "by chance", grown(t, s), s)
	}
}

// TestOneKey is the leaf alone, whichever key is asked for.
func TestOneKey(t *testing.T) {
	for _, v := range []string{"a", full('v', 65536), full('v', 65552)} {
		k := key("\x01\x02")
		x := tree.Of(api.Pair{Key: k, Value: v})
		for _, p := range []string{"\x01\x02", "", full(15, 64), path(k)[:63] + "\x01"} {
			proves(t, "one key", x, p, list(text(prefix(path(k), true)), text(v)))
		}
	}
}

func TestNothing(t *testing.T) {
	for _, p := range []string{"", full(15, 64)} {
		proves(t, "nothing", tree.Tree{}, p)
		proves(t, "nothing", tree.Of(), p)
	}
	x, e := tree.Of(api.Pair{Value: "a"}).Del(api.Key{})
	if e != api.OK {
		t.Fatal(int(e))
	}
	proves(t, "nothing that is left", x, "")
}

func TestOfByHand(t *testing.T) {
	l, s := hand()
	b := s.kids[0]
	top, in := s.enc(), b.enc()
	for _, x := range []tree.Tree{tree.Of(l...), grown(t, s)} {
		proves(t, "a", x, "\x01\x00", top, in, b.kids[0].enc())
		proves(t, "b", x, "\x01\x02\x03", top, in, b.kids[2].enc(), b.kids[2].kids[3].enc())
		proves(t, "c", x, "\x01\x02\x04\x09", top, in, b.kids[2].enc(), b.kids[2].kids[4].enc())
		proves(t, "d", x, "\x01\x0f", top, in, b.kids[15].enc())
		proves(t, "e", x, "\x01\x0f"+full(0, 61)+"\x0f", top, in, b.kids[15].enc())
		proves(t, "beside the first extension", x, "\x02", top)
		proves(t, "no tree in the branch", x, "\x01\x01", top, in)
		proves(t, "another leaf", x, "\x01\x00\x00\x01", top, in, b.kids[0].enc())
		proves(t, "no tree in the second branch", x, "\x01\x02\x05", top, in, b.kids[2].enc())
		proves(t, "an extension that it leaves", x, "\x01\x0f\x01", top, in, b.kids[15].enc())
	}
}

// TestOfWhatStandsByItsOwnBytes tells nodes of 32 bytes or more, and the first one, however few it has.
func TestOfWhatStandsByItsOwnBytes(t *testing.T) {
	s := own()
	proves(t, "within the root's bytes", grown(t, s), "", s.enc())
	proves(t, "one of few bytes alone", grown(t, sized(4)), "", sized(4).enc())
	s = ext("\x05", branch(leaf("", "a"), leaf("", "b")))
	proves(t, "a root of fewer than 32 bytes", grown(t, s), "\x05\x01", s.enc())
	sizes := branch(sized(30), sized(31), sized(32), sized(33))
	x := grown(t, sizes)
	proves(t, "30 bytes", x, "\x00", sizes.enc())
	proves(t, "31 bytes", x, "\x01", sizes.enc())
	proves(t, "32 bytes", x, "\x02", sizes.enc(), sized(32).enc())
	proves(t, "33 bytes", x, "\x03", sizes.enc(), sized(33).enc())
	two := branch(ext("\x05", lost("s")), leaf("", "a"))
	proves(t, "an extension that it leaves", grown(t, two), "\x00\x06", two.enc(), two.kids[0].enc())
}

func TestOfDropped(t *testing.T) {
	a, b := leaf(full(0, 63), "a"), leaf("", "b")
	for _, c := range []struct {
		what, path string
		s          *shape
	}{
		{"itself", "\x03", lost("s")}, {"itself, of own bytes", "\x03", drop(b.ref)}, {"in a branch", "\x01", branch(a, lost("s"))}, {"in a branch, of own bytes", "\x01\x07", branch(a, drop(b.ref))},
		{"behind an extension", "\x05\x06", ext("\x05\x06", lost("s"))}, {"within own bytes", "\x02\x01", branch(a, b, ext("\x01", branch(b, drop(b.ref)))).with(func(step string, kid *shape) *shape {
			if step == "\x02" {
				return drop(kid.ref)
			}
			return kid
		})}, {"far within", "\x01\x01\x01\x01", branch(a, branch(a, branch(a, branch(a, lost("s")))))}, {"where keys end", full(5, 64), ext(full(5, 64), lost("s"))}, {"of own bytes, where keys end", full(5, 64), ext(full(5, 63), branch(b, nil, nil, nil, nil, drop(b.ref)))},
	} {
		refuses(t, c.what, grown(t, c.s), c.path)
	}
	for _, c := range []struct {
		what, path string
		s          *shape
		n          int
	}{
		{"beside it", "\x00", branch(a, lost("s")), 2}, {"ahead of it", "\x02", branch(a, lost("s")), 1}, {"an extension that is left", "\x05\x07", ext("\x05\x06", lost("s")), 1},
		{"a way that is too long", full(5, 64), branch(nil, nil, nil, nil, nil, ext(full(5, 64), lost("s")), a), 2}, {"a branch behind all nibbles", full(5, 64), ext(full(5, 64), branch(lost("s"), lost("o"))), 2},
	} {
		want, _ := c.s.proof(path(key(c.path)))
		if len(want) != c.n {
			t.Fatalf("%s: %d", c.what, len(want))
		}
		proves(t, c.what, grown(t, c.s), c.path, want...)
	}
}

// TestOfWhereGetRefuses has proofs, too, in trees whose ways are longer than a key's path.
func TestOfWhereGetRefuses(t *testing.T) {
	for what, s := range map[string]*shape{"a branch": ext(full(4, 64), branch(sized(40), sized(41))), "an extension": ext(full(4, 60), branch(sized(40), nil, nil, nil, ext(full(4, 9), branch(sized(40), sized(41)))))} {
		x := grown(t, s)
		if _, e := x.Get(key(full(4, 64))); e != api.ErrArg {
			t.Fatalf("%s: Get: %d", what, int(e))
		}
		want, _ := s.proof(full(4, 64))
		proves(t, what, x, full(4, 64), want...)
	}
}

// TestDeepest has a node at each nibble of a key, and one more.
func TestDeepest(t *testing.T) {
	for _, nibble := range []byte{0, 6, 15} {
		l := fork(nibble)
		p, e := proof.Of(tree.Of(l...), l[0].Key)
		if e != api.OK || len(p) != 65 || proof.Most(len(l)) != 65 {
			t.Errorf("%d: %d nodes, error %d", nibble, len(p), int(e))
		}
	}
}

// P13.2

func TestBytes(t *testing.T) {
	for _, c := range []struct {
		p api.Proof
		n int
	}{
		{nil, 0}, {api.Proof{}, 0}, {api.Proof{""}, 0}, {api.Proof{"a"}, 1}, {api.Proof{"", "ab", "", "c"}, 3}, {api.Proof{"ab", "ab", "ab"}, 6}, {api.Proof{full('x', 1<<20), "\xff\x00", "é"}, 1<<20 + 4},
	} {
		if n := proof.Bytes(c.p); n != c.n {
			t.Errorf("%d instead of %d", n, c.n)
		}
	}
	_, s := hand()
	p := proves(t, "by hand", grown(t, s), "\x01\x00", s.enc(), s.kids[0].enc(), s.kids[0].kids[0].enc())
	if n := proof.Bytes(p); n != len(s.enc()+s.kids[0].enc()+s.kids[0].kids[0].enc()) {
		t.Error(n)
	}
}

func TestSame(t *testing.T) {
	// Each of these is another one than all others.
	l := []api.Proof{nil, {""}, {"", ""}, {"a"}, {"a", ""}, {"", "a"}, {"b"}, {"a", "b"}, {"b", "a"}, {"ab"}, {"a", "a"}, {"a", "b", "c"}, {"a", "b", "d"}, {"x", "b", "c"}, {"a", "x", "c"}, {full('a', 40)}, {full('a', 41)}}
	for i, a := range l {
		for j, b := range l {
			if proof.Same(a, slices.Clone(b)) != (i == j) {
				t.Errorf("%q, %q", a, b)
			}
		}
	}
	if !proof.Same(nil, api.Proof{}) || !proof.Same(api.Proof{}, nil) {
		t.Error("none, and none")
	}
}

func TestJoined(t *testing.T) {
	for _, c := range []struct {
		l    []api.Proof
		want []string
	}{
		{nil, nil}, {[]api.Proof{nil, {}, nil}, nil}, {[]api.Proof{{"b", "a"}}, []string{"b", "a"}}, {[]api.Proof{{"a", "a"}}, []string{"a"}}, {[]api.Proof{{"a", "b", "a", "c", "b"}}, []string{"a", "b", "c"}},
		{[]api.Proof{{"c", "a"}, {"b", "a", "d"}, {"d", "c", "e"}}, []string{"c", "a", "b", "d", "e"}}, {[]api.Proof{{"a"}, {"a"}, {"a"}}, []string{"a"}}, {[]api.Proof{{"", "a"}, {""}}, []string{"", "a"}}, {[]api.Proof{nil, {"z"}, nil, {"y", "z"}}, []string{"z", "y"}}, {[]api.Proof{{"ab"}, {"a", "b"}, {"ab"}}, []string{"ab", "a", "b"}},
	} {
		if got := proof.Joined(c.l...); !slices.Equal(got, c.want) || !slices.Equal(got, joined(c.l...)) {
			t.Errorf("%q: %q", c.l, got)
		}
	}
	for seed := range 200 {
		c := chance(seed)
		var l []api.Proof
		for range c.below(6) {
			var p api.Proof
			for range c.below(8) {
				p = append(p, full('x', c.below(12)))
			}
			l = append(l, p)
		}
		if got := proof.Joined(l...); !slices.Equal(got, joined(l...)) {
			t.Errorf("%q: %q", l, got)
		}
	}
}

// TestJoinedOfMany has more texts than could be held against one another one by one.
func TestJoinedOfMany(t *testing.T) {
	var p, q api.Proof
	for i := range 200000 {
		p = append(p, string([]byte{byte(i), byte(i >> 8), byte(i >> 16)}))
		q = append(q, p[i/2])
	}
	if got := proof.Joined(q, p, q, p); len(got) != 200000 || !slices.Equal(got, p) {
		t.Error(len(got))
	}
}

// P13.3

func TestPartialByHand(t *testing.T) {
	_, s := hand()
	b := s.kids[0]
	x := grown(t, s)
	r := rootOf(s)
	at := func(p string) api.Proof {
		got, _ := proof.Of(x, key(p))
		return got
	}
	pa, pb := at("\x01\x00"), at("\x01\x02\x03")
	y, e := reads(t, "of a", r, pa)
	if v, f := y.Get(key("\x01\x00")); e != api.OK || v != "a" || f != api.OK {
		t.Errorf("a: %q, %d, %d", v, int(e), int(f))
	}
	for _, p := range []string{"\x01\x02\x03", "\x01\x0f"} {
		if v, f := y.Get(key(p)); v != "" || f != api.ErrStub {
			t.Errorf("%x: %q, %d", p, v, int(f))
		}
	}
	if _, f := y.Get(key("\x01\x01")); f != api.ErrNone {
		t.Errorf("no tree: %d", int(f))
	}
	for _, l := range [][]api.Proof{{pa, pb}, {pb, pa}, {nil, pb, pa, pb}, {pa[1:], pb}, {pb, pa[2:]}, {{b.enc()}, {b.kids[2].kids[3].enc(), b.kids[2].enc(), b.kids[0].enc()}, {s.enc()}}} {
		y, e := reads(t, "of a and b", r, l...)
		for p, want := range map[string]string{"\x01\x00": "a", "\x01\x02\x03": "b"} {
			if v, f := y.Get(key(p)); e != api.OK || v != want || f != api.OK {
				t.Errorf("%x: %q, %d, %d", p, v, int(e), int(f))
			}
		}
	}
	y, e = reads(t, "without the one in the middle", r, api.Proof{pb[0], pb[2], pb[3]})
	if _, f := y.Get(key("\x01\x02\x03")); e != api.OK || f != api.ErrStub || y.Enc() != s.enc() {
		t.Errorf("%d, %d", int(e), int(f))
	}
}

// TestPartialErrors is told what chapter 9's Load says.
func TestPartialErrors(t *testing.T) {
	_, s := hand()
	r := rootOf(s)
	p, _ := proof.Of(grown(t, s), key("\x01\x00"))
	bad := full('x', 40)
	bads := api.Proof{branch(leaf("", "a"), lost("s")).with(func(string, *shape) *shape { return drop(sha(bad)) }).enc(), bad}
	deep := leaf("", full('v', 40))
	var deeps api.Proof
	for range 65 {
		deeps = append(deeps, deep.enc())
		deep = branch(deep, leaf("", "a"))
	}
	for _, c := range []struct {
		what string
		r    api.Sum
		l    []api.Proof
		want api.Errno
	}{
		{"none", r, nil, api.ErrNone}, {"empty ones", r, []api.Proof{nil, {}, {""}}, api.ErrNone}, {"without the first", r, []api.Proof{p[1:], p[2:]}, api.ErrNone}, {"another root", sumOf("other"), []api.Proof{p}, api.ErrNone}, {"a root of zeros", api.Sum{}, []api.Proof{p}, api.ErrNone},
		{"no node's bytes", sumOf(bad), []api.Proof{{bad}}, api.ErrForm}, {"no node's bytes on the way", sumOf(bads[0]), []api.Proof{p, bads[1:], bads}, api.ErrForm}, {"not on the way", r, []api.Proof{{bad, "a"}, p}, api.OK}, {"no such node may be there", sumOf(ext("\x01", sized(40)).enc()), []api.Proof{{ext("\x01", sized(40)).enc(), sized(40).enc()}}, api.ErrForm},
		{"66 within one another", rootOf(deep), []api.Proof{deeps, {deep.enc()}}, api.ErrDepth}, {"66 within one another, one being left out", rootOf(deep), []api.Proof{deeps[1:], {deep.enc()}}, api.ErrDepth}, {"65 within one another", sumOf(deeps[64]), []api.Proof{deeps}, api.OK}, {"fewer", rootOf(deep), []api.Proof{deeps[3:], {deep.enc()}}, api.OK},
		{"nothing", sumOf("\x80"), nil, api.OK}, {"nothing, of others' proofs", sumOf("\x80"), []api.Proof{p, {bad}}, api.OK}, {"all", r, []api.Proof{p}, api.OK}, {"the first alone", r, []api.Proof{p[:1]}, api.OK},
	} {
		y, e := reads(t, c.what, c.r, c.l...)
		if e != c.want || (e != api.OK || c.r == sumOf("\x80")) != y.Empty() {
			t.Errorf("%s: %d instead of %d", c.what, int(e), int(c.want))
		}
	}
}

// sha tells a text's sum as a text.
func sha(s string) string {
	x := sumOf(s)
	return string(x[:])
}

func TestMost(t *testing.T) {
	for keys, want := range map[int]int{math.MinInt: 0, -1 << 32: 0, -2: 0, -1: 0, 0: 0, 1: 1, 2: 5, 3: 7, 4: 9, 16: 33, 30: 61, 31: 63, 32: 65, 33: 65, 64: 65, 65: 65, 1 << 20: 65, 1 << 31: 65, 1 << 62: 65, 1<<62 + 1: 65, math.MaxInt - 1: 65, math.MaxInt: 65} {
		if n := proof.Most(keys); n != want {
			t.Errorf("%d: %d instead of %d", keys, n, want)
		}
	}
}

// P13.4

// TestBack reads trees of proofs: what is asked of them is told as the tree tells it, or would be in a dropped part.
func TestBack(t *testing.T) {
	there, not, stubs, longest := 0, 0, 0, 0
	for seed := range 150 {
		c := chance(seed)
		l := c.pairs(1 + c.below(60))
		x := tree.Of(l...)
		paths := some(&c, 30, built(l, 0).ends(""))
		for _, y := range some(&c, 10, l) {
			paths = append(paths, path(y.Key))
		}
		asked := some(&c, 1+c.below(5), paths)
		var all []api.Proof
		for _, p := range asked {
			got, e := proof.Of(x, key(p))
			if e != api.OK || len(got) == 0 || len(got) > proof.Most(len(l)) {
				t.Fatalf("seed %d: %d nodes of %d keys, error %d", seed, len(got), len(l), int(e))
			}
			y, e := proof.Partial(root.Of(x), got)
			if e != api.OK || root.Of(y) != root.Of(x) {
				t.Fatalf("seed %d: error %d", seed, int(e))
			}
			sameGet(t, "one proof", x, y, p)
			all, longest = append(all, got), max(longest, len(got))
		}
		y, e := proof.Partial(root.Of(x), all...)
		if e != api.OK || root.Of(y) != root.Of(x) {
			t.Fatalf("seed %d: error %d", seed, int(e))
		}
		for _, p := range paths {
			_, e := y.Get(key(p))
			switch e {
			case api.ErrStub:
				if stubs++; slices.Contains(asked, p) {
					t.Errorf("seed %d: a key that has a proof is dropped", seed)
				}
				continue
			case api.OK:
				there++
			default:
				not++
			}
			sameGet(t, "all proofs", x, y, p)
		}
	}
	if there < 300 || not < 300 || stubs < 300 || longest < 8 {
		t.Errorf("%d there, %d not, %d dropped, %d nodes at most", there, not, stubs, longest)
	}
}

// TestBackOfFewKeys has trees of few keys whose paths fork as often as they can.
func TestBackOfFewKeys(t *testing.T) {
	for keys := 1; keys < 40; keys++ {
		var l []api.Pair
		for i := range keys {
			p := full(3, 64)
			if i > 0 {
				at := min(2*i-1, 63)
				p = p[:at] + string([]byte{byte(4 + i%12)}) + p[at+1:]
			}
			l = append(l, api.Pair{Key: key(p), Value: full('v', 40)})
		}
		x := tree.Of(l...)
		for _, y := range l {
			p, e := proof.Of(x, y.Key)
			if e != api.OK || len(p) > proof.Most(keys) {
				t.Errorf("%d keys: %d nodes, error %d", keys, len(p), int(e))
			}
			z, e := proof.Partial(root.Of(x), p)
			if e != api.OK {
				t.Errorf("%d keys: Partial: %d", keys, int(e))
			}
			sameGet(t, "few keys", x, z, path(y.Key))
		}
	}
}

// TestBackOfDropped has trees of which parts are dropped: of these a proof tells nothing.
func TestBackOfDropped(t *testing.T) {
	proofs, stubs := 0, 0
	for seed := range 150 {
		c := chance(seed)
		l := c.pairs(2 + c.below(60))
		s := c.less(built(l, 0))
		whole, x := tree.Of(l...), grown(t, s)
		for _, y := range some(&c, 12, l) {
			p, e := proof.Of(x, y.Key)
			q, _ := proof.Of(whole, y.Key)
			if _, f := x.Get(y.Key); f == api.ErrStub {
				if stubs++; e != api.ErrStub || len(p) > 0 {
					t.Errorf("seed %d: error %d", seed, int(e))
				}
				continue
			}
			proofs++
			if e != api.OK || !proof.Same(p, q) {
				t.Errorf("seed %d: error %d, %d nodes instead of %d", seed, int(e), len(p), len(q))
			}
		}
	}
	if proofs < 200 || stubs < 200 {
		t.Errorf("%d proofs, %d none", proofs, stubs)
	}
}

// TestOfEachKey has a tree of more places than can be gone through, as few bodies tell it.
func TestOfEachKey(t *testing.T) {
	s := leaf("", full('v', 40))
	encs := []string{s.enc()}
	for range 64 {
		s = branch(slices.Repeat([]*shape{s}, 16)...)
		encs = append(encs, s.enc())
	}
	slices.Reverse(encs)
	x, e := root.Load(rootOf(s), encs...)
	if e != api.OK {
		t.Fatal(int(e))
	}
	for _, p := range []string{"", full(15, 64), full(7, 64), "\x01\x02\x03"} {
		got := proves(t, "each key", x, p, encs...)
		y, e := proof.Partial(rootOf(s), got, got)
		if v, f := y.Get(key(p)); e != api.OK || v != full('v', 40) || f != api.OK {
			t.Errorf("%q, %d, %d", v, int(e), int(f))
		}
	}
	y, e := proof.Partial(rootOf(s), encs[:64])
	if _, f := y.Get(key("")); e != api.OK || f != api.ErrStub {
		t.Errorf("%d, %d", int(e), int(f))
	}
}

// TestDeepTrees has as many parts within one another as may be.
func TestDeepTrees(t *testing.T) {
	b := leaf("", "b")
	s := leaf("", full('v', 40))
	x := grown(t, s)
	for range 1<<16 - 3 {
		s = branch(drop(s.ref), b)
		y, e := tree.Make(s.node(), x, grown(t, b))
		if e != api.OK {
			t.Fatal(int(e))
		}
		x = y
	}
	p, e := proof.Of(x, key(""))
	if e != api.OK || len(p) != 65 || p[0] != s.enc() {
		t.Errorf("%d nodes, error %d", len(p), int(e))
	}
	if _, e := proof.Partial(rootOf(s), p); e != api.ErrDepth { // what is dropped behind all of them is a tree, too
		t.Errorf("Partial: %d", int(e))
	}
}

// What is handed in is nobody else's, and what is answered is new.

func TestHandedIn(t *testing.T) {
	a, b := api.Proof{"b", "a", "b", "spare", "room"}, api.Proof{"c", "a"}
	l := []api.Proof{a[:3], b, a[:2], b}
	was := []string{"b", "a", "b", "spare", "room"}
	got := proof.Joined(l[:3]...)
	proof.Partial(api.Sum{}, l[:3]...)
	proof.Same(a[:3], b)
	proof.Bytes(a[:3])
	if !slices.Equal(a, was) || !slices.Equal(b, []string{"c", "a"}) || len(l[0]) != 3 || len(l[2]) != 2 || !proof.Same(l[3], b) {
		t.Errorf("%q, %q", a, b)
	}
	clear(a)
	clear(b)
	clear(l)
	if !slices.Equal(got, []string{"b", "a", "c"}) {
		t.Errorf("%q", got)
	}
}

func TestHandedOut(t *testing.T) {
	one := api.Proof{"a", "b", "spare"}
	got := proof.Joined(one[:2])
	got[0] = "z"
	_ = append(got[:1], "y", "x", "w")
	if !slices.Equal(one, []string{"a", "b", "spare"}) {
		t.Errorf("%q", one)
	}
	_, s := hand()
	x := grown(t, s)
	p, _ := proof.Of(x, key("\x01\x00"))
	y, e := proof.Partial(rootOf(s), p)
	clear(p)
	_ = append(p[:1], "y")
	if v, f := y.Get(key("\x01\x00")); e != api.OK || v != "a" || f != api.OK {
		t.Errorf("%q, %d, %d", v, int(e), int(f))
	}
	proves(t, "a proof that is gone", x, "\x01\x00", s.enc(), s.kids[0].enc(), s.kids[0].kids[0].enc())
}

// TestAsBefore asks for the same again, and more than one at once.
func TestAsBefore(t *testing.T) {
	c := chance(7)
	s := c.less(built(c.pairs(60), 0))
	x := grown(t, s)
	var group sync.WaitGroup
	for range 4 {
		group.Go(func() { asks(t, "at once", x, s) })
	}
	group.Wait()
	asks(t, "again", x, s)
}
