package stub_test

import (
	"crypto/sha256"
	"math"
	"slices"
	"strings"
	"sync"
	"testing"

	"dormouse/api"
	"dormouse/node"
	"dormouse/refs"
	"dormouse/root"
	"dormouse/stub"
	"dormouse/tree"
)

// text, list and prefix are bytes as chapters 2 and 5 say, without packages nib and rlp.
func text(s string) string {
	if len(s) == 1 && s[0] < 128 {
		return s
	}
	return ahead(len(s), 128) + s
}

func list(l ...string) string {
	s := strings.Join(l, "")
	return ahead(len(s), 192) + s
}

func ahead(n, from int) string {
	switch {
	case n < 56:
		return string([]byte{byte(from + n)})
	case n < 256:
		return string([]byte{byte(from + 56), byte(n)})
	}
	return string([]byte{byte(from + 57), byte(n >> 8), byte(n)})
}

func prefix(p string, leaf bool) string {
	mark := byte(0)
	if leaf {
		mark = 2
	}
	all := string([]byte{mark, 0})
	if len(p)%2 == 1 {
		all = string([]byte{mark + 1})
	}
	all += p
	var b []byte
	for i := 0; i < len(all); i += 2 {
		b = append(b, all[i]<<4|all[i+1])
	}
	return string(b)
}

// What a shape is that is none of a node's kinds.
const (
	nothing = 0
	dropped = 4
)

// A shape is a tree as chapter 8's words have it, without packages tree and stub.
type shape struct {
	kind        int
	path, value string
	ref         string
	kids        [16]*shape // of an extension the first one
}

func leaf(path, value string) *shape {
	return sealed(&shape{kind: api.NLeaf, path: path, value: value})
}

func ext(path string, kid *shape) *shape {
	return sealed(&shape{kind: api.NExt, path: path, kids: [16]*shape{kid}})
}

// branch has trees of nibbles from 0 on (nil: there is none).
func branch(kids ...*shape) *shape {
	s := &shape{kind: api.NBranch}
	copy(s.kids[:], kids)
	return sealed(s)
}

func drop(ref string) *shape { return &shape{kind: dropped, ref: ref} }

// lost is the dropped part of a sum.
func lost(s string) *shape { return drop(strings.Repeat(s, 32)) }

// sealed tells a shape with its reference.
func sealed(s *shape) *shape {
	s.ref = s.enc()
	if len(s.ref) >= 32 {
		x := sha256.Sum256([]byte(s.ref))
		s.ref = string(x[:])
	}
	return s
}

// enc tells a shape's bytes.
func (s *shape) enc() string {
	switch s.kind {
	case api.NLeaf:
		return list(text(prefix(s.path, true)), text(s.value))
	case api.NExt:
		return list(text(prefix(s.path, false)), s.kids[0].stands())
	case api.NBranch:
		var l []string
		for _, kid := range s.kids {
			l = append(l, kid.stands())
		}
		return list(append(l, text(""))...)
	}
	return ""
}

// stands tells as which bytes a reference to a shape stands in another's.
func (s *shape) stands() string {
	if s == nil {
		return text("")
	}
	if len(s.ref) == 32 {
		return text(s.ref)
	}
	return s.ref
}

// node tells a shape's node.
func (s *shape) node() api.Node {
	if s.kind == dropped {
		return api.Node{}
	}
	n := api.Node{Kind: s.kind, Path: []byte(s.path), Value: s.value}
	for i, kid := range s.kids {
		if kid != nil {
			n.Kids[i] = kid.ref
		}
	}
	return n
}

// steps tells the ways from a shape on to those right within, each in the place of its own.
func (s *shape) steps() [16]string {
	var l [16]string
	for i := range l {
		l[i] = string([]byte{byte(i)})
	}
	if s.kind == api.NExt {
		l[0] = s.path
	}
	return l
}

// with tells a shape that has others in the places of those right within, whose references are the same.
func (s *shape) with(other func(step string, kid *shape) *shape) *shape {
	x := *s
	for i, step := range s.steps() {
		if s.kids[i] != nil {
			x.kids[i] = other(step, s.kids[i])
		}
	}
	return &x
}

// below, keep, graft, refs and near are the chapter's words on shapes.
func (s *shape) below(depth int) *shape { return s.belowAt(depth, 1) }

// belowAt is below of a shape behind whose node those right within stand behind so many.
func (s *shape) belowAt(depth, over int) *shape {
	return s.with(func(_ string, kid *shape) *shape {
		if len(kid.ref) == 32 && (over >= depth || over >= 1 && depth < 1) {
			return drop(kid.ref)
		}
		return kid.belowAt(depth, over+1)
	})
}

func (s *shape) keep(way string, paths ...string) *shape {
	return s.with(func(step string, kid *shape) *shape {
		goes := slices.ContainsFunc(paths, func(p string) bool { return strings.HasPrefix(p, way+step) })
		if len(kid.ref) == 32 && !goes {
			return drop(kid.ref)
		}
		return kid.keep(way+step, paths...)
	})
}

// graft tells how many dropped parts are the part, too; below an extension none is, if the part may not stand there.
func (s *shape) graft(part *shape) (*shape, int) {
	if part.kind == nothing || part.kind == dropped {
		return s, 0
	}
	if s.kind == dropped && s.ref == part.ref {
		return part, 1
	}
	n := 0
	x := s.with(func(_ string, kid *shape) *shape {
		if s.kind == api.NExt && kid.kind == dropped && part.kind != api.NBranch {
			return kid
		}
		y, some := kid.graft(part)
		n += some
		return y
	})
	return x, n
}

func (s *shape) refs() []string {
	if s.kind == dropped {
		return []string{s.ref}
	}
	var l []string
	for _, kid := range s.kids {
		if kid != nil {
			l = append(l, kid.refs()...)
		}
	}
	return l
}

// near tells whether what is left of a key's path leads to no dropped part.
func (s *shape) near(p string) bool {
	switch {
	case s == nil:
		return true
	case s.kind == dropped:
		return false
	case s.kind == api.NExt && strings.HasPrefix(p, s.path):
		return s.kids[0].near(p[len(s.path):])
	case s.kind == api.NBranch && p != "":
		return s.kids[p[0]].near(p[1:])
	}
	return true
}

// grown tells the tree of a shape, as Make makes it; one of a shape that stands there more than once.
func grown(t *testing.T, s *shape) tree.Tree {
	t.Helper()
	made := map[*shape]tree.Tree{}
	var grow func(s *shape) tree.Tree
	grow = func(s *shape) tree.Tree {
		if x, there := made[s]; there || s.kind == nothing {
			return x
		}
		if s.kind == dropped {
			return tree.Drop(s.ref)
		}
		var in []tree.Tree
		for _, kid := range s.kids {
			if kid != nil {
				in = append(in, grow(kid))
			}
		}
		x, e := tree.Make(s.node(), in...)
		if e != api.OK {
			t.Fatalf("Make: %d", int(e))
		}
		made[s] = x
		return x
	}
	return grow(s)
}

// wrong tells how a tree differs from a shape; empty: it does not.
func wrong(x tree.Tree, s *shape) string {
	n, l := x.Open()
	switch {
	case x.Empty() != (s.kind == nothing):
		return "Empty"
	case x.Ref() != s.ref:
		return "Ref"
	case x.Enc() != s.enc():
		return "Enc"
	case !node.Same(n, s.node()):
		return "the node"
	}
	for _, kid := range s.kids {
		if kid == nil {
			continue
		}
		if len(l) == 0 {
			return "too few trees"
		}
		if w := wrong(l[0], kid); w != "" {
			return w + ", within"
		}
		l = l[1:]
	}
	if len(l) > 0 {
		return "too many trees"
	}
	return ""
}

// is fails where a tree is not as a shape.
func is(t *testing.T, what string, x tree.Tree, s *shape) {
	t.Helper()
	if w := wrong(x, s); w != "" {
		t.Fatalf("%s: %s", what, w)
	}
}

// path tells a key's path, without package nib; key tells the key of a path, that is 0 behind what is said.
func path(k api.Key) string {
	var b []byte
	for _, x := range k {
		b = append(b, x>>4, x&15)
	}
	return string(b)
}

func key(p string) api.Key {
	p += strings.Repeat("\x00", 64-len(p))
	var k api.Key
	for i := range k {
		k[i] = p[2*i]<<4 | p[2*i+1]
	}
	return k
}

// full tells so many nibbles of one kind.
func full(nibble byte, n int) string { return strings.Repeat(string([]byte{nibble}), n) }

// built tells the shape that is built of keys and values, of whose paths so many nibbles are gone.
func built(l []api.Pair, gone int) *shape {
	switch len(l) {
	case 0:
		return &shape{}
	case 1:
		return leaf(path(l[0].Key)[gone:], l[0].Value)
	}
	first := path(l[0].Key)
	n := gone
	for !slices.ContainsFunc(l, func(x api.Pair) bool { return path(x.Key)[n] != first[n] }) {
		n++
	}
	if n > gone {
		return ext(first[gone:n], built(l, n))
	}
	kids := make([]*shape, 16)
	for i := range kids {
		in := slices.DeleteFunc(slices.Clone(l), func(x api.Pair) bool { return path(x.Key)[n] != byte(i) })
		if len(in) > 0 {
			kids[i] = built(in, n+1)
		}
	}
	return branch(kids...)
}

// chance tells numbers that look like chance, the same ones of the same seed.
type chance uint64

func (c *chance) below(n int) int {
	*c = *c*6364136223846793005 + 1442695040888963407
	return int(uint64(*c)>>33) % n
}

// pairs tells keys that have long beginnings in common, and values, mostly short ones.
func (c *chance) pairs(n int) []api.Pair {
	m := map[api.Key]string{}
	var keys []api.Key
	for range n {
		p := make([]byte, 64)
		if len(keys) > 0 && c.below(4) > 0 {
			copy(p, path(keys[c.below(len(keys))]))
		}
		for range 1 + c.below(3) {
			p[[]int{0, 1, 30, 31, 60, 61, 62, 63, c.below(64)}[c.below(9)]] = byte(c.below(4) * 5)
		}
		k := key(string(p))
		if _, there := m[k]; !there {
			keys = append(keys, k)
		}
		m[k] = strings.Repeat(string([]byte{byte(97 + c.below(4))}), 1+c.below(3)*c.below(20))
	}
	var l []api.Pair
	for _, k := range keys {
		l = append(l, api.Pair{Key: k, Value: m[k]})
	}
	return l
}

// less tells a shape of which parts are dropped, as chance says.
func (c *chance) less(s *shape) *shape {
	switch {
	case s.kind == nothing:
		return s
	case c.below(8) == 0:
		return drop(s.ref)
	}
	return s.with(func(_ string, kid *shape) *shape { return c.less(kid) })
}

// odd tells a shape as only Make makes them: of ways of any length, most of them near a key's, with dropped parts where chance says.
func (c *chance) odd(gone, deep int) *shape {
	left := max(64-gone, 0)
	switch c.below(5) {
	case 0:
		return leaf(full(5, min(left+c.below(3), 64)), "odd")
	case 1:
		return leaf(full(byte(c.below(16)), left), full(byte(97+c.below(4)), 1+c.below(40)))
	case 2:
		if c.below(3) == 0 {
			return lost("s")
		}
		n := max(min(c.below(3)*left/2+c.below(4), 64), 1)
		return ext(full(byte(5+c.below(2)), n), c.oddBranch(gone+n, deep))
	}
	return c.oddBranch(gone, deep)
}

func (c *chance) oddBranch(gone, deep int) *shape {
	kids := make([]*shape, 16)
	for range 2 + c.below(4) {
		at := c.below(16)
		kids[at] = leaf(full(2, min(max(63-gone, 0)+c.below(2), 64)), "a")
		if deep > 0 {
			kids[at] = c.odd(gone+1, deep-1)
		}
	}
	at := c.below(15)
	kids[at], kids[at+1] = leaf(full(3, max(63-gone, 0)), "b"), leaf("\x01", full('c', 1+c.below(40)))
	return branch(kids...)
}

// parts tells all shapes that stand within one, it first, each ahead of those within it.
func (s *shape) parts() []*shape {
	l := []*shape{s}
	for _, kid := range s.kids {
		if kid != nil {
			l = append(l, kid.parts()...)
		}
	}
	return l
}

// ends tells the paths of keys that lead to what ends within a shape, or leave it: each way, cut off, or filled up with a few nibbles.
func (s *shape) ends(way string) []string {
	var l []string
	for _, n := range []byte{0, 5, 15} {
		l = append(l, (way + s.path + full(n, 64))[:64], (way + full(n, 64))[:64])
	}
	for i, step := range s.steps() {
		if s.kids[i] != nil {
			l = append(l, s.kids[i].ends(way+step)...)
		}
	}
	return l
}

// some tells some of a list, no more than so many, as chance says.
func some[T any](c *chance, n int, l []T) []T {
	l = slices.Clone(l)
	for len(l) > n {
		at := c.below(len(l))
		l = slices.Delete(l, at, at+1)
	}
	return l
}

// asNear fails where what is near of a tree is told in another way than it was.
func asNear(t *testing.T, what string, was, x tree.Tree, paths []string) {
	t.Helper()
	for _, p := range paths {
		k := key(p)
		v, e := x.Get(k)
		old, was := was.Get(k)
		if stub.Near(x, k) && (v != old || e != was) {
			t.Errorf("%s: %x: %q, %d instead of %q, %d", what, p, v, int(e), old, int(was))
		}
	}
}

// asks asks all of a tree, as the chapter's words have it of its shape.
func asks(t *testing.T, what string, x tree.Tree, s *shape) {
	t.Helper()
	c := chance(len(s.enc()))
	paths := some(&c, 40, s.ends(""))
	for _, depth := range []int{math.MinInt, -1, 0, 1, 2, 3, 4, 64, 65, 66, math.MaxInt} {
		y := stub.Below(x, depth)
		is(t, what+": Below", y, s.below(depth))
		asNear(t, what+": Below", x, y, paths)
	}
	is(t, what+": Only", stub.Only(x), s.below(1))
	if l := stub.Refs(x); !slices.Equal(l, s.refs()) {
		t.Errorf("%s: Refs: %d instead of %d", what, len(l), len(s.refs()))
	}
	for _, p := range paths {
		if stub.Near(x, key(p)) != s.near(p) {
			t.Errorf("%s: Near of %x: %t", what, p, !s.near(p))
		}
	}
	for _, n := range []int{0, 1, 1, 2, 5, 40} {
		l := some(&c, n, paths)
		var keys []api.Key
		for _, p := range l {
			keys = append(keys, key(p))
		}
		y := stub.Keep(x, keys...)
		is(t, what+": Keep", y, s.keep("", l...))
		asNear(t, what+": Keep", x, y, paths)
		for i, k := range keys {
			if stub.Near(y, k) != s.near(l[i]) {
				t.Errorf("%s: Keep: a key that is to stay is not near", what)
			}
		}
	}
	for _, part := range some(&c, 12, append(s.parts(), &shape{}, lost("s"), leaf("\x01", "no part of it"))) {
		y, n := stub.Graft(x, grown(t, part))
		want, many := s.graft(part)
		is(t, what+": Graft", y, want)
		if n != many {
			t.Errorf("%s: Graft: %d instead of %d", what, n, many)
		}
		asNear(t, what+": Graft", y, x, paths) // what was near is as it was
	}
}

// hand is a tree of five keys, by hand: an extension of 1, a branch, in it a leaf at 0, at 2 a branch of leaves at 3 and 4, at 15 an extension of zeros, and a branch of leaves at 0 and 15, which both stand by their own bytes, and so does that branch.
func hand() ([]api.Pair, *shape) {
	l := []api.Pair{
		{Key: key("\x01\x00"), Value: "a"}, {Key: key("\x01\x02\x03"), Value: "b"}, {Key: key("\x01\x02\x04\x09"), Value: "c"},
		{Key: key("\x01\x0f"), Value: "d"}, {Key: key("\x01\x0f" + full(0, 61) + "\x0f"), Value: "e"},
	}
	s2 := branch(nil, nil, nil, leaf(full(0, 61), "b"), leaf("\x09"+full(0, 60), "c"))
	s15 := ext(full(0, 61), branch(leaf("", "d"), nil, nil, nil, nil, nil, nil, nil, nil, nil, nil, nil, nil, nil, nil, leaf("", "e")))
	return l, ext("\x01", branch(leaf(full(0, 62), "a"), nil, s2, nil, nil, nil, nil, nil, nil, nil, nil, nil, nil, nil, nil, s15))
}

// own is a tree of two keys, all but its root standing by their own bytes: an extension of zeros, and a branch of leaves at 0 and 1.
func own() *shape { return ext(full(0, 63), branch(leaf("", "a"), leaf("", "b"))) }

// shapes are shapes of all kinds.
func shapes() map[string]*shape {
	_, h := hand()
	gone, other := lost("s"), lost("o")
	a, b := leaf(full(0, 63), "a"), leaf(full(9, 63), full('b', 40))
	in := branch(leaf(full(0, 62), "a"), leaf(full(9, 62), "b"))
	l := map[string]*shape{
		"nothing": {}, "dropped": gone, "dropped, of own bytes": drop(leaf("", "a").ref), "by hand": h, "of own bytes": own(),
		"a leaf": leaf(full(3, 64), "a"), "a leaf of own bytes": leaf("", "a"), "a branch": branch(a, b), "a branch of 16": branch(slices.Repeat([]*shape{a, b}, 8)...), "a branch of the last ones": branch(append(make([]*shape, 14), b, a)...),
		"the first one dropped": branch(gone, a, b), "the middle one dropped": branch(a, gone, b), "the last one dropped": branch(a, b, gone), "all dropped": branch(gone, other), "one dropped twice": branch(gone, a, gone), "all 16 dropped": branch(slices.Repeat([]*shape{gone}, 16)...),
		"behind an extension": ext("\x05", gone), "behind a long extension": ext(full(5, 64), gone), "an extension dropped in a branch": branch(a, drop(ext("\x05", in).ref), ext("\x05", in)), "far within": branch(a, branch(in, branch(gone, leaf(full(1, 61), "c"))), b),
		"own bytes beside a dropped part": branch(leaf("", "a"), gone, ext("\x01", branch(leaf("", "a"), leaf("", "b")))), "own bytes dropped": ext(full(0, 63), branch(leaf("", "a"), drop(leaf("", "b").ref), leaf("", "b"))), "a branch of own bytes dropped": branch(a, ext(full(0, 62), drop(own().kids[0].ref)), own().kids[0]),
		"one dropped, the same one not": branch(a, drop(b.ref), b), "one dropped at three depths": branch(in, drop(in.ref), branch(branch(drop(in.ref), a), drop(in.ref))), "a part that has dropped ones": branch(drop(branch(a, gone).ref), branch(a, gone)),
		"a leaf dropped behind an extension": branch(ext("\x05", drop(a.ref)), drop(a.ref), a), "an extension dropped behind an extension": branch(ext("\x05", drop(ext("\x01", in).ref)), drop(ext("\x01", in).ref), ext("\x01", in)), "a leaf of own bytes dropped behind an extension": branch(ext("\x05", drop(leaf("", "a").ref)), drop(leaf("", "a").ref), leaf("", "a")),
	}
	for n := range 3 { // leaves whose ways have 63, 64 and 65 nibbles
		p := full(4, 62+n)
		l["odd leaves "+full('+', n)] = branch(leaf(p, "a"), leaf(p, "b"))
		l["odd and not "+full('+', n)] = branch(a, leaf(p, "odd"), b, ext("\x04", branch(leaf(full(4, 60+n), "a"), leaf(full(4, 61), "b"))))
		l["odd extension "+full('+', n)] = ext(full(4, 62+n), branch(leaf("", full('a', 40)), leaf("", "b")))
		l["odd dropped "+full('+', n)] = branch(a, nil, nil, nil, ext(full(4, 62+n), gone))
	}
	l["a branch where keys end"] = ext(full(4, 64), branch(leaf("", full('a', 40)), leaf("\x04", "b"), gone))
	l["an extension beyond where keys end"] = ext(full(4, 62), branch(nil, nil, nil, nil, ext("\x04\x04", branch(leaf("", full('a', 40)), leaf("", "b"))), leaf("\x04", full('c', 40))))
	return l
}

func TestShapes(t *testing.T) {
	for what, s := range shapes() {
		asks(t, what, grown(t, s), s)
	}
}

func TestTreesOfKeysByChance(t *testing.T) {
	for seed := range 100 {
		c := chance(seed)
		l := c.pairs(c.below(60))
		asks(t, "by chance", tree.Of(l...), built(l, 0))
	}
}

func TestDroppedByChance(t *testing.T) {
	many := 0
	for seed := range 200 {
		c := chance(seed)
		s := c.less(built(c.pairs(c.below(60)), 0))
		asks(t, "by chance", grown(t, s), s)
		many += len(s.refs())
	}
	if many < 300 {
		t.Errorf("%d dropped parts", many)
	}
}

func TestOddTreesByChance(t *testing.T) {
	many := 0
	for seed := range 300 {
		c := chance(seed)
		s := c.odd(0, c.below(6))
		asks(t, "by chance", grown(t, s), s)
		many += len(s.refs())
	}
	if many < 100 {
		t.Errorf("%d dropped parts", many)
	}
}

// P11.1

func TestBelowByHand(t *testing.T) {
	l, s := hand()
	b := s.kids[0]
	one := ext("\x01", drop(b.ref))
	two := ext("\x01", branch(drop(b.kids[0].ref), nil, drop(b.kids[2].ref), nil, nil, nil, nil, nil, nil, nil, nil, nil, nil, nil, nil, drop(b.kids[15].ref)))
	deep := b.kids[2]
	three := ext("\x01", branch(b.kids[0], nil, branch(nil, nil, nil, drop(deep.kids[3].ref), drop(deep.kids[4].ref)), nil, nil, nil, nil, nil, nil, nil, nil, nil, nil, nil, nil, b.kids[15]))
	for _, x := range []tree.Tree{tree.Of(l...), grown(t, s)} {
		for depth, want := range map[int]*shape{math.MinInt: one, -2: one, -1: one, 0: one, 1: one, 2: two, 3: three, 4: s, 5: s, math.MaxInt: s} {
			is(t, "Below", stub.Below(x, depth), want)
		}
		is(t, "Only", stub.Only(x), one)
	}
	// What Below left is below another depth as the tree was, if that is less.
	x := stub.Below(grown(t, s), 3)
	is(t, "Below of Below, less", stub.Below(x, 2), two)
	is(t, "Below of Below, more", stub.Below(x, 4), three)
	is(t, "Below of Below, the same", stub.Below(x, 3), three)
}

// TestBelowWhatStandsByItsOwnBytes drops nothing that does.
func TestBelowWhatStandsByItsOwnBytes(t *testing.T) {
	s := own()
	if len(s.ref) != 32 || len(s.kids[0].ref) == 32 {
		t.Fatal("the shape is none of that kind")
	}
	is(t, "Only", stub.Only(grown(t, s)), s)
	a := leaf(full(0, 63), "a")
	mixed := branch(leaf("", "a"), a, s.kids[0], drop(leaf("", "c").ref))
	want := branch(leaf("", "a"), drop(a.ref), s.kids[0], drop(leaf("", "c").ref))
	is(t, "Only", stub.Only(grown(t, mixed)), want)
	// 31 bytes stand by themselves, 32 do not.
	short, long := leaf(full(0, 50), "ab"), leaf(full(0, 52), "ab")
	if len(short.enc()) != 31 || len(long.enc()) != 32 {
		t.Fatal(len(short.enc()), len(long.enc()))
	}
	is(t, "Only", stub.Only(grown(t, branch(short, long))), branch(short, drop(long.ref)))
}

// TestNothing asks all of nothing, and of what is dropped itself.
func TestNothing(t *testing.T) {
	_, h := hand()
	for _, s := range []*shape{{}, lost("s"), drop(h.ref), drop(leaf("", "a").ref)} {
		x := grown(t, s)
		is(t, "Below", stub.Below(x, 1), s)
		is(t, "Only", stub.Only(x), s)
		is(t, "Keep", stub.Keep(x), s)
		is(t, "Keep", stub.Keep(x, key(""), key("\x01")), s)
		if stub.Near(x, key("")) != (s.kind == nothing) {
			t.Error("Near")
		}
		if l := stub.Refs(x); !slices.Equal(l, s.refs()) {
			t.Errorf("Refs: %d", len(l))
		}
		want, many := s.graft(h)
		y, n := stub.Graft(x, grown(t, h))
		is(t, "Graft", y, want)
		if n != many {
			t.Errorf("Graft: %d instead of %d", n, many)
		}
	}
}

// P11.2

func TestKeepByHand(t *testing.T) {
	l, s := hand()
	b := s.kids[0]
	two := b.kids[2]
	at := func(k0, k2, k15 *shape) *shape {
		return ext("\x01", branch(k0, nil, k2, nil, nil, nil, nil, nil, nil, nil, nil, nil, nil, nil, nil, k15))
	}
	d0, d2, d15 := drop(b.kids[0].ref), drop(two.ref), drop(b.kids[15].ref)
	left := branch(nil, nil, nil, two.kids[3], drop(two.kids[4].ref))
	right := branch(nil, nil, nil, drop(two.kids[3].ref), two.kids[4])
	neither := branch(nil, nil, nil, drop(two.kids[3].ref), drop(two.kids[4].ref))
	root := ext("\x01", drop(b.ref))
	for _, c := range []struct {
		what string
		keys []string
		want *shape
	}{
		{"none", nil, root}, {"one that leaves the first extension", []string{"\x00"}, root}, {"two that do", []string{"\x02", full(15, 64)}, root}, {"one that the branch has nothing of", []string{"\x01\x01"}, at(d0, d2, d15)},
		{"a leaf's", []string{"\x01\x00"}, at(b.kids[0], d2, d15)}, {"one that leaves the leaf", []string{"\x01\x00\x01"}, at(b.kids[0], d2, d15)}, {"one that leaves the leaf at its end", []string{"\x01\x00" + full(0, 61) + "\x01"}, at(b.kids[0], d2, d15)},
		{"left", []string{"\x01\x02\x03"}, at(d0, left, d15)}, {"right", []string{"\x01\x02\x04"}, at(d0, right, d15)}, {"both", []string{"\x01\x02\x04\x09", "\x01\x02\x03"}, at(d0, two, d15)}, {"neither", []string{"\x01\x02\x05"}, at(d0, neither, d15)},
		{"into own bytes", []string{"\x01\x0f"}, at(d0, d2, b.kids[15])}, {"to an extension that it leaves", []string{"\x01\x0f\x01"}, at(d0, d2, b.kids[15])},
		{"the same one often", []string{"\x01\x00", "\x01\x00", "\x01\x00"}, at(b.kids[0], d2, d15)}, {"some that lead nowhere, and one that does", []string{"\x05", "\x01\x07", "\x01\x02\x04", full(15, 64)}, at(d0, right, d15)}, {"all", []string{"\x01\x00", "\x01\x02\x03", "\x01\x02\x04", "\x01\x0f"}, s},
	} {
		var keys []api.Key
		for _, p := range c.keys {
			keys = append(keys, key(p))
		}
		for _, x := range []tree.Tree{tree.Of(l...), grown(t, s)} {
			is(t, c.what, stub.Keep(x, keys...), c.want)
			slices.Reverse(keys)
		}
	}
}

// TestKeepWithoutKeys keeps all trees within the root's own bytes.
func TestKeepWithoutKeys(t *testing.T) {
	s := own()
	is(t, "own bytes", stub.Keep(grown(t, s)), s)
	is(t, "own bytes, elsewhere", stub.Keep(grown(t, s), key("\x01")), s)
	a := leaf(full(0, 63), "a")
	is(t, "beside one that is dropped", stub.Keep(grown(t, branch(s.kids[0], a))), branch(s.kids[0], drop(a.ref)))
}

// TestKeepBehindAnExtension drops what stands behind one that no path goes all the way through.
func TestKeepBehindAnExtension(t *testing.T) {
	in := branch(leaf(full(0, 60), "a"), leaf(full(0, 60), "b"))
	s := ext("\x01\x02\x03", in)
	gone := ext("\x01\x02\x03", drop(in.ref))
	parts := ext("\x01\x02\x03", branch(drop(in.kids[0].ref), drop(in.kids[1].ref)))
	for p, want := range map[string]*shape{"\x00": gone, "\x01": gone, "\x01\x02": gone, "\x01\x02\x02": gone, "\x01\x02\x03\x05": parts, "\x02\x02\x03": gone} {
		is(t, "Keep", stub.Keep(grown(t, s), key(p)), want)
	}
}

func TestKeepWhereKeysEnd(t *testing.T) {
	a, b := leaf("", full('a', 40)), leaf("", full('b', 40))
	end := full(4, 64)
	at := ext(end, branch(a, b))
	is(t, "a branch there", stub.Keep(grown(t, at), key(end)), ext(end, branch(drop(a.ref), drop(b.ref))))
	is(t, "a branch there, another key", stub.Keep(grown(t, at), key(end[:63])), ext(end, drop(at.kids[0].ref)))
	over := branch(nil, nil, nil, nil, ext(end, branch(a, b)), a)
	want := branch(nil, nil, nil, nil, ext(end, drop(over.kids[4].kids[0].ref)), drop(a.ref))
	is(t, "an extension that goes on beyond", stub.Keep(grown(t, over), key(end)), want)
	x := stub.Keep(grown(t, at), key(end))
	if _, e := x.Get(key(end)); e != api.ErrArg || !stub.Near(x, key(end)) {
		t.Errorf("Get: %d", int(e))
	}
}

func TestNear(t *testing.T) {
	a := leaf(full(0, 63), "a")
	for _, c := range []struct {
		what string
		s    *shape
		path string
		want bool
	}{
		{"there", branch(a, lost("s")), "", true}, {"not there", branch(a, lost("s")), "\x05", true}, {"a leaf that it leaves", branch(a, lost("s")), "\x00\x01", true}, {"dropped", branch(a, lost("s")), "\x01", false}, {"dropped, of own bytes", branch(a, drop(leaf("", "b").ref)), "\x01", false},
		{"behind an extension", ext("\x05\x05", lost("s")), "\x05\x05", false}, {"not through an extension", ext("\x05\x05", lost("s")), "\x05", true}, {"a way that is too long", ext(full(5, 63), branch(nil, nil, nil, nil, nil, ext("\x05", lost("s")), a)), full(5, 64), true}, {"dropped where keys end", ext(full(5, 64), lost("s")), full(5, 64), false},
	} {
		if stub.Near(grown(t, c.s), key(c.path)) != c.want {
			t.Errorf("%s: %t", c.what, !c.want)
		}
	}
}

// P11.3

func TestRefs(t *testing.T) {
	_, s := hand()
	b := s.kids[0]
	x := stub.Below(grown(t, s), 2)
	if l := stub.Refs(x); !slices.Equal(l, []string{b.kids[0].ref, b.kids[2].ref, b.kids[15].ref}) {
		t.Errorf("%d", len(l))
	}
	in, a := lost("i"), leaf(full(0, 63), "a")
	y := grown(t, branch(lost("z"), a, branch(in, lost("b"), a), ext("\x05", in), drop(leaf("", "c").ref), lost("z"), a))
	want := []string{full('z', 32), full('i', 32), full('b', 32), full('i', 32), leaf("", "c").ref, full('z', 32)}
	if l := stub.Refs(y); !slices.Equal(l, want) {
		t.Errorf("%q", l)
	}
	if l := stub.Refs(tree.Drop(full('s', 32))); !slices.Equal(l, []string{full('s', 32)}) {
		t.Errorf("dropped itself: %q", l)
	}
	if l := stub.Refs(grown(t, s)); len(l) != 0 {
		t.Errorf("whole: %q", l)
	}
}

// TestRefsOfOnePart tells the references of a part at each place where it stands.
func TestRefsOfOnePart(t *testing.T) {
	part, whole := branch(lost("p"), lost("q")), branch(leaf("", "a"), leaf("", "b"))
	x := grown(t, branch(whole, part, whole, branch(part, whole), part))
	if l := strings.Join(stub.Refs(x), ""); l != strings.Repeat(full('p', 32)+full('q', 32), 3) {
		t.Errorf("%q", l)
	}
}

func TestGraftByHand(t *testing.T) {
	_, s := hand()
	b := s.kids[0]
	x := stub.Only(grown(t, s))
	y, n := stub.Graft(x, grown(t, b))
	is(t, "the whole branch", y, s)
	if n != 1 {
		t.Error(n)
	}
	y, n = stub.Graft(x, stub.Only(grown(t, b)))
	is(t, "a branch with dropped ones", y, s.below(2))
	if n != 1 {
		t.Error(n)
	}
	for i, at := range []int{0, 2, 15} {
		y, n = stub.Graft(y, grown(t, b.kids[at]))
		if n != 1 || len(stub.Refs(y)) != 2-i {
			t.Error(at, n)
		}
	}
	is(t, "one behind the other", y, s)
	for what, part := range map[string]*shape{"there already": b, "its root": s, "another one": leaf(full(0, 62), "z"), "nothing": {}, "of own bytes": b.kids[15].kids[0]} {
		z, n := stub.Graft(y, grown(t, part))
		is(t, what, z, s)
		if n != 0 {
			t.Errorf("%s: %d", what, n)
		}
	}
}

// TestGraftOfWhatIsDropped leaves all as it is.
func TestGraftOfWhatIsDropped(t *testing.T) {
	_, s := hand()
	for _, x := range []*shape{s.below(1), s.below(2), drop(s.ref), {}} {
		for _, ref := range append(x.refs(), full('s', 32), "", "x") {
			y, n := stub.Graft(grown(t, x), tree.Drop(ref))
			is(t, "Graft", y, x)
			if n != 0 {
				t.Error(n)
			}
		}
	}
}

func TestGraftCounts(t *testing.T) {
	a, in := leaf(full(0, 63), "a"), branch(leaf(full(0, 60), "a"), leaf(full(1, 60), "b"))
	d := drop(in.ref)
	for what, c := range map[string]struct {
		s, want *shape
		part    *shape
		n       int
	}{
		"itself": {d, in, in, 1}, "three": {branch(d, a, d, a, d), branch(in, a, in, a, in), in, 3}, "16": {branch(slices.Repeat([]*shape{d}, 16)...), branch(slices.Repeat([]*shape{in}, 16)...), in, 16},
		"at three depths": {branch(d, ext("\x01", d), branch(d, branch(a, d))), branch(in, ext("\x01", in), branch(in, branch(a, in))), in, 4}, "beside others": {branch(lost("s"), d, in, drop(a.ref)), branch(lost("s"), in, in, drop(a.ref)), in, 1},
		"of own bytes": {branch(drop(leaf("", "a").ref), a, leaf("", "a")), branch(leaf("", "a"), a, leaf("", "a")), leaf("", "a"), 1}, "within own bytes": {ext("\x01", branch(drop(leaf("", "a").ref), leaf("", "b"))), ext("\x01", branch(leaf("", "a"), leaf("", "b"))), leaf("", "a"), 1},
		"a leaf behind an extension": {ext("\x01", drop(a.ref)), ext("\x01", drop(a.ref)), a, 0}, "a leaf, and one behind an extension": {branch(ext("\x01", drop(a.ref)), drop(a.ref)), branch(ext("\x01", drop(a.ref)), a), a, 1}, "an extension behind an extension": {ext("\x01", drop(ext("\x02", in).ref)), ext("\x01", drop(ext("\x02", in).ref)), ext("\x02", in), 0},
	} {
		y, n := stub.Graft(grown(t, c.s), grown(t, c.part))
		is(t, what, y, c.want)
		if n != c.n {
			t.Errorf("%s: %d instead of %d", what, n, c.n)
		}
	}
}

// TestGraftBack drops what it may, and puts back each part that is told: the tree is whole again.
func TestGraftBack(t *testing.T) {
	for seed := range 60 {
		c := chance(seed)
		s := built(c.pairs(1+c.below(60)), 0)
		byRef := map[string]*shape{}
		for _, part := range s.parts() {
			byRef[part.ref] = part
		}
		x := stub.Below(grown(t, s), c.below(5))
		for left := stub.Refs(x); len(left) > 0; left = stub.Refs(x) {
			ref := left[c.below(len(left))]
			part := grown(t, byRef[ref])
			if c.below(2) == 0 {
				part = stub.Only(part)
			}
			y, n := stub.Graft(x, part)
			same := slices.DeleteFunc(slices.Clone(left), func(r string) bool { return r != ref })
			if n != len(same) || y.Enc() != s.enc() {
				t.Fatalf("seed %d: %d instead of %d", seed, n, len(same))
			}
			x = y
		}
		is(t, "back", x, s)
	}
}

// P11.4

// TestSameRoot holds all roots against the tree's, and what is near against what it was.
func TestSameRoot(t *testing.T) {
	for seed := range 60 {
		c := chance(seed)
		l := c.pairs(2 + c.below(60))
		x := tree.Of(l...)
		var keys []api.Key
		for _, p := range some(&c, 3, l) {
			keys = append(keys, p.Key)
		}
		back, _ := stub.Graft(stub.Only(x), x)
		for what, y := range map[string]tree.Tree{"Below": stub.Below(x, c.below(4)), "Only": stub.Only(x), "Keep": stub.Keep(x, keys...), "Keep, none": stub.Keep(x), "Graft": back} {
			if y.Enc() != x.Enc() || root.Of(y) != root.Of(x) {
				t.Errorf("seed %d: %s: another root", seed, what)
			}
			for _, p := range l {
				v, e := y.Get(p.Key)
				if near := stub.Near(y, p.Key); near != (e != api.ErrStub) || near && (v != p.Value || e != api.OK) {
					t.Errorf("seed %d: %s: %q, %d", seed, what, v, int(e))
				}
			}
		}
		y := stub.Keep(x, keys...)
		for _, k := range keys {
			if !stub.Near(y, k) {
				t.Errorf("seed %d: a key that is to stay is not near", seed)
			}
		}
	}
}

// TestPutBehindKeep puts and takes out what is near: the roots are those of the tree.
func TestPutBehindKeep(t *testing.T) {
	for seed := range 40 {
		c := chance(seed)
		l := c.pairs(2 + c.below(40))
		x := tree.Of(l...)
		k := l[c.below(len(l))].Key
		want, _ := x.Put(k, "other")
		got, e := stub.Keep(x, k).Put(k, "other")
		if e != api.OK || got.Enc() != want.Enc() {
			t.Errorf("seed %d: Put: %d", seed, int(e))
		}
	}
}

// TestDeepTrees has as many parts within one another as may be.
func TestDeepTrees(t *testing.T) {
	const n = 1<<16 - 3
	part := branch(leaf("", "p"), leaf("", full('q', 40)))
	b := leaf("", "b")
	gone := drop(part.ref)
	for _, at := range []int{0, 1} {
		x := grown(t, gone)
		s := gone
		for range n {
			kids := []*shape{b, b}
			kids[at] = drop(s.ref)
			s = branch(kids...)
			l := []tree.Tree{grown(t, b), grown(t, b)}
			l[at] = x
			y, e := tree.Make(s.node(), l...)
			if e != api.OK {
				t.Fatal(int(e))
			}
			x = y
		}
		if l := stub.Refs(x); !slices.Equal(l, []string{part.ref}) {
			t.Errorf("Refs: %d", len(l))
		}
		y, many := stub.Graft(x, grown(t, part))
		if many != 1 || len(stub.Refs(y)) != 0 || y.Enc() != s.enc() {
			t.Errorf("Graft: %d", many)
		}
		for _, depth := range []int{n, n + 1, math.MaxInt} {
			z := stub.Below(y, depth)
			want := map[int][]string{n: {part.ref}, n + 1: {part.kids[1].ref}}[depth]
			if l := stub.Refs(z); z.Enc() != s.enc() || !slices.Equal(l, want) {
				t.Errorf("Below %d: %d", depth, len(l))
			}
		}
		z := stub.Keep(y, key(full(byte(at), 64)))
		if l := stub.Refs(z); len(l) != 1 || z.Enc() != s.enc() || !stub.Near(z, key(full(byte(at), 64))) {
			t.Errorf("Keep: %d", len(l))
		}
	}
}

// everywhere tells the parts of the tree that has a value at each key there is, the deepest one first, itself last: each branch has one tree at all nibbles.
func everywhere() []*shape {
	l := []*shape{leaf("", full('v', 40))}
	for range 64 {
		l = append(l, branch(slices.Repeat([]*shape{l[len(l)-1]}, 16)...))
	}
	return l
}

// TestOfEachKey has a tree of more places than can be gone through, as few bodies tell it.
func TestOfEachKey(t *testing.T) {
	l := everywhere()
	s := l[64]
	var encs []string
	for _, part := range l {
		encs = append(encs, part.enc())
	}
	x, e := root.Load(refs.Root(s.enc()), encs...)
	if e != api.OK {
		t.Fatal(int(e))
	}
	is(t, "Only", stub.Only(x), s.below(1))
	for _, depth := range []int{2, 3, 4} {
		y := stub.Below(x, depth)
		if got := stub.Refs(y); !slices.Equal(got, slices.Repeat([]string{l[64-depth].ref}, 1<<(4*depth))) {
			t.Errorf("Below %d: Refs: %d", depth, len(got))
		}
		z, n := stub.Graft(y, grown(t, l[64-depth]))
		if n != 1<<(4*depth) || len(stub.Refs(z)) != 0 || z.Enc() != s.enc() {
			t.Errorf("Below %d: Graft: %d", depth, n)
		}
	}
	for _, depth := range []int{15, 40, 64} {
		y := stub.Below(x, depth)
		z, n := stub.Graft(y, grown(t, l[64-depth]))
		if depth == 15 && n != 1<<60 || n < 1<<60 || len(stub.Refs(z)) != 0 || y.Enc() != s.enc() || z.Enc() != s.enc() {
			t.Errorf("Below %d: Graft: %d", depth, n)
		}
	}
	for _, depth := range []int{65, math.MaxInt} {
		if y := stub.Below(x, depth); len(stub.Refs(y)) != 0 || y.Enc() != s.enc() {
			t.Errorf("Below %d", depth)
		}
	}
	if y, n := stub.Graft(x, grown(t, l[9])); n != 0 || y.Enc() != s.enc() {
		t.Errorf("Graft of what is there: %d", n)
	}
	k, other := key("\x01\x02"), key("\x01\x02\x03")
	y := stub.Keep(x, k, other)
	if v, e := y.Get(other); v != full('v', 40) || e != api.OK || stub.Near(y, key("\x01\x02\x04")) || y.Enc() != s.enc() {
		t.Errorf("Keep: %q, %d", v, int(e))
	}
	if got := stub.Refs(y); len(got) != 2*15+14+61*2*15 {
		t.Errorf("Keep: Refs: %d", len(got))
	}
}

// TestManyKeys asks of a tree that is not small.
func TestManyKeys(t *testing.T) {
	var x tree.Tree
	var keys []api.Key
	for i := range 20000 {
		k := api.Key(sha256.Sum256([]byte{byte(i), byte(i >> 8)}))
		y, e := x.Put(k, "v")
		if e != api.OK {
			t.Fatal(int(e))
		}
		x, keys = y, append(keys, k)
	}
	y := stub.Keep(x, keys[:10000]...)
	there := 0
	for i, k := range keys {
		near := stub.Near(y, k)
		if i < 10000 && !near {
			t.Errorf("%d is not near", i)
		}
		if near {
			there++
		}
	}
	if there < 10000 || there == 20000 || y.Enc() != x.Enc() || there+len(stub.Refs(y)) > 20000 {
		t.Errorf("%d near, %d dropped", there, len(stub.Refs(y)))
	}
	if z := stub.Keep(x, keys...); len(stub.Refs(z)) != 0 {
		t.Error("Keep of all")
	}
	if z := stub.Below(x, 3); len(stub.Refs(z)) < 1000 || z.Enc() != x.Enc() {
		t.Error("Below")
	}
}

// What is handed in is nobody else's, and what is answered is new.

func TestHandedIn(t *testing.T) {
	l, s := hand()
	x := tree.Of(l...)
	keys := []api.Key{l[3].Key, l[0].Key, l[2].Key, {9}}
	y := stub.Keep(x, keys[:3]...)
	if !slices.Equal(keys, []api.Key{l[3].Key, l[0].Key, l[2].Key, {9}}) {
		t.Error("Keep changes keys")
	}
	clear(keys)
	want := s.keep("", path(l[3].Key), path(l[0].Key), path(l[2].Key))
	is(t, "Keep, its keys changed", y, want)
	part := grown(t, s.kids[0])
	z := stub.Only(x)
	stub.Graft(z, part)
	stub.Below(x, 2)
	is(t, "the tree", x, s)
	is(t, "the tree that Graft put back to", z, s.below(1))
	is(t, "the part", part, s.kids[0])
}

func TestHandedOut(t *testing.T) {
	_, s := hand()
	x := stub.Below(grown(t, s), 2)
	l := stub.Refs(x)
	clear(l)
	_ = append(l[:1], "z")
	if got := stub.Refs(x); !slices.Equal(got, s.below(2).refs()) {
		t.Errorf("%q", got)
	}
	y := stub.Below(x, 9)
	n, in := y.Open()
	n.Path[0] = 9
	clear(in)
	is(t, "what Below answered", y, s.below(2))
	is(t, "what it was asked of", x, s.below(2))
}

// TestAsBefore asks for the same again, and more than one at once.
func TestAsBefore(t *testing.T) {
	c := chance(7)
	s := c.less(built(c.pairs(60), 0))
	x := grown(t, s)
	var group sync.WaitGroup
	for range 4 {
		group.Go(func() { asks(t, "at once", x, s) })
	}
	group.Wait()
	asks(t, "again", x, s)
}
