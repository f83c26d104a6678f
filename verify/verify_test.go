package verify_test

import (
	"crypto/sha256"
	"slices"
	"strings"
	"sync"
	"testing"

	"dormouse/api"
	"dormouse/node"
	"dormouse/proof"
	"dormouse/root"
	"dormouse/tree"
	"dormouse/verify"
)

// text, list and prefix are bytes as chapters 2 and 5 say, without packages nib and rlp.
func text(s string) string {
	if len(s) == 1 && s[0] < 128 {
		return s
	}
	return ahead(len(s), 128) + s
}

func list(l ...string) string {
	s := strings.Join(l, "")
	return ahead(len(s), 192) + s
}

func ahead(n, from int) string {
	switch {
	case n < 56:
		return string([]byte{byte(from + n)})
	case n < 256:
		return string([]byte{byte(from + 56), byte(n)})
	case n < 65536:
		return string([]byte{byte(from + 57), byte(n >> 8), byte(n)})
	}
	return string([]byte{byte(from + 58), byte(n >> 16), byte(n >> 8), byte(n)})
}

func prefix(p string, leaf bool) string {
	mark := byte(0)
	if leaf {
		mark = 2
	}
	all := string([]byte{mark, 0})
	if len(p)%2 == 1 {
		all = string([]byte{mark + 1})
	}
	all += p
	var b []byte
	for i := 0; i < len(all); i += 2 {
		b = append(b, all[i]<<4|all[i+1])
	}
	return string(b)
}

// What a shape is that is none of a node's kinds.
const (
	nothing = 0
	dropped = 4
	junk    = 5 // bytes that are no node's: its value
)

// A shape is a tree as chapter 8's words have it, without packages tree and walk; and what no tree is, but bytes may say.
type shape struct {
	kind        int
	path, value string
	ref         string
	kids        [16]*shape // of an extension the first one
}

func leaf(path, value string) *shape {
	return sealed(&shape{kind: api.NLeaf, path: path, value: value})
}

func ext(path string, kid *shape) *shape {
	return sealed(&shape{kind: api.NExt, path: path, kids: [16]*shape{kid}})
}

// branch has trees of nibbles from 0 on (nil: there is none).
func branch(kids ...*shape) *shape {
	s := &shape{kind: api.NBranch}
	copy(s.kids[:], kids)
	return sealed(s)
}

func drop(ref string) *shape { return &shape{kind: dropped, ref: ref} }

// lost is the dropped part of a sum.
func lost(s string) *shape { return drop(strings.Repeat(s, 32)) }

// none is bytes that are no node's.
func none(s string) *shape { return sealed(&shape{kind: junk, value: s}) }

// bySum is a shape that is told by its sum, however few bytes it has.
func bySum(s *shape) *shape {
	x := *s
	x.ref = sha(s.enc())
	return &x
}

// sealed tells a shape with its reference.
func sealed(s *shape) *shape {
	s.ref = s.enc()
	if len(s.ref) >= 32 {
		x := sha256.Sum256([]byte(s.ref))
		s.ref = string(x[:])
	}
	return s
}

// enc tells a shape's bytes.
func (s *shape) enc() string {
	switch s.kind {
	case api.NLeaf:
		return list(text(prefix(s.path, true)), text(s.value))
	case api.NExt:
		return list(text(prefix(s.path, false)), s.kids[0].stands())
	case api.NBranch:
		var l []string
		for _, kid := range s.kids {
			l = append(l, kid.stands())
		}
		return list(append(l, text(""))...)
	}
	return s.value
}

// stands tells as which bytes a reference to a shape stands in another's.
func (s *shape) stands() string {
	if s == nil {
		return text("")
	}
	if len(s.ref) == 32 {
		return text(s.ref)
	}
	return s.ref
}

// node tells a shape's node.
func (s *shape) node() api.Node {
	if s.kind == dropped {
		return api.Node{}
	}
	n := api.Node{Kind: s.kind, Path: []byte(s.path), Value: s.value}
	for i, kid := range s.kids {
		if kid != nil {
			n.Kids[i] = kid.ref
		}
	}
	return n
}

// steps tells the ways from a shape on to those right within, each in the place of its own.
func (s *shape) steps() [16]string {
	var l [16]string
	for i := range l {
		l[i] = string([]byte{byte(i)})
	}
	if s.kind == api.NExt {
		l[0] = s.path
	}
	return l
}

// with tells a shape that has others in the places of those right within, whose references are the same.
func (s *shape) with(other func(step string, kid *shape) *shape) *shape {
	x := *s
	for i, step := range s.steps() {
		if s.kids[i] != nil {
			x.kids[i] = other(step, s.kids[i])
		}
	}
	return &x
}

// grown tells the tree of a shape, as Make makes it; one of a shape that stands there more than once.
func grown(t *testing.T, s *shape) tree.Tree {
	t.Helper()
	made := map[*shape]tree.Tree{}
	var grow func(s *shape) tree.Tree
	grow = func(s *shape) tree.Tree {
		if x, there := made[s]; there || s.kind == nothing {
			return x
		}
		if s.kind == dropped {
			return tree.Drop(s.ref)
		}
		var in []tree.Tree
		for _, kid := range s.kids {
			if kid != nil {
				in = append(in, grow(kid))
			}
		}
		x, e := tree.Make(s.node(), in...)
		if e != api.OK {
			t.Fatalf("Make: %d", int(e))
		}
		made[s] = x
		return x
	}
	return grow(s)
}

// path tells a key's path, without package nib; key tells the key of a path, that is 0 behind what is said.
func path(k api.Key) string {
	var b []byte
	for _, x := range k {
		b = append(b, x>>4, x&15)
	}
	return string(b)
}

func key(p string) api.Key {
	p += strings.Repeat("\x00", 64-len(p))
	var k api.Key
	for i := range k {
		k[i] = p[2*i]<<4 | p[2*i+1]
	}
	return k
}

// full tells so many nibbles of one kind.
func full(nibble byte, n int) string { return strings.Repeat(string([]byte{nibble}), n) }

// built tells the shape that is built of keys and values, of whose paths so many nibbles are gone.
func built(l []api.Pair, gone int) *shape {
	switch len(l) {
	case 0:
		return &shape{}
	case 1:
		return leaf(path(l[0].Key)[gone:], l[0].Value)
	}
	first := path(l[0].Key)
	n := gone
	for !slices.ContainsFunc(l, func(x api.Pair) bool { return path(x.Key)[n] != first[n] }) {
		n++
	}
	if n > gone {
		return ext(first[gone:n], built(l, n))
	}
	kids := make([]*shape, 16)
	for i := range kids {
		in := slices.DeleteFunc(slices.Clone(l), func(x api.Pair) bool { return path(x.Key)[n] != byte(i) })
		if len(in) > 0 {
			kids[i] = built(in, n+1)
		}
	}
	return branch(kids...)
}

// chance tells numbers that look like chance, the same ones of the same seed.
type chance uint64

func (c *chance) below(n int) int {
	*c = *c*6364136223846793005 + 1442695040888963407
	return int(uint64(*c)>>33) % n
}

// pairs tells keys that have long beginnings in common, and values, mostly short ones.
func (c *chance) pairs(n int) []api.Pair {
	m := map[api.Key]string{}
	var keys []api.Key
	for range n {
		p := make([]byte, 64)
		if len(keys) > 0 && c.below(4) > 0 {
			copy(p, path(keys[c.below(len(keys))]))
		}
		for range 1 + c.below(3) {
			p[[]int{0, 1, 30, 31, 60, 61, 62, 63, c.below(64)}[c.below(9)]] = byte(c.below(4) * 5)
		}
		k := key(string(p))
		if _, there := m[k]; !there {
			keys = append(keys, k)
		}
		m[k] = strings.Repeat(string([]byte{byte(97 + c.below(4))}), 1+c.below(3)*c.below(20))
	}
	var l []api.Pair
	for _, k := range keys {
		l = append(l, api.Pair{Key: k, Value: m[k]})
	}
	return l
}

// less tells a shape of which parts are dropped, as chance says.
func (c *chance) less(s *shape) *shape {
	switch {
	case s.kind == nothing:
		return s
	case c.below(8) == 0:
		return drop(s.ref)
	}
	return s.with(func(_ string, kid *shape) *shape { return c.less(kid) })
}

// odd tells a shape as only Make makes them: of ways of any length, most of them near a key's, with dropped parts where chance says.
func (c *chance) odd(gone, deep int) *shape {
	left := max(64-gone, 0)
	switch c.below(5) {
	case 0:
		return leaf(full(5, min(left+c.below(3), 64)), "odd")
	case 1:
		return leaf(full(byte(c.below(16)), left), full(byte(97+c.below(4)), 1+c.below(40)))
	case 2:
		if c.below(3) == 0 {
			return lost("s")
		}
		n := max(min(c.below(3)*left/2+c.below(4), 64), 1)
		return ext(full(byte(5+c.below(2)), n), c.oddBranch(gone+n, deep))
	}
	return c.oddBranch(gone, deep)
}

func (c *chance) oddBranch(gone, deep int) *shape {
	kids := make([]*shape, 16)
	for range 2 + c.below(4) {
		at := c.below(16)
		kids[at] = leaf(full(2, min(max(63-gone, 0)+c.below(2), 64)), "a")
		if deep > 0 {
			kids[at] = c.odd(gone+1, deep-1)
		}
	}
	at := c.below(15)
	kids[at], kids[at+1] = leaf(full(3, max(63-gone, 0)), "b"), leaf("\x01", full('c', 1+c.below(40)))
	return branch(kids...)
}

// ends tells the paths of keys that lead to what ends within a shape, or leave it: each way, cut off, or filled up with a few nibbles.
func (s *shape) ends(way string) []string {
	var l []string
	for _, n := range []byte{0, 5, 15} {
		l = append(l, (way + s.path + full(n, 64))[:64], (way + full(n, 64))[:64])
	}
	for i, step := range s.steps() {
		if s.kids[i] != nil {
			l = append(l, s.kids[i].ends(way+step)...)
		}
	}
	return l
}

// some tells some of a list, no more than so many, as chance says.
func some[T any](c *chance, n int, l []T) []T {
	l = slices.Clone(l)
	for len(l) > n {
		at := c.below(len(l))
		l = slices.Delete(l, at, at+1)
	}
	return l
}

// fork tells pairs whose paths fork at each nibble: the tree of them is as deep as one of keys can be, where all nibbles are that one.
func fork(nibble byte) []api.Pair {
	all := full(nibble, 64)
	l := []api.Pair{{Key: key(all), Value: full('d', 40)}}
	for i := range 64 {
		l = append(l, api.Pair{Key: key(all[:i] + string([]byte{nibble ^ 1}) + all[i+1:]), Value: "beside"})
	}
	return l
}

// sumOf tells a text's sum.
func sumOf(enc string) api.Sum { return sha256.Sum256([]byte(enc)) }

// sha tells a text's sum as a text.
func sha(s string) string {
	x := sumOf(s)
	return string(x[:])
}

// rootOf tells the root of a shape that is not dropped.
func rootOf(s *shape) api.Sum {
	if s.kind == nothing {
		return sumOf("\x80")
	}
	return sumOf(s.enc())
}

// hand is a tree of five keys, by hand: an extension of 1, a branch, in it a leaf at 0, at 2 a branch of leaves at 3 and 4, at 15 an extension of zeros, and a branch of leaves at 0 and 15, which both stand by their own bytes, and so does that branch.
func hand() ([]api.Pair, *shape) {
	l := []api.Pair{
		{Key: key("\x01\x00"), Value: "a"}, {Key: key("\x01\x02\x03"), Value: "b"}, {Key: key("\x01\x02\x04\x09"), Value: "c"},
		{Key: key("\x01\x0f"), Value: "d"}, {Key: key("\x01\x0f" + full(0, 61) + "\x0f"), Value: "e"},
	}
	s2 := branch(nil, nil, nil, leaf(full(0, 61), "b"), leaf("\x09"+full(0, 60), "c"))
	s15 := ext(full(0, 61), branch(leaf("", "d"), nil, nil, nil, nil, nil, nil, nil, nil, nil, nil, nil, nil, nil, nil, leaf("", "e")))
	return l, ext("\x01", branch(leaf(full(0, 62), "a"), nil, s2, nil, nil, nil, nil, nil, nil, nil, nil, nil, nil, nil, nil, s15))
}

// own is a tree of two keys, an extension of zeros, and a branch of leaves at 0 and 1; all but its root stand by their own bytes.
func own() *shape { return ext(full(0, 63), branch(leaf("", "a"), leaf("", "b"))) }

// sized tells a leaf that has so many bytes.
func sized(n int) *shape { return leaf("", strings.Repeat("v", n-3)) }

// said is what a proof says of a key.
type said struct {
	value string
	has   bool
	used  int
	right bool
}

// says tells, as the chapter's words have it, which texts a path takes behind those that were taken, what is said of it at the end, and whether it comes to one.
func (s *shape) says(p string, behindExt bool) (l []string, v string, has, right bool) {
	if s.kind == nothing || s.kind == dropped || s.kind == junk || behindExt && s.kind != api.NBranch {
		return nil, "", false, false
	}
	var on *shape
	switch {
	case s.kind == api.NLeaf && s.path == p:
		return nil, s.value, true, true
	case s.kind == api.NExt && strings.HasPrefix(p, s.path):
		on, p = s.kids[0], p[len(s.path):]
	case s.kind == api.NBranch && p != "":
		on, p = s.kids[p[0]], p[1:]
	}
	if on == nil {
		return nil, "", false, true
	}
	if len(on.ref) == 32 && len(on.enc()) < 32 { // no text that is short, or gone, matches
		return nil, "", false, false
	}
	if len(on.ref) == 32 {
		l = []string{on.enc()}
	}
	in, v, has, right := on.says(p, s.kind == api.NExt)
	return append(l, in...), v, has, right
}

// wants tells what a proof, held against the root of a shape, says of a path.
func (s *shape) wants(p string, l api.Proof) said {
	switch {
	case len(l) > 70:
		return said{}
	case s.kind == nothing && len(l) > 0 && first(l[0]) == "\x80": // it has the root of nothing, but is no node
		return said{used: 1}
	case s.kind == nothing:
		return said{right: len(l) == 0}
	}
	takes, v, has, right := s.says(p, false)
	takes = append([]string{s.enc()}, takes...)
	n := 0
	for n < min(len(takes), len(l)) && takes[n] == l[n] {
		n++
	}
	if right && n == len(takes) && n == len(l) {
		return said{v, has, n, true}
	}
	return said{used: n}
}

// read tells what a proof says of a path, of which bytes alone are known: package node reads them. What is taken is counted.
func read(enc, p string, rest api.Proof, behindExt bool, used *int) (v string, has, right bool) {
	n, e := node.Get(enc)
	if e != api.OK || behindExt && n.Kind != api.NBranch {
		return "", false, false
	}
	on := ""
	switch {
	case n.Kind == api.NLeaf && string(n.Path) == p && len(rest) == 0:
		return n.Value, true, true
	case n.Kind == api.NExt && strings.HasPrefix(p, string(n.Path)):
		on, p = n.Kids[0], p[len(n.Path):]
	case n.Kind == api.NBranch && p != "":
		on, p = n.Kids[p[0]], p[1:]
	}
	switch {
	case on == "":
		return "", false, len(rest) == 0
	case len(on) == 32:
		if len(rest) == 0 || len(rest[0]) < 32 || sha(rest[0]) != on {
			return "", false, false
		}
		*used++
		on, rest = rest[0], rest[1:]
	}
	return read(on, p, rest, n.Kind == api.NExt, used)
}

// wants tells what a proof that is not empty says of a path, by its bytes alone.
func wants(r api.Sum, p string, l api.Proof) said {
	if len(l) > 70 || sumOf(first(l[0])) != r {
		return said{}
	}
	x := said{used: 1}
	x.value, x.has, x.right = read(l[0], p, l[1:], false, &x.used)
	return x
}

// first tells the bytes whose sum is the root of a node's.
func first(enc string) string {
	if enc == "" {
		return "\x80"
	}
	return enc
}

// holds fails where a proof says another thing of a key than is wanted.
func holds(t *testing.T, what string, r api.Sum, p string, l api.Proof, want said) {
	t.Helper()
	k := key(p)
	e, hasE, lacksE := api.ErrReject, api.ErrReject, api.ErrReject
	if want.right {
		e = api.OK
	}
	if want.right && want.has {
		hasE = api.OK
	} else if want.right {
		lacksE = api.OK
	}
	if v, has, got := verify.Key(r, k, l); v != want.value || has != want.has || got != e {
		t.Errorf("%s: Key of %x: %q, %v, %d instead of %q, %v, %d", what, p, v, has, int(got), want.value, want.has, int(e))
	}
	if v, got := verify.Has(r, k, l); v != want.value || got != hasE {
		t.Errorf("%s: Has of %x: %q, %d instead of %q, %d", what, p, v, int(got), want.value, int(hasE))
	}
	if got := verify.Lacks(r, k, l); got != lacksE {
		t.Errorf("%s: Lacks of %x: %d instead of %d", what, p, int(got), int(lacksE))
	}
	if got := verify.Used(r, k, l); got != want.used {
		t.Errorf("%s: Used of %x: %d instead of %d", what, p, got, want.used)
	}
}

// rejects fails where a proof is not rejected behind so many texts.
func rejects(t *testing.T, what string, r api.Sum, p string, used int, l ...string) {
	t.Helper()
	holds(t, what, r, p, l, said{used: used})
}

// tells fails where a proof does not say of a key that it has a value, or (of none) that it has none.
func tells(t *testing.T, what string, r api.Sum, p, v string, l ...string) {
	t.Helper()
	holds(t, what, r, p, l, said{v, v != "", len(l), true})
}

// turned tells a proof that is turned about as chance says, with texts of others in it.
func (c *chance) turned(l api.Proof, others []string) api.Proof {
	l = slices.Clone(l)
	other := ""
	if len(others) > 0 {
		other = others[c.below(len(others))]
	}
	at, to := c.below(len(l)+1), c.below(len(l)+1)
	if c.below(8) == 0 {
		return slices.Insert(l, at, []string{"", "x", "\x80", full('x', 40), strings.Join(l, "")}[c.below(5)])
	}
	if c.below(6) == 0 {
		return slices.Insert(l, at, other)
	}
	if at, to = c.below(max(len(l), 1)), c.below(max(len(l), 1)); len(l) == 0 {
		return api.Proof{other}
	}
	switch c.below(8) {
	case 0:
		l[at] = other
	case 1:
		l[at], l[to] = l[to], l[at]
	case 2:
		return l[:at]
	case 3:
		return l[at:]
	case 4:
		return append(l, l[at:]...)
	case 5:
		b := []byte(l[at])
		if len(b) > 0 {
			b[c.below(len(b))] ^= 1 << c.below(8)
		}
		l[at] = string(b)
	case 6:
		l[at] = l[at][:c.below(len(l[at])+1)]
	case 7:
		return slices.Delete(l, at, at+1)
	}
	return l
}

// encs tells the bytes of a shape, and of those within it, that are told by their sums.
func (s *shape) encs() []string {
	var l []string
	if enc := s.enc(); len(enc) >= 32 {
		l = append(l, enc)
	}
	for _, kid := range s.kids {
		if kid != nil {
			l = append(l, kid.encs()...)
		}
	}
	return l
}

// asks holds proofs of a shape's paths against its root: those that are right, and others. It counts in times what they say: that there is a value, or none, or nothing.
func asks(t *testing.T, what string, s *shape, seed int, times *[3]int) {
	t.Helper()
	count := func(x said) {
		switch {
		case x.has:
			times[0]++
		case x.right:
			times[1]++
		default:
			times[2]++
		}
	}
	c := chance(seed)
	r, encs := rootOf(s), s.encs()
	for _, p := range some(&c, 30, s.ends("")) {
		l, _, _, _ := s.says(p, false)
		if s.kind != nothing {
			l = append([]string{s.enc()}, l...)
		}
		holds(t, what, r, p, l, s.wants(p, l))
		count(s.wants(p, l))
		for range 4 {
			other := c.turned(l, encs)
			want := s.wants(p, other)
			if len(other) > 0 && want != wants(r, p, other) {
				t.Fatalf("%s: %x: the tests' own: %v, %v", what, p, want, wants(r, p, other))
			}
			holds(t, what+", turned", r, p, other, want)
			count(want)
		}
	}
}

// shapes are shapes of all kinds, of trees, and of none.
func shapes() map[string]*shape {
	_, h := hand()
	gone := lost("s")
	a, b := leaf(full(0, 63), "a"), leaf(full(9, 63), full('b', 40))
	in := branch(leaf(full(0, 62), "a"), leaf(full(9, 62), "b"))
	small := leaf("", "a")
	l := map[string]*shape{
		"nothing": {}, "by hand": h, "of own bytes": own(), "a leaf": leaf(full(3, 64), "a"), "a leaf of own bytes": small, "a long leaf": leaf(full(0, 64), full('v', 65552)), "a branch": branch(a, b), "a branch of 16": branch(slices.Repeat([]*shape{a, b}, 8)...),
		"the first one dropped": branch(gone, a, b), "the last one dropped": branch(a, b, gone), "all dropped": branch(gone, gone), "behind an extension": ext("\x05", gone), "far within": branch(a, branch(in, branch(gone, leaf(full(1, 61), "c"))), b),
		"a sum behind an extension": branch(a, ext("\x05", in), b), "a root of own bytes": ext("\x05", branch(small, leaf("", "b"))), "31, 32 and 33 bytes": branch(sized(31), sized(32), sized(33)), "the same one in itself twice": branch(in, in, branch(in, in)),
		"65 deep, all nibbles 0": built(fork(0), 0), "65 deep, all nibbles 15": built(fork(15), 0), "no node": none("no node"), "no node of 40 bytes": none(full('n', 40)),
		"no node in a branch": branch(none(full('n', 40)), a), "a short one of its sum": branch(bySum(small), a), "a short one of its sum behind an extension": ext("\x05", bySum(branch(small, small))),
		"a leaf behind an extension": branch(ext("\x05", a), b), "a leaf of own bytes behind an extension": branch(ext("\x05", small), b), "an extension behind one": branch(ext("\x05", ext("\x05", in)), b), "an extension of own bytes behind one": branch(ext("\x05", ext("\x05", branch(small, small))), b), "no node behind an extension": ext("\x05", none(full('n', 40))),
	}
	for n := range 3 { // leaves whose ways have 63, 64 and 65 nibbles
		p := full(5, 62+n)
		l["odd leaves "+full('+', n)] = branch(leaf(p, "a"), leaf(p, "b"), nil, nil, nil, leaf(p, "c"))
		l["odd extension "+full('+', n)] = ext(full(5, 62+n), branch(leaf("", full('a', 40)), leaf("", "b"), nil, nil, nil, leaf("", "c")))
	}
	l["a branch where keys end"] = ext(full(5, 64), branch(leaf("", full('a', 40)), leaf("\x05", "b"), gone))
	l["an extension beyond where keys end"] = ext(full(5, 62), branch(nil, nil, nil, nil, nil, ext("\x05\x05", branch(leaf("", full('a', 40)), leaf("", "b"))), leaf("\x05", full('c', 40))))
	return l
}

// wild tells a shape as bytes alone may say it: any node behind any other, told by its sum or by its own bytes, and what is no node.
func (c *chance) wild(left, deep int) *shape {
	kind := c.below(6)
	switch {
	case kind == 0 && c.below(3) == 0:
		return none(full('n', 32+c.below(20)))
	case kind == 0:
		return bySum(leaf(full(5, max(left, 0)), "w"))
	case kind == 1 || deep == 0:
		return leaf(full(byte(5*c.below(2)), min(max(left+c.below(5)/4, 0), 64)), full('w', 1+c.below(2)*c.below(50)))
	case kind == 2 || kind == 3:
		n := 1 + c.below(2)*c.below(max(min(left, 40), 1))
		return ext(full(5, n), c.wild(left-n, deep-1))
	}
	kids := make([]*shape, 16)
	kids[5], kids[0] = c.wild(left-1, deep-1), c.wild(left-1, deep-1)
	if c.below(3) == 0 {
		kids[c.below(16)] = c.wild(left-1, deep-1)
	}
	return branch(kids...)
}

// P14.1

func TestShapes(t *testing.T) {
	var times [3]int
	for what, s := range shapes() {
		for seed := range 3 {
			asks(t, what, s, seed, &times)
		}
	}
	often(t, times)
}

// often fails where something was said too seldom.
func often(t *testing.T, times [3]int) {
	t.Helper()
	if times[0] < 200 || times[1] < 1000 || times[2] < 3000 {
		t.Error(times)
	}
}

func TestTreesOfKeysByChance(t *testing.T) {
	var times [3]int
	for seed := range 100 {
		c := chance(seed)
		asks(t, "by chance", built(c.pairs(c.below(60)), 0), seed, &times)
	}
	often(t, times)
}

func TestWildByChance(t *testing.T) {
	var times [3]int
	for seed := range 600 {
		c := chance(seed)
		asks(t, "by chance", c.wild(64, 1+c.below(6)), seed, &times)
	}
	often(t, times)
}

func TestByHand(t *testing.T) {
	_, s := hand()
	r, b := rootOf(s), s.kids[0]
	top, in := s.enc(), b.enc()
	a, two, ext15 := b.kids[0].enc(), b.kids[2].enc(), b.kids[15].enc()
	tells(t, "a", r, "\x01\x00", "a", top, in, a)
	tells(t, "b", r, "\x01\x02\x03", "b", top, in, two, b.kids[2].kids[3].enc())
	tells(t, "c", r, "\x01\x02\x04\x09", "c", top, in, two, b.kids[2].kids[4].enc())
	tells(t, "d", r, "\x01\x0f", "d", top, in, ext15)
	tells(t, "e", r, "\x01\x0f"+full(0, 61)+"\x0f", "e", top, in, ext15)
	tells(t, "beside the first extension", r, "\x02", "", top)
	tells(t, "no tree in the branch", r, "\x01\x01", "", top, in)
	tells(t, "another leaf", r, "\x01\x00\x00\x01", "", top, in, a)
	tells(t, "no tree in the second branch", r, "\x01\x02\x05", "", top, in, two)
	tells(t, "an extension that it leaves", r, "\x01\x0f\x01", "", top, in, ext15)
	tells(t, "no tree within own bytes", r, "\x01\x0f"+full(0, 61)+"\x0e", "", top, in, ext15)
	rejects(t, "none", r, "\x01\x00", 0)
	rejects(t, "the root alone", r, "\x01\x00", 1, top)
	rejects(t, "without the last", r, "\x01\x00", 2, top, in)
	rejects(t, "another last", r, "\x01\x00", 2, top, in, two)
	rejects(t, "without the middle one", r, "\x01\x00", 1, top, a)
	rejects(t, "without the first", r, "\x01\x00", 0, in, a)
	rejects(t, "the first twice", r, "\x01\x00", 1, top, top, in, a)
	rejects(t, "the last twice", r, "\x01\x00", 3, top, in, a, a)
	rejects(t, "the last two in the other's place", r, "\x01\x00", 1, top, a, in)
	rejects(t, "an empty one behind", r, "\x01\x00", 3, top, in, a, "")
	rejects(t, "an empty one ahead", r, "\x01\x00", 0, "", top, in, a)
	rejects(t, "an empty one in the middle", r, "\x01\x00", 2, top, in, "", a)
	rejects(t, "another key's", r, "\x01\x00", 2, top, in, ext15)
	rejects(t, "what stands by its own bytes told too", r, "\x01\x0f", 3, top, in, ext15, b.kids[15].kids[0].enc())
	rejects(t, "texts behind one that has none", r, "\x02", 1, top, in)
	rejects(t, "joined", r, "\x01\x00", 0, top+in+a)
}

// TestEmpty has no texts: of nothing the key has none.
func TestEmpty(t *testing.T) {
	_, s := hand()
	for _, l := range []api.Proof{nil, {}} {
		for _, p := range []string{"", full(15, 64), "\x01\x02"} {
			tells(t, "nothing", sumOf("\x80"), p, "", l...)
			for what, r := range map[string]api.Sum{"a tree": rootOf(s), "zeros": {}, "the sum of no bytes": sumOf(""), "a leaf": rootOf(leaf(full(0, 64), "a"))} {
				rejects(t, what, r, p, 0, l...)
			}
		}
	}
}

// TestOfNothing has texts, though there is nothing: that of no bytes has its root, and so has the byte 128, but neither is a node.
func TestOfNothing(t *testing.T) {
	_, s := hand()
	r := sumOf("\x80")
	rejects(t, "no bytes", r, "", 1, "")
	rejects(t, "the byte 128", r, "", 1, "\x80")
	rejects(t, "both", r, "", 1, "", "\x80")
	rejects(t, "a node", r, "", 0, s.enc())
	rejects(t, "a node behind", r, "\x01", 1, "", s.enc())
	rejects(t, "no bytes, of the sum of none", sumOf(""), "", 0, "")
	rejects(t, "no bytes, of a tree", rootOf(s), "", 0, "")
}

// TestRoots turns each bit of a root.
func TestRoots(t *testing.T) {
	_, s := hand()
	l, _, _, _ := s.says(path(key("\x01\x00")), false)
	l = append([]string{s.enc()}, l...)
	tells(t, "as it is", rootOf(s), "\x01\x00", "a", l...)
	for bit := range 256 {
		r := rootOf(s)
		r[bit/8] ^= 1 << (bit % 8)
		rejects(t, "another root", r, "\x01\x00", 0, l...)
		r = sumOf("\x80")
		r[bit/8] ^= 1 << (bit % 8)
		rejects(t, "another root, none", r, "\x01\x00", 0)
	}
	for i, enc := range l[1:] {
		rejects(t, "a later one's root", sumOf(enc), "\x01\x00", 0, l...)
		if i == 0 {
			tells(t, "from the second on", sumOf(enc), "\x00", "", l[1:]...) // of its leaf another path is left
			tells(t, "from the second on", sumOf(enc), "\x01", "", enc)
		}
	}
	var r api.Sum
	copy(r[:], s.kids[0].ref)
	rejects(t, "the second one's", r, "\x01\x00", 0, l...)
}

// TestManyTexts has as many as may be, and more.
func TestManyTexts(t *testing.T) {
	s := built(fork(6), 0)
	r, p := rootOf(s), full(6, 64)
	l, v, _, _ := s.says(p, false)
	l = append([]string{s.enc()}, l...)
	if len(l) != 65 {
		t.Fatal(len(l))
	}
	tells(t, "65", r, p, v, l...)
	for n := range 5 {
		rejects(t, "more", r, p, 65, append(l, slices.Repeat([]string{"more"}, 1+n)...)...)
	}
	for _, n := range []int{6, 7, 65, 1000} {
		rejects(t, "more than may be", r, p, 0, append(l, slices.Repeat([]string{"more"}, n)...)...)
	}
	one := leaf(full(0, 64), "a")
	rejects(t, "70", rootOf(one), "", 1, slices.Repeat([]string{one.enc()}, 70)...)
	rejects(t, "71", rootOf(one), "", 0, slices.Repeat([]string{one.enc()}, 71)...)
	rejects(t, "71, of nothing", sumOf("\x80"), "", 0, make([]string, 71)...)
	rejects(t, "70, of nothing", sumOf("\x80"), "", 1, make([]string, 70)...)
	rejects(t, "a million", r, p, 0, append(l, make([]string, 1<<20)...)...)
}

// TestNoNodes has texts that are told by their sums, but are no nodes.
func TestNoNodes(t *testing.T) {
	good := leaf(full(0, 62), full('g', 40))
	kid, long := text(sha("kid")), text(prefix(full(0, 62), true))
	empty := strings.Repeat(text(""), 15)
	for what, enc := range map[string]string{
		"no bytes of any": full('n', 40), "bytes behind": good.enc() + "x", "bytes that end": good.enc()[:len(good.enc())-1], "a text": text(full('t', 40)), "an empty list": list() + full('n', 40), "three items": list(long, text(full('v', 40)), text("")), "one item": list(text(full('v', 40))),
		"a leaf without a value": list(long, text("")), "a leaf of a list": list(long, list(text("a"))), "a leaf of too long a value": list(long, text(full('v', 65553))), "a leaf of no path": list(text(""), text(full('v', 40))), "a leaf of another mark": list(text("\x40"+full('p', 31)), text(full('v', 40))),
		"an extension without a path": list(text(prefix("", false)), kid), "an extension of nothing": list(text(prefix(full(0, 62), false)), text("")), "an extension of 31 bytes": list(text(prefix(full(0, 62), false)), text(full('k', 31))), "a branch of one": list(kid, empty, text("")), "a branch that has a value": list(kid, kid, empty[1:], text("v")), "a branch of 15": list(kid, kid, empty[2:], text("")), "a path of 65": list(text(prefix(full(0, 65), true)), text("a")),
	} {
		if _, e := node.Get(enc); e == api.OK || len(enc) < 32 {
			t.Fatalf("%s: it is a node, or has %d bytes", what, len(enc))
		}
		rejects(t, what, sumOf(enc), "", 1, enc)
		rejects(t, what+", more behind", sumOf(enc), "", 1, enc, good.enc())
		in := branch(none(enc), good)
		rejects(t, what+", in a branch", rootOf(in), "", 2, in.enc(), enc)
		tells(t, what+", off the path", rootOf(in), "\x02", "", in.enc())
		in = ext("\x00", none(enc))
		rejects(t, what+", behind an extension", rootOf(in), "", 2, in.enc(), enc)
		tells(t, what+", behind an extension that is left", rootOf(in), "\x01", "", in.enc())
	}
	for _, enc := range []string{"x", "\x00", "\xc0", full('n', 20), list(text("a")), text(full('t', 20))} {
		rejects(t, "few bytes", sumOf(enc), "", 1, enc)
	}
}

// TestBehindExtension has what no tree has there.
func TestBehindExtension(t *testing.T) {
	small, long := leaf("", "a"), leaf(full(5, 62), full('a', 40))
	fork := branch(long, small)
	for _, c := range []struct {
		what string
		in   *shape
		used int
	}{{"a leaf", long, 2}, {"a leaf of own bytes", small, 1}, {"an extension", ext("\x05", fork), 2}, {"an extension of own bytes", ext("\x05", branch(small, small)), 1}} {
		l := api.Proof{ext("\x05\x05", c.in).enc()}
		if c.used == 2 {
			l = append(l, c.in.enc())
		}
		r := sumOf(l[0])
		rejects(t, c.what, r, full(5, 64), c.used, l...)
		rejects(t, c.what+", more behind", r, full(5, 64), c.used, append(l, fork.enc(), long.enc())...)
		tells(t, c.what+" that is not gone to", r, "\x05\x04", "", l[0])
		top := branch(nil, nil, nil, nil, small, ext("\x05\x05", c.in))
		l = slices.Insert(l, 0, top.enc())
		if len(top.kids[5].ref) < 32 {
			l = slices.Delete(l, 1, 2)
		}
		holds(t, c.what+" in a branch", rootOf(top), full(5, 64), l, said{used: len(l)})
		holds(t, c.what+" in a branch", rootOf(top), full(4, 64), l[:1], said{right: true, used: 1})
	}
	top := ext("\x05", branch(nil, nil, nil, nil, small, long, ext("\x06", fork)))
	tells(t, "a leaf behind a branch behind it", rootOf(top), full(5, 64), full('a', 40), top.enc(), top.kids[0].enc(), long.enc())
	tells(t, "an extension behind a branch behind it", rootOf(top), "\x05\x06\x07", "", top.enc(), top.kids[0].enc(), top.kids[0].kids[6].enc())
}

// TestNextTexts asks for a text that is not there, or is another one.
func TestNextTexts(t *testing.T) {
	small, next := leaf("", "a"), leaf(full(0, 63), full('n', 40))
	top := branch(next, bySum(small), small, lost("s"))
	r := rootOf(top)
	tells(t, "there", r, "", full('n', 40), top.enc(), next.enc())
	for _, enc := range []string{"", "x", small.enc(), top.enc(), next.enc() + "x", next.enc()[1:], "x" + next.enc(), next.ref, leaf(full(0, 63), full('m', 40)).enc(), full('s', 32)} {
		rejects(t, "another", r, "", 1, top.enc(), enc)
		rejects(t, "another ahead", r, "", 1, top.enc(), enc, next.enc())
		rejects(t, "another behind", r, "", 2, top.enc(), next.enc(), enc)
		rejects(t, "another than that of a dropped part", r, "\x03", 1, top.enc(), enc)
	}
	rejects(t, "one of few bytes, by its sum", r, "\x01", 1, top.enc(), small.enc())
	rejects(t, "one of few bytes, by its own", r, "\x02", 1, top.enc(), small.enc())
	tells(t, "within the first", r, "\x02", "", top.enc())
	rejects(t, "none", r, "", 1, top.enc())
	two := branch(top, top)
	tells(t, "one text twice", rootOf(branch(two, two)), full(0, 2)+"\x02", "", branch(two, two).enc(), two.enc(), top.enc())
}

// TestOwnBytes has nodes of 30 to 33 bytes: those of fewer than 32 are no texts of a proof.
func TestOwnBytes(t *testing.T) {
	for n := 30; n < 34; n++ {
		p := full(2, 62) + "\x03\x01"
		in := branch(nil, nil, nil, branch(nil, sized(n), sized(20)), sized(20))
		top := ext(full(2, 62), in)
		l := api.Proof{top.enc(), in.enc(), in.kids[3].enc()}
		if n >= 32 {
			l = append(l, sized(n).enc())
		}
		tells(t, "30 to 33 bytes", rootOf(top), p, full('v', n-3), l...)
		tells(t, "beside it", rootOf(top), full(2, 62)+"\x03\x02", full('v', 17), l[:3]...)
		rejects(t, "one more", rootOf(top), p, len(l), append(l, sized(n).enc())...)
		rejects(t, "one less", rootOf(top), p, len(l)-1, l[:len(l)-1]...)
		tells(t, "a root of so many", rootOf(sized(n)), p, "", sized(n).enc())
	}
	s := own()
	tells(t, "all within the root's bytes", rootOf(s), "", "a", s.enc())
	tells(t, "all within the root's bytes", rootOf(s), full(0, 63)+"\x01", "b", s.enc())
	tells(t, "all within the root's bytes", rootOf(s), full(0, 63)+"\x02", "", s.enc())
	few := ext("\x05", branch(leaf("", "a"), leaf("", "b")))
	tells(t, "a root of few bytes", rootOf(few), "\x05", "", few.enc())
	rejects(t, "a root of few bytes, as it is", api.Sum([]byte((few.enc() + full(0, 32))[:32])), "\x05", 0, few.enc())
}

// TestSumsThatAreNodes has 32 bytes that are a sum, and a leaf's bytes, too.
func TestSumsThatAreNodes(t *testing.T) {
	twofold := sized(32).enc()
	top := branch(drop(twofold), sized(40))
	if len(twofold) != 32 {
		t.Fatal(len(twofold))
	}
	rejects(t, "as it stands", rootOf(top), "", 1, top.enc())
	rejects(t, "as a text", rootOf(top), "", 1, top.enc(), twofold)
	tells(t, "beside it", rootOf(top), "\x01", "", top.enc(), sized(40).enc())
}

// TestEnds has ways that are as long as a key's path, shorter and longer.
func TestEnds(t *testing.T) {
	for n := 1; n <= 64; n++ {
		for end := 0; end <= 64; end++ {
			s := leaf(full(5, end), "v")
			want := ""
			if end == 64 {
				want = "v"
			}
			if n == 1 {
				tells(t, "a leaf alone", rootOf(s), full(5, 64), want, s.enc())
			}
			in := branch(nil, nil, nil, nil, leaf("", "beside"), s)
			top := ext(full(5, n), in)
			l := api.Proof{top.enc()}
			if len(in.ref) == 32 {
				l = append(l, in.enc())
			}
			if want = ""; n+1+end == 64 {
				want = "v"
			}
			if n < 64 && len(s.ref) == 32 {
				l = append(l, s.enc())
			}
			tells(t, "a leaf behind both", rootOf(top), full(5, 64), want, l...)
		}
		s := ext(full(5, n), lost("s"))
		rejects(t, "an extension", rootOf(s), full(5, 64), 1, s.enc())
		tells(t, "an extension of another nibble", rootOf(s), full(5, n-1)+"\x06"+full(5, 64-n), "", s.enc())
		s = branch(lost("o"), nil, nil, nil, nil, ext(full(5, n), lost("s")))
		l := api.Proof{s.enc(), s.kids[5].enc()}
		holds(t, "an extension behind a branch", rootOf(s), full(5, 64), l, said{used: 2, right: n == 64})
	}
}

// TestEachNibble goes through each place of a branch.
func TestEachNibble(t *testing.T) {
	for there := range byte(16) {
		kids := make([]*shape, 16)
		kids[there], kids[there^1] = leaf(full(there, 63), full('v', 40)), lost("s")
		s := branch(kids...)
		for asked := range byte(16) {
			switch p := full(asked, 64); asked {
			case there:
				tells(t, "there", rootOf(s), p, full('v', 40), s.enc(), kids[there].enc())
				rejects(t, "no text", rootOf(s), p, 1, s.enc())
			case there ^ 1:
				rejects(t, "dropped", rootOf(s), p, 1, s.enc(), kids[there].enc())
			default:
				tells(t, "not there", rootOf(s), p, "", s.enc())
			}
		}
	}
}

// TestAllLists has all lists of up to four texts of a tree, and others.
func TestAllLists(t *testing.T) {
	_, s := hand()
	texts := append(s.encs(), "", full('x', 40))
	lists := []api.Proof{nil}
	for i := 0; len(lists[i]) < 4; i++ {
		for _, enc := range texts {
			lists = append(lists, append(slices.Clone(lists[i]), enc))
		}
	}
	right := 0
	for _, p := range []string{"\x01\x00", "\x01\x02\x03", "\x01\x02\x04\x09", "\x01\x0f", "\x02", "\x01\x01", "\x01\x02\x05"} {
		for _, l := range lists {
			want := s.wants(path(key(p)), l)
			if want.right {
				right++
			}
			holds(t, "a list", rootOf(s), p, l, want)
		}
	}
	if right != 7 {
		t.Errorf("%d are right", right)
	}
}

// TestTurnedBytes turns the bytes of each text, whose sums are told anew: what is a node still says what its bytes say.
func TestTurnedBytes(t *testing.T) {
	_, s := hand()
	right := 0
	for _, enc := range append(s.encs(), own().enc(), leaf(full(5, 64), "a").enc()) {
		for at := range len(enc) {
			for _, by := range []byte{1, 2, 16, 32, 64, 128, 255} {
				b := []byte(enc)
				b[at] ^= by
				l := api.Proof{string(b)}
				for _, p := range []string{"\x01", "\x00\x03", full(5, 64), full(0, 64)} {
					want := wants(sumOf(l[0]), path(key(p)), l)
					if want.right {
						right++
					}
					holds(t, "turned", sumOf(l[0]), p, l, want)
				}
			}
		}
	}
	if right < 1000 {
		t.Errorf("%d are right", right)
	}
}

// P14.2

func TestHasLacksUsed(t *testing.T) {
	_, s := hand()
	b := s.kids[0]
	l := api.Proof{s.enc(), b.enc(), b.kids[0].enc(), "left"}
	there, not := key("\x01\x00"), key("\x01\x00\x00\x01")
	for _, c := range []struct {
		what       string
		k          api.Key
		l          api.Proof
		v          string
		has, lacks api.Errno
		used       int
		r          api.Sum
	}{
		{"there", there, l[:3], "a", api.OK, api.ErrReject, 3, rootOf(s)}, {"not there", not, l[:3], "", api.ErrReject, api.OK, 3, rootOf(s)}, {"not there, of the root", key("\x02"), l[:1], "", api.ErrReject, api.OK, 1, rootOf(s)},
		{"one less", there, l[:2], "", api.ErrReject, api.ErrReject, 2, rootOf(s)}, {"one left", there, l, "", api.ErrReject, api.ErrReject, 3, rootOf(s)}, {"one left, not there", not, l, "", api.ErrReject, api.ErrReject, 3, rootOf(s)}, {"another root", there, l[:3], "", api.ErrReject, api.ErrReject, 0, sumOf("x")},
		{"nothing", there, nil, "", api.ErrReject, api.OK, 0, sumOf("\x80")}, {"nothing, of another root", there, nil, "", api.ErrReject, api.ErrReject, 0, rootOf(s)},
	} {
		v, e := verify.Has(c.r, c.k, c.l)
		if v != c.v || e != c.has {
			t.Errorf("%s: Has: %q, %d", c.what, v, int(e))
		}
		if e := verify.Lacks(c.r, c.k, c.l); e != c.lacks {
			t.Errorf("%s: Lacks: %d", c.what, int(e))
		}
		if n := verify.Used(c.r, c.k, c.l); n != c.used {
			t.Errorf("%s: Used: %d", c.what, n)
		}
	}
}

// P14.3

// same fails where a key's proof does not say what a tree says; it tells what that is.
func same(t *testing.T, what string, x tree.Tree, p string) api.Errno {
	t.Helper()
	v, e := x.Get(key(p))
	l, f := proof.Of(x, key(p))
	if f != api.OK {
		if e != api.ErrStub {
			t.Errorf("%s: Of %x: %d", what, p, int(f))
		}
		return e
	}
	holds(t, what, root.Of(x), p, l, said{v, e == api.OK, len(l), true})
	return e
}

func TestRight(t *testing.T) {
	var times [19]int
	for seed := range 300 {
		c := chance(seed)
		l := c.pairs(c.below(60))
		s := built(l, 0)
		x := tree.Of(l...)
		if seed%3 == 1 {
			s = c.less(s)
			x = grown(t, s)
		}
		if seed%3 == 2 {
			s = c.odd(0, c.below(6))
			x = grown(t, s)
		}
		for _, p := range some(&c, 30, s.ends("")) {
			times[same(t, "by chance", x, p)]++
		}
		for _, y := range some(&c, 10, l) {
			times[same(t, "of a pair", x, path(y.Key))]++
		}
	}
	if times[api.OK] < 500 || times[api.ErrNone] < 500 || times[api.ErrStub] < 100 || times[api.ErrArg] < 50 {
		t.Error(times)
	}
}

// TestRightOfLong has values of all sizes.
func TestRightOfLong(t *testing.T) {
	for _, n := range []int{1, 2, 55, 56, 255, 256, 65535, 65536, 65552} {
		x := tree.Of(api.Pair{Key: key("\x01"), Value: full(0, n)}, api.Pair{Key: key("\x01\x02"), Value: full('v', n)}, api.Pair{Key: key(full(15, 64)), Value: "x"})
		for _, p := range []string{"\x01", "\x01\x02", full(15, 64), "\x02", full(15, 63)} {
			same(t, "long values", x, p)
		}
	}
}

// TestRightOfDeepest has a node at each nibble of a key, and one more.
func TestRightOfDeepest(t *testing.T) {
	for _, nibble := range []byte{0, 6, 15} {
		l := fork(nibble)
		x := tree.Of(l...)
		for _, y := range l {
			if e := same(t, "deepest", x, path(y.Key)); e != api.OK {
				t.Errorf("%d", int(e))
			}
		}
	}
}

// TestRightOfEachKey has a tree of more places than can be gone through, as few bodies tell it.
func TestRightOfEachKey(t *testing.T) {
	s := leaf("", full('v', 40))
	encs := []string{s.enc()}
	for range 64 {
		s = branch(slices.Repeat([]*shape{s}, 16)...)
		encs = append(encs, s.enc())
	}
	slices.Reverse(encs)
	x, e := root.Load(rootOf(s), encs...)
	if e != api.OK {
		t.Fatal(int(e))
	}
	for _, p := range []string{"", full(15, 64), full(7, 64), "\x01\x02\x03"} {
		same(t, "each key", x, p)
		tells(t, "each key", rootOf(s), p, full('v', 40), encs...)
		rejects(t, "one less", rootOf(s), p, 64, encs[:64]...)
	}
}

// P14.4

// TestNothingElse has proofs of other keys, of other trees, and such as chance turns about: what is not rejected says what the tree says.
func TestNothingElse(t *testing.T) {
	there, not, none := 0, 0, 0
	for seed := range 200 {
		c := chance(seed)
		l := c.pairs(1 + c.below(40))
		other := slices.Clone(l)
		for range 1 + c.below(3) {
			other[c.below(len(l))].Value = full('o', 1+c.below(40))
		}
		x, y := tree.Of(l...), tree.Of(other...)
		var paths []string
		for _, z := range some(&c, 5, l) {
			paths = append(paths, path(z.Key))
		}
		paths = append(paths, some(&c, 8, built(l, 0).ends(""))...)
		encs := append(root.Nodes(x), root.Nodes(y)...)
		var proofs []api.Proof
		for _, p := range paths {
			a, _ := proof.Of(x, key(p))
			b, _ := proof.Of(y, key(p))
			proofs = append(proofs, a, b, c.turned(a, encs), c.turned(c.turned(a, encs), encs), append(slices.Clone(a[:c.below(len(a)+1)]), b[c.below(len(b)+1):]...))
		}
		for _, p := range paths {
			v, e := x.Get(key(p))
			for _, q := range proofs {
				got, has, f := verify.Key(root.Of(x), key(p), q)
				switch {
				case f != api.OK:
					none++
					continue
				case has:
					there++
				default:
					not++
				}
				if got != v || has != (e == api.OK) {
					t.Errorf("seed %d: %x: %q, %v instead of %q, %d", seed, p, got, has, v, int(e))
				}
			}
		}
	}
	if there < 1000 || not < 1000 || none < 10000 {
		t.Errorf("%d there, %d not, %d rejected", there, not, none)
	}
}

// What is handed in is nobody else's, and what is told is the same whenever it is asked for.

func TestHandedIn(t *testing.T) {
	_, s := hand()
	b := s.kids[0]
	l := api.Proof{s.enc(), b.enc(), b.kids[0].enc(), "spare", "room"}
	was := slices.Clone(l)
	tells(t, "with spare room", rootOf(s), "\x01\x00", "a", l[:3]...)
	rejects(t, "with spare room", rootOf(s), "\x01\x00", 2, l[:2]...)
	if !slices.Equal(l, was) {
		t.Errorf("%q", l)
	}
	v, e := verify.Has(rootOf(s), key("\x01\x00"), l[:3])
	clear(l)
	if v != "a" || e != api.OK {
		t.Errorf("%q, %d", v, int(e))
	}
}

// TestAsBefore asks for the same again, and more than one at once.
func TestAsBefore(t *testing.T) {
	c := chance(7)
	s := built(c.pairs(60), 0)
	var group sync.WaitGroup
	for seed := range 4 {
		group.Go(func() { asks(t, "at once", s, seed, new([3]int)) })
	}
	group.Wait()
	asks(t, "again", s, 0, new([3]int))
}
