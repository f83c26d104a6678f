package tree_test

import (
	"crypto/sha256"
	"reflect"
	"slices"
	"strings"
	"sync"
	"testing"

	"dormouse/api"
	"dormouse/node"
	"dormouse/refs"
	"dormouse/tree"
)

const most = 65552 // bytes of a value

// text, list and prefix are bytes as chapters 2 and 5 say, without packages nib and rlp.
func text(s string) string {
	if len(s) == 1 && s[0] < 128 {
		return s
	}
	return ahead(len(s), 128) + s
}

func list(l ...string) string {
	s := strings.Join(l, "")
	return ahead(len(s), 192) + s
}

func ahead(n, from int) string {
	switch {
	case n < 56:
		return string([]byte{byte(from + n)})
	case n < 256:
		return string([]byte{byte(from + 56), byte(n)})
	case n < 65536:
		return string([]byte{byte(from + 57), byte(n >> 8), byte(n)})
	}
	return string([]byte{byte(from + 58), byte(n >> 16), byte(n >> 8), byte(n)})
}

func prefix(p string, leaf bool) string {
	mark := byte(0)
	if leaf {
		mark = 2
	}
	all := string([]byte{mark, 0})
	if len(p)%2 == 1 {
		all = string([]byte{mark + 1})
	}
	all += p
	var b []byte
	for i := 0; i < len(all); i += 2 {
		b = append(b, all[i]<<4|all[i+1])
	}
	return string(b)
}

// A part stands for a value, or for a dropped part, at the end of its path.
type part struct {
	path    string // nibbles
	value   string
	dropped string // a dropped part's reference
}

// A shape is what chapter 8 says is built: of parts by the words of the chapter, without package tree.
type shape struct {
	kind  int // 0 of nothing, 4 of a dropped part
	path  string
	value string
	ref   string
	kids  [16]*shape // of an extension the first one
}

// built is built of parts, of whose paths so many nibbles are gone.
func built(l []part, gone int) *shape {
	switch {
	case len(l) == 0:
		return &shape{}
	case len(l) == 1 && l[0].dropped == "":
		return sealed(&shape{kind: api.NLeaf, path: l[0].path[gone:], value: l[0].value})
	case len(l) == 1 && l[0].path[gone:] == "":
		return &shape{kind: 4, ref: l[0].dropped}
	}
	n := gone
	for !forks(l, n) {
		n++
	}
	if n > gone {
		return sealed(&shape{kind: api.NExt, path: l[0].path[gone:n], kids: [16]*shape{built(l, n)}})
	}
	s := &shape{kind: api.NBranch}
	for i := range s.kids {
		var in []part
		for _, x := range l {
			if x.path[gone] == byte(i) {
				in = append(in, x)
			}
		}
		if len(in) > 0 {
			s.kids[i] = built(in, gone+1)
		}
	}
	return sealed(s)
}

// forks tells whether paths have other nibbles than one another at a place, or end there.
func forks(l []part, n int) bool {
	return slices.ContainsFunc(l, func(x part) bool { return len(x.path) == n || x.path[n] != l[0].path[n] })
}

// enc tells a shape's bytes.
func (s *shape) enc() string {
	switch s.kind {
	case api.NLeaf:
		return list(text(prefix(s.path, true)), text(s.value))
	case api.NExt:
		return list(text(prefix(s.path, false)), stands(s.kids[0]))
	case api.NBranch:
		var l []string
		for _, kid := range s.kids {
			l = append(l, stands(kid))
		}
		return list(append(l, text(""))...)
	}
	return ""
}

// sealed tells a shape with its reference.
func sealed(s *shape) *shape {
	s.ref = s.enc()
	if len(s.ref) >= 32 {
		x := sha256.Sum256([]byte(s.ref))
		s.ref = string(x[:])
	}
	return s
}

// stands tells as which bytes a reference to a shape stands in another's.
func stands(s *shape) string {
	if s == nil {
		return text("")
	}
	if len(s.ref) == 32 {
		return text(s.ref)
	}
	return s.ref
}

// within tells the shapes within a shape.
func (s *shape) within() []*shape {
	return slices.DeleteFunc(s.kids[:], func(x *shape) bool { return x == nil })
}

// node tells a shape's node.
func (s *shape) node() api.Node {
	if s.kind == 4 {
		return api.Node{}
	}
	n := api.Node{Kind: s.kind, Value: s.value}
	if s.path != "" {
		n.Path = []byte(s.path)
	}
	for i, kid := range s.kids {
		if kid != nil {
			n.Kids[i] = kid.ref
		}
	}
	return n
}

// wrong tells how a tree differs from a shape; empty: it does not.
func wrong(t tree.Tree, s *shape) string {
	if t.Empty() != (s.kind == 0) {
		return "Empty"
	}
	if t.Enc() != s.enc() {
		return "Enc"
	}
	if t.Ref() != s.ref {
		return "Ref"
	}
	n, l := t.Open()
	if !node.Same(n, s.node()) {
		return "Open: the node"
	}
	s = &shape{kids: s.kids}
	in := s.within()
	if len(l) != len(in) {
		return "Open: how many trees"
	}
	for i := range l {
		if w := wrong(l[i], in[i]); w != "" {
			return w + ", within"
		}
	}
	return ""
}

// path tells a key's path, without package nib.
func path(k api.Key) string {
	var b []byte
	for _, x := range k {
		b = append(b, x>>4, x&15)
	}
	return string(b)
}

// keyOf tells the key of a path.
func keyOf(p string) api.Key {
	var k api.Key
	for i := range k {
		k[i] = p[2*i]<<4 | p[2*i+1]
	}
	return k
}

// key tells a key whose nibbles are 0 but for some: each place is followed by its nibble.
func key(l ...int) api.Key {
	p := make([]byte, 64)
	for i := 0; i < len(l); i += 2 {
		p[l[i]] = byte(l[i+1])
	}
	return keyOf(string(p))
}

// of tells the shape of keys and values.
func of(l ...api.Pair) *shape { return built(parts(l...), 0) }

func parts(l ...api.Pair) []part {
	var out []part
	for _, x := range l {
		i := slices.IndexFunc(out, func(y part) bool { return y.path == path(x.Key) })
		if i >= 0 {
			out[i].value = x.Value
			continue
		}
		out = append(out, part{path: path(x.Key), value: x.Value})
	}
	return out
}

func pair(k api.Key, v string) api.Pair { return api.Pair{Key: k, Value: v} }

// put is Put that must be OK.
func put(t *testing.T, x tree.Tree, k api.Key, v string) tree.Tree {
	t.Helper()
	y, e := x.Put(k, v)
	if e != api.OK {
		t.Fatalf("Put(%x): %d", k, int(e))
	}
	return y
}

// made is Make that must be OK.
func made(t *testing.T, n api.Node, kids ...tree.Tree) tree.Tree {
	t.Helper()
	x, e := tree.Make(n, kids...)
	if e != api.OK {
		t.Fatalf("Make(%d, %d trees): %d", n.Kind, len(kids), int(e))
	}
	return x
}

// ext, branch (of nibbles from 0 on) and leaf make trees of trees.
func ext(t *testing.T, p string, kid tree.Tree) tree.Tree {
	t.Helper()
	return made(t, node.Ext([]byte(p), kid.Ref()), kid)
}

func branch(t *testing.T, kids ...tree.Tree) tree.Tree {
	t.Helper()
	var l [16]string
	var in []tree.Tree
	for i, kid := range kids {
		l[i] = kid.Ref()
		if l[i] != "" {
			in = append(in, kid)
		}
	}
	return made(t, node.Branch(l), in...)
}

func leaf(t *testing.T, p, v string) tree.Tree {
	t.Helper()
	return made(t, node.Leaf([]byte(p), v))
}

// chance tells numbers that look like chance, the same ones of the same seed.
type chance uint64

func (c *chance) below(n int) int {
	*c = *c*6364136223846793005 + 1442695040888963407
	return int(uint64(*c)>>33) % n
}

// keys tells some keys that have long beginnings in common, and fork at all places.
func (c *chance) keys(n int) []api.Key {
	var l []api.Key
	for len(l) < n {
		p := make([]byte, 64)
		if len(l) > 0 && c.below(4) > 0 {
			copy(p, path(l[c.below(len(l))]))
		}
		for range 1 + c.below(3) {
			places := []int{0, 1, 2, 30, 31, 61, 62, 63, c.below(64)}
			p[places[c.below(len(places))]] = byte(c.below(3) * 7)
		}
		if c.below(8) == 0 {
			for i := range p {
				p[i] = byte(c.below(16))
			}
		}
		l = append(l, keyOf(string(p)))
	}
	return l
}

// value tells a value: mostly a short one, so that nodes stand by their own bytes.
func (c *chance) value() string {
	switch c.below(4) {
	case 0:
		return strings.Repeat(string([]byte{byte(c.below(256))}), 1+c.below(60))
	case 1:
		return string([]byte{byte(c.below(256))})
	}
	return string([]byte{byte(97 + c.below(4))})
}

// P8.1: Empty, Get, Of.

func TestNothing(t *testing.T) {
	for _, x := range []tree.Tree{{}, tree.Of(), tree.Drop("")} {
		if w := wrong(x, of()); w != "" {
			t.Error(w)
		}
		if n, l := x.Open(); !reflect.DeepEqual(n, api.Node{}) || len(l) != 0 {
			t.Errorf("Open: %v, %d", n, len(l))
		}
		if v, e := x.Get(key()); v != "" || e != api.ErrNone {
			t.Errorf("Get: %q, %d", v, int(e))
		}
		if y, e := x.Del(key()); y != (tree.Tree{}) || e != api.ErrNone {
			t.Errorf("Del: %d", int(e))
		}
	}
	if tree.Of(pair(key(), "a")).Empty() || tree.Drop(strings.Repeat("a", 32)).Empty() {
		t.Error("Empty of what is not")
	}
}

func TestOneLeaf(t *testing.T) {
	x := tree.Of(pair(key(0, 15, 63, 7), "a"))
	n, l := x.Open()
	if n.Kind != api.NLeaf || string(n.Path) != path(key(0, 15, 63, 7)) || n.Value != "a" || len(l) != 0 {
		t.Errorf("%v, %d", n, len(l))
	}
	if want := list(text(" \xf0"+strings.Repeat("\x00", 30)+"\x07"), "a"); x.Enc() != want {
		t.Errorf("%x instead of %x", x.Enc(), want)
	}
}

func TestGetAtEachFork(t *testing.T) {
	for i := range 64 {
		a, b, c := key(), key(i, 3), key(i, 15)
		x := tree.Of(pair(a, "a"), pair(b, "b"))
		for _, y := range []api.Pair{pair(a, "a"), pair(b, "b")} {
			if v, e := x.Get(y.Key); v != y.Value || e != api.OK {
				t.Errorf("%d: %q, %d", i, v, int(e))
			}
		}
		if v, e := x.Get(c); v != "" || e != api.ErrNone {
			t.Errorf("%d: %q, %d of one that is not there", i, v, int(e))
		}
		for j := range 64 {
			if v, e := x.Get(key(i, 3, j, 9)); v != "" || e != api.ErrNone {
				t.Errorf("%d, %d: %q, %d", i, j, v, int(e))
			}
		}
		if w := wrong(x, of(pair(a, "a"), pair(b, "b"))); w != "" {
			t.Errorf("%d: %s", i, w)
		}
	}
}

func TestOfLeavesOut(t *testing.T) {
	a, b, c := key(0, 1), key(0, 2), key(0, 3)
	x := tree.Of(pair(a, "a"), pair(b, ""), pair(a, strings.Repeat("x", most+1)), pair(c, "c"), pair(c, ""))
	if w := wrong(x, of(pair(a, "a"), pair(c, "c"))); w != "" {
		t.Error(w)
	}
	if !tree.Of(pair(a, "")).Empty() {
		t.Error("an empty value")
	}
}

func TestOfTakesTheLast(t *testing.T) {
	a, b := key(0, 1), key(0, 2)
	x := tree.Of(pair(a, "old"), pair(b, "b"), pair(a, "new"))
	if v, e := x.Get(a); v != "new" || e != api.OK {
		t.Errorf("%q, %d", v, int(e))
	}
}

// A way that Make made longer than keys' paths.

func TestWayTooLong(t *testing.T) {
	var sums []tree.Tree
	for _, s := range []string{"a", "b"} {
		sums = append(sums, leaf(t, "", strings.Repeat(s, 40)))
	}
	end := branch(t, sums...)
	zeros := func(n int) string { return strings.Repeat("\x00", n) }
	steep := end // 65 branches within one another
	for range 64 {
		steep = branch(t, steep, sums[1])
	}
	long := branch(t, leaf(t, zeros(40), "x"), leaf(t, zeros(63), "y"))
	for name, x := range map[string]tree.Tree{
		"a branch behind an extension": ext(t, zeros(64), end),
		"branches":                     steep,
		"an extension goes on":         branch(t, ext(t, zeros(64), end), leaf(t, zeros(63), "b")),
		"a leaf goes on":               branch(t, leaf(t, zeros(64), "a"), leaf(t, zeros(63), "b")),
		"a leaf goes on far within":    ext(t, zeros(62), branch(t, leaf(t, zeros(2), "a"), leaf(t, zeros(1), "b"))),
		"a longer one":                 ext(t, zeros(40), long),
		"an extension, far within":     ext(t, zeros(62), branch(t, ext(t, zeros(2), end), sums[0])),
	} {
		enc := x.Enc()
		if v, e := x.Get(key()); v != "" || e != api.ErrArg {
			t.Errorf("%s: Get: %q, %d", name, v, int(e))
		}
		if y, e := x.Put(key(), "v"); !y.Empty() || e != api.ErrArg {
			t.Errorf("%s: Put: %d", name, int(e))
		}
		if y, e := x.Del(key()); !y.Empty() || e != api.ErrArg {
			t.Errorf("%s: Del: %d", name, int(e))
		}
		if x.Enc() != enc {
			t.Errorf("%s: another tree", name)
		}
	}
}

func TestWayTooLongBeside(t *testing.T) {
	zeros := func(n int) string { return strings.Repeat("\x00", n) }
	long := leaf(t, zeros(64), "a") // beginning at nibble 1: one longer than a key's path
	x := branch(t, long, leaf(t, zeros(63), "b"))
	if v, e := x.Get(key(0, 1)); v != "b" || e != api.OK {
		t.Errorf("Get: %q, %d", v, int(e))
	}
	if v, e := x.Get(key(63, 1)); v != "" || e != api.ErrNone {
		t.Errorf("Get of one that leaves it: %q, %d", v, int(e))
	}
	if _, e := x.Del(key(63, 1)); e != api.ErrNone {
		t.Errorf("Del of one that leaves it: %d", int(e))
	}
	y := put(t, x, key(63, 1), "c")
	want := branch(t, ext(t, zeros(62), branch(t, leaf(t, zeros(1), "a"), leaf(t, "", "c"))), leaf(t, zeros(63), "b"))
	if y.Enc() != want.Enc() {
		t.Error("Put of one that leaves it")
	}
	if v, e := y.Get(key(63, 1)); v != "c" || e != api.OK {
		t.Errorf("Get of it: %q, %d", v, int(e))
	}
	// What would be left is a leaf of 65 nibbles, that no node is.
	if z, e := x.Del(key(0, 1)); !z.Empty() || e != api.ErrArg {
		t.Errorf("Del of the other one: %d", int(e))
	}
	end := branch(t, leaf(t, "", "c"), leaf(t, "", "d"))
	z := branch(t, ext(t, zeros(64), end), leaf(t, zeros(63), "b"))
	if y, e := z.Del(key(0, 1)); !y.Empty() || e != api.ErrArg {
		t.Errorf("Del ahead of an extension: %d", int(e))
	}
	z = branch(t, ext(t, zeros(63), end), leaf(t, zeros(63), "b"))
	if y, e := z.Del(key(0, 1)); e != api.OK || y.Enc() != ext(t, zeros(64), end).Enc() {
		t.Errorf("Del ahead of an extension of 64 nibbles at most: %d", int(e))
	}
}

func TestWayTooShort(t *testing.T) {
	x := branch(t, leaf(t, "\x01\x02", "a"), leaf(t, "\x01", "b"), leaf(t, "", "c"))
	for _, k := range []api.Key{key(1, 1, 2, 2), key(0, 1, 1, 1), key(0, 2)} {
		if v, e := x.Get(k); v != "" || e != api.ErrNone {
			t.Errorf("Get(%x): %q, %d", k, v, int(e))
		}
		if _, e := x.Del(k); e != api.ErrNone {
			t.Errorf("Del(%x): %d", k, int(e))
		}
		if y, e := x.Put(k, "v"); !y.Empty() || e != api.ErrArg {
			t.Errorf("Put(%x): %d", k, int(e))
		}
	}
	y := put(t, x, key(1, 1), "v")
	want := branch(t, ext(t, "\x01", branch(t, leaf(t, strings.Repeat("\x00", 61), "v"), tree.Tree{}, leaf(t, "", "a"))), leaf(t, "\x01", "b"), leaf(t, "", "c"))
	if y.Enc() != want.Enc() {
		t.Error("Put beside it")
	}
}

func TestLeafOfEachLength(t *testing.T) {
	for n := range 65 {
		x := branch(t, leaf(t, strings.Repeat("\x00", n), "a"), leaf(t, "", "b"))
		get, put, del := api.ErrNone, api.ErrArg, api.ErrNone
		if n == 63 {
			get, put, del = api.OK, api.OK, api.OK
		} else if n > 63 {
			get, del = api.ErrArg, api.ErrArg
		}
		if _, e := x.Get(key()); e != get {
			t.Errorf("%d: Get: %d", n, int(e))
		}
		if _, e := x.Put(key(), "v"); e != put {
			t.Errorf("%d: Put: %d", n, int(e))
		}
		if _, e := x.Del(key()); e != del {
			t.Errorf("%d: Del: %d", n, int(e))
		}
	}
}

// P8.2: Put, Del.

func TestPutValues(t *testing.T) {
	x := tree.Of(pair(key(), "a"))
	for _, n := range []int{1, 2, 31, 32, 33, 55, 56, 65535, 65536, most} {
		v := strings.Repeat("\xff", n)
		for _, k := range []api.Key{key(), key(5, 5)} {
			y := put(t, x, k, v)
			if got, e := y.Get(k); got != v || e != api.OK {
				t.Errorf("%d: %d bytes, %d", n, len(got), int(e))
			}
			if w := wrong(y, of(pair(key(), "a"), pair(k, v))); w != "" {
				t.Errorf("%d: %s", n, w)
			}
		}
	}
	for _, v := range []string{"", strings.Repeat("a", most+1), strings.Repeat("a", 2*most)} {
		for _, y := range []tree.Tree{{}, x, tree.Drop(strings.Repeat("s", 32)), ext(t, strings.Repeat("\x00", 64), tree.Drop(strings.Repeat("s", 32)))} {
			if z, e := y.Put(key(), v); !z.Empty() || e != api.ErrArg {
				t.Errorf("%d bytes: %d", len(v), int(e))
			}
		}
	}
}

func TestDelMerges(t *testing.T) {
	// Of each two places where ways fork: what is left is a leaf, an extension and a branch, or both branches in one.
	for i := range 64 {
		for j := range 64 {
			l := []api.Pair{pair(key(), "a"), pair(key(i, 1), "b"), pair(key(j, 2), "c"), pair(key(i, 1, j, 2), "d")}
			x := tree.Of(l...)
			for k := range l {
				left := slices.DeleteFunc(slices.Clone(l), func(y api.Pair) bool { return y.Key == l[k].Key })
				y, e := x.Del(l[k].Key)
				if w := wrong(y, of(left...)); w != "" || e != api.OK {
					t.Fatalf("%d, %d, without %d: %d, %s", i, j, k, int(e), w)
				}
			}
			if w := wrong(x, of(l...)); w != "" {
				t.Fatalf("%d, %d: the tree itself: %s", i, j, w)
			}
		}
	}
}

func TestDelNone(t *testing.T) {
	x := tree.Of(pair(key(), "a"), pair(key(10, 1), "b"), pair(key(10, 1, 20, 1), "c"))
	for i := range 64 {
		if y, e := x.Del(key(i, 7)); !y.Empty() || e != api.ErrNone {
			t.Errorf("%d: %d", i, int(e))
		}
	}
	y, _ := x.Del(key())
	if z, e := y.Del(key()); !z.Empty() || e != api.ErrNone {
		t.Errorf("a second time: %d", int(e))
	}
	if z, e := tree.Of(pair(key(), "a")).Del(key()); z != (tree.Tree{}) || e != api.OK {
		t.Errorf("of one: %d", int(e))
	}
}

// P8.2: dropped parts.

func TestDroppedAlone(t *testing.T) {
	for _, x := range []tree.Tree{tree.Drop(strings.Repeat("s", 32)), tree.Drop(tree.Of(pair(key(), "a")).Ref()), tree.Drop(leaf(t, "\x01", "a").Enc())} {
		if v, e := x.Get(key()); v != "" || e != api.ErrStub {
			t.Errorf("Get: %q, %d", v, int(e))
		}
		if y, e := x.Put(key(), "a"); !y.Empty() || e != api.ErrStub {
			t.Errorf("Put: %d", int(e))
		}
		if y, e := x.Del(key()); !y.Empty() || e != api.ErrStub {
			t.Errorf("Del: %d", int(e))
		}
		if x.Empty() || x.Enc() != "" {
			t.Errorf("Empty, or Enc %x", x.Enc())
		}
		if n, l := x.Open(); !reflect.DeepEqual(n, api.Node{}) || len(l) != 0 {
			t.Errorf("Open: %v, %d", n, len(l))
		}
	}
}

func TestDroppedAtTheEnd(t *testing.T) {
	// A dropped part where a key's path is gone may be that key's leaf.
	x := ext(t, strings.Repeat("\x00", 63), branch(t, tree.Drop(strings.Repeat("s", 32)), leaf(t, "", "b")))
	if v, e := x.Get(key()); v != "" || e != api.ErrStub {
		t.Errorf("Get: %q, %d", v, int(e))
	}
	if _, e := x.Put(key(), "a"); e != api.ErrStub {
		t.Errorf("Put: %d", int(e))
	}
	if _, e := x.Del(key()); e != api.ErrStub {
		t.Errorf("Del: %d", int(e))
	}
	if _, e := x.Del(key(63, 1)); e != api.ErrStub {
		t.Errorf("Del of the other one: %d", int(e))
	}
	if _, e := x.Del(key(63, 2)); e != api.ErrNone {
		t.Errorf("Del of none: %d", int(e))
	}
}

func TestDroppedStays(t *testing.T) {
	stub := tree.Drop(strings.Repeat("s", 32))
	a := leaf(t, strings.Repeat("\x00", 63), "a")
	x := branch(t, a, stub)
	if _, e := x.Del(key()); e != api.ErrStub {
		t.Errorf("a branch would have it alone: %d", int(e))
	}
	if _, e := x.Del(key(5, 5)); e != api.ErrNone {
		t.Errorf("another key: %d", int(e))
	}
	y := put(t, x, key(0, 2), "c")
	if y.Enc() != branch(t, a, stub, leaf(t, strings.Repeat("\x00", 63), "c")).Enc() {
		t.Error("Put beside it")
	}
	z, e := y.Del(key())
	if e != api.OK || z.Enc() != branch(t, tree.Tree{}, stub, leaf(t, strings.Repeat("\x00", 63), "c")).Enc() {
		t.Errorf("Del beside it: %d", int(e))
	}
	if v, e := z.Get(key(0, 1)); v != "" || e != api.ErrStub {
		t.Errorf("Get: %q, %d", v, int(e))
	}
	// Behind an extension it is a branch, so it may stand alone.
	u := branch(t, a, ext(t, "\x03\x04", stub))
	left, e := u.Del(key())
	if e != api.OK || left.Enc() != ext(t, "\x01\x03\x04", stub).Enc() {
		t.Errorf("behind an extension: %d", int(e))
	}
	for i := range 3 {
		k := key(0, 1, 1, 3, 2, 4, i, 9)
		v := put(t, left, k, "v")
		if w, e := v.Get(k); w != "v" || e != api.OK {
			t.Errorf("%d: Get: %q, %d", i, w, int(e))
		}
		back, e := v.Del(k)
		if i < 2 && (e != api.OK || back.Enc() != left.Enc()) || i == 2 && e != api.ErrStub {
			t.Errorf("%d: Del: %d", i, int(e))
		}
	}
}

// bare tells a tree, of which parts are dropped as chance says, and the parts that it is built of.
func bare(t *testing.T, c *chance, x tree.Tree, at string, top bool) (tree.Tree, []part) {
	t.Helper()
	if x.Enc() == "" || !top && c.below(5) == 0 {
		return tree.Drop(x.Ref()), []part{{path: at, dropped: x.Ref()}}
	}
	n, l := x.Open()
	at += string(n.Path)
	if n.Kind == api.NLeaf {
		return made(t, n), []part{{path: at, value: n.Value}}
	}
	var in []tree.Tree
	var all []part
	for i, ref := range n.Kids {
		if ref == "" {
			continue
		}
		to := at
		if n.Kind == api.NBranch {
			to += string([]byte{byte(i)})
		}
		y, ps := bare(t, c, l[len(in)], to, false)
		in, all = append(in, y), append(all, ps...)
	}
	return made(t, n, in...), all
}

// meets tells what a key meets in parts: its own one, or a dropped part, or none.
func meets(l []part, k api.Key) int {
	return slices.IndexFunc(l, func(x part) bool { return strings.HasPrefix(path(k), x.path) })
}

// alone tells whether a branch would have a dropped part alone without a key's part.
func alone(l []part, own int) bool {
	n, near := -1, []part(nil)
	for i, x := range l {
		m := 0
		for m < len(x.path) && x.path[m] == l[own].path[m] {
			m++
		}
		if i == own || m < n {
			continue
		}
		if m > n {
			n, near = m, nil
		}
		near = append(near, x)
	}
	return len(near) == 1 && near[0].dropped != "" && len(near[0].path) == n+1
}

// step does one call of chance's on a tree that is built of parts, and tells what it is then.
func step(t *testing.T, c *chance, x tree.Tree, l []part, k api.Key) (tree.Tree, []part) {
	t.Helper()
	at := meets(l, k)
	stub := at >= 0 && l[at].dropped != ""
	switch c.below(3) {
	case 0:
		want, v := api.OK, c.value()
		if stub {
			want = api.ErrStub
		}
		y, e := x.Put(k, v)
		if e != want || (e != api.OK && !y.Empty()) {
			t.Fatalf("Put(%x): %d instead of %d", k, int(e), int(want))
		}
		if e != api.OK {
			return x, l
		}
		if l = slices.Clone(l); at >= 0 {
			l[at].value = v
			return y, l
		}
		return y, append(l, part{path: path(k), value: v})
	case 1:
		want := api.OK
		switch {
		case at < 0:
			want = api.ErrNone
		case stub || alone(l, at):
			want = api.ErrStub
		}
		y, e := x.Del(k)
		if e != want || (e != api.OK && !y.Empty()) {
			t.Fatalf("Del(%x): %d instead of %d", k, int(e), int(want))
		}
		if e != api.OK {
			return x, l
		}
		return y, slices.Delete(slices.Clone(l), at, at+1)
	}
	want, value := api.ErrNone, ""
	if at >= 0 {
		want, value = api.OK, l[at].value
	}
	if stub {
		want = api.ErrStub
	}
	if v, e := x.Get(k); v != value || e != want {
		t.Fatalf("Get(%x): %q, %d instead of %q, %d", k, v, int(e), value, int(want))
	}
	return x, l
}

func TestStepsByChance(t *testing.T) {
	for seed := range 300 {
		c := chance(seed)
		keys := c.keys(2 + c.below(24))
		var x tree.Tree
		var l []part
		type was struct {
			x tree.Tree
			s *shape
		}
		var olds []was
		for i := range 120 {
			if i%30 == 29 && !x.Empty() {
				enc := x.Enc()
				if x, l = bare(t, &c, x, "", true); enc != x.Enc() {
					t.Fatalf("seed %d: what is dropped changed the bytes", seed)
				}
			}
			x, l = step(t, &c, x, l, keys[c.below(len(keys))])
			if i%4 == 0 {
				olds = append(olds, was{x, built(l, 0)})
			}
			if i%5 == 0 || i > 100 {
				if w := wrong(x, built(l, 0)); w != "" {
					t.Fatalf("seed %d, step %d: %s", seed, i, w)
				}
			}
		}
		for i, old := range olds {
			if w := wrong(old.x, old.s); w != "" {
				t.Fatalf("seed %d: a tree of old, %d: %s", seed, i, w)
			}
		}
	}
}

// A tree of which parts are dropped goes on as the whole one does.
func TestDroppedAsWhole(t *testing.T) {
	for seed := range 200 {
		c := chance(seed + 1000)
		keys := c.keys(12)
		var whole tree.Tree
		for _, k := range keys[:8] {
			whole = put(t, whole, k, c.value())
		}
		x, _ := bare(t, &c, whole, "", true)
		for _, k := range keys {
			v := c.value()
			if y, e := x.Put(k, v); e == api.OK && y.Enc() != put(t, whole, k, v).Enc() {
				t.Fatalf("seed %d: Put(%x)", seed, k)
			}
			y, e := x.Del(k)
			z, f := whole.Del(k)
			if e != f && e != api.ErrStub || e == api.OK && y.Enc() != z.Enc() {
				t.Fatalf("seed %d: Del(%x): %d, %d", seed, k, int(e), int(f))
			}
			v, e = x.Get(k)
			w, f := whole.Get(k)
			if (v != w || e != f) && (v != "" || e != api.ErrStub) {
				t.Fatalf("seed %d: Get(%x): %d, %d", seed, k, int(e), int(f))
			}
		}
	}
}

// P8.3: Enc, Ref, Open.

func TestEncByHand(t *testing.T) {
	// A branch at the last nibble, behind an extension of 63: both leaves stand by their own bytes.
	x := tree.Of(pair(key(63, 1), "a"), pair(key(63, 15), "\x80"))
	leafA, leafB := "\xc2\x20a", "\xc3\x20\x81\x80"
	in := list("\x80", leafA, strings.Repeat("\x80", 13), leafB, "\x80")
	if len(in) >= 32 {
		t.Fatal("the branch is too long to stand by its own bytes")
	}
	want := list(text("\x10"+strings.Repeat("\x00", 31)), in)
	if x.Enc() != want {
		t.Errorf("%x instead of %x", x.Enc(), want)
	}
	sum := sha256.Sum256([]byte(want))
	if x.Ref() != string(sum[:]) {
		t.Errorf("Ref: %x", x.Ref())
	}
	n, l := x.Open()
	if n.Kind != api.NExt || len(n.Path) != 63 || n.Kids[0] != in || len(l) != 1 || l[0].Enc() != in || l[0].Ref() != in {
		t.Errorf("Open: %v, %d", n, len(l))
	}
	n, l = l[0].Open()
	if n.Kind != api.NBranch || n.Kids[1] != leafA || n.Kids[15] != leafB || len(l) != 2 || l[0].Enc() != leafA || l[1].Enc() != leafB {
		t.Errorf("Open: %v, %d", n, len(l))
	}
}

func TestRefLengths(t *testing.T) {
	// Of a leaf of an empty path: bytes of 31, which are the reference, and of 32, whose sum is.
	for n := 1; n < 60; n++ {
		x := leaf(t, "", strings.Repeat("\xff", n))
		enc := list(" ", text(strings.Repeat("\xff", n)))
		want := enc
		if len(enc) >= 32 {
			sum := sha256.Sum256([]byte(enc))
			want = string(sum[:])
		}
		if x.Enc() != enc || x.Ref() != want || x.Ref() != refs.Of(x.Enc()) {
			t.Errorf("%d: %x, %x", n, x.Enc(), x.Ref())
		}
	}
}

func TestOpenOfAllNibbles(t *testing.T) {
	for mask := 3; mask < 1<<16; mask = mask*2 + mask%3 {
		var l []api.Pair
		for i := range 16 {
			if mask>>i&1 == 1 {
				l = append(l, pair(key(0, i), string([]byte{byte(65 + i)})))
			}
		}
		x := tree.Of(l...)
		if w := wrong(x, of(l...)); w != "" {
			t.Fatalf("%b: %s", mask, w)
		}
		n, in := x.Open()
		if len(l) > 1 && (n.Kind != api.NBranch || len(in) != len(l)) {
			t.Fatalf("%b: %d, %d", mask, n.Kind, len(in))
		}
		for i := range in {
			if m, _ := in[i].Open(); m.Value != l[i].Value {
				t.Fatalf("%b: %d: %q", mask, i, m.Value)
			}
		}
	}
}

// P8.4: Drop, Make.

func TestDrop(t *testing.T) {
	own := leaf(t, "\x01", "a").Enc()
	for _, ref := range []string{strings.Repeat("s", 32), strings.Repeat("\x00", 32), own, branch(t, leaf(t, "", "a"), leaf(t, "", "b")).Enc()} {
		x := tree.Drop(ref)
		if x.Empty() || x.Ref() != ref || x.Enc() != "" {
			t.Errorf("%x: %x, %x", ref, x.Ref(), x.Enc())
		}
	}
	for _, ref := range []string{"", "a", own + "a", own[:2], strings.Repeat("s", 31), strings.Repeat("s", 33), strings.Repeat("s", 64), leaf(t, "", strings.Repeat("a", 40)).Enc()} {
		if x := tree.Drop(ref); x != (tree.Tree{}) || x.Ref() != "" {
			t.Errorf("%x: %x", ref, x.Ref())
		}
	}
}

func TestMakeBack(t *testing.T) {
	c := chance(7)
	var x tree.Tree
	for _, k := range c.keys(40) {
		x = put(t, x, k, c.value())
	}
	var again func(x tree.Tree) tree.Tree
	again = func(x tree.Tree) tree.Tree {
		n, l := x.Open()
		for i := range l {
			l[i] = again(l[i])
		}
		return made(t, n, l...)
	}
	y := again(x)
	if y.Enc() != x.Enc() {
		t.Error("another Enc")
	}
	for _, k := range append(c.keys(10), chancesKeys(7, 40)...) {
		v, e := x.Get(k)
		if w, f := y.Get(k); v != w || e != f {
			t.Errorf("Get(%x): %q, %d instead of %q, %d", k, w, int(f), v, int(e))
		}
	}
}

func chancesKeys(seed, n int) []api.Key {
	c := chance(seed)
	return c.keys(n)
}

func TestMakeArg(t *testing.T) {
	a, b := leaf(t, "", "a"), leaf(t, "", "b")
	n, l := branch(t, a, b).Open()
	stub := tree.Drop(strings.Repeat("s", 32))
	lone := n
	lone.Kids[1] = ""
	bad := n
	bad.Kids[5] = "no reference"
	var full [16]string
	full[3], full[7] = a.Ref(), b.Ref()
	for name, f := range map[string]func() (tree.Tree, api.Errno){
		"the zero node":          func() (tree.Tree, api.Errno) { return tree.Make(api.Node{}) },
		"a kind that is none":    func() (tree.Tree, api.Errno) { return tree.Make(api.Node{Kind: 4, Path: []byte{1}, Value: "a"}) },
		"a leaf without a value": func() (tree.Tree, api.Errno) { return tree.Make(node.Leaf([]byte{1}, "")) },
		"a value that is too long": func() (tree.Tree, api.Errno) {
			return tree.Make(node.Leaf([]byte{1}, strings.Repeat("a", most+1)))
		},
		"no nibble":          func() (tree.Tree, api.Errno) { return tree.Make(node.Leaf([]byte{16}, "a")) },
		"65 nibbles":         func() (tree.Tree, api.Errno) { return tree.Make(node.Leaf(make([]byte, 65), "a")) },
		"a leaf with a tree": func() (tree.Tree, api.Errno) { return tree.Make(node.Leaf([]byte{1}, "a"), a) },
		"a leaf with nothing within": func() (tree.Tree, api.Errno) {
			return tree.Make(node.Leaf([]byte{1}, "a"), tree.Tree{})
		},
		"an extension without a path": func() (tree.Tree, api.Errno) { return tree.Make(node.Ext(nil, stub.Ref()), stub) },
		"an extension without a kid":  func() (tree.Tree, api.Errno) { return tree.Make(node.Ext([]byte{1}, ""), tree.Tree{}) },
		"an extension without a tree": func() (tree.Tree, api.Errno) { return tree.Make(node.Ext([]byte{1}, stub.Ref())) },
		"an extension of two trees":   func() (tree.Tree, api.Errno) { return tree.Make(node.Ext([]byte{1}, stub.Ref()), stub, stub) },
		"an extension of a leaf's none": func() (tree.Tree, api.Errno) {
			return tree.Make(node.Ext([]byte{1}, a.Ref()), a, a)
		},
		"a branch of one":         func() (tree.Tree, api.Errno) { return tree.Make(lone, l[0]) },
		"a branch of no ref":      func() (tree.Tree, api.Errno) { return tree.Make(bad, l[0], l[1], stub) },
		"a tree too few":          func() (tree.Tree, api.Errno) { return tree.Make(n, l[0]) },
		"no tree":                 func() (tree.Tree, api.Errno) { return tree.Make(n) },
		"a tree too many":         func() (tree.Tree, api.Errno) { return tree.Make(n, l[0], l[1], l[1]) },
		"nothing where none is":   func() (tree.Tree, api.Errno) { return tree.Make(n, l[0], l[1], tree.Tree{}) },
		"trees of all 16 nibbles": func() (tree.Tree, api.Errno) { return tree.Make(node.Branch(full), make([]tree.Tree, 16)...) },
	} {
		if x, e := f(); !x.Empty() || e != api.ErrArg {
			t.Errorf("%s: %d", name, int(e))
		}
	}
}

func TestMakeForm(t *testing.T) {
	a, b := leaf(t, "", "a"), leaf(t, "", "b")
	in := branch(t, a, b)
	n, l := in.Open()
	stub := tree.Drop(strings.Repeat("s", 32))
	far := branch(t, leaf(t, "", strings.Repeat("a", 40)), leaf(t, "", strings.Repeat("b", 40)))
	extOf := func(x tree.Tree) api.Node { return node.Ext([]byte{1}, x.Ref()) }
	above := ext(t, "\x02", in)
	aboveFar := ext(t, "\x02", far)
	longLeaf := leaf(t, "\x01", strings.Repeat("a", 40))
	for name, f := range map[string]func() (tree.Tree, api.Errno){
		"turned about":                  func() (tree.Tree, api.Errno) { return tree.Make(n, l[1], l[0]) },
		"one twice":                     func() (tree.Tree, api.Errno) { return tree.Make(n, l[0], l[0]) },
		"nothing at the first place":    func() (tree.Tree, api.Errno) { return tree.Make(n, tree.Tree{}, l[1]) },
		"nothing at the last place":     func() (tree.Tree, api.Errno) { return tree.Make(n, l[0], tree.Tree{}) },
		"another dropped part":          func() (tree.Tree, api.Errno) { return tree.Make(n, l[0], stub) },
		"an extension of another tree":  func() (tree.Tree, api.Errno) { return tree.Make(extOf(far), in) },
		"an extension of another stub":  func() (tree.Tree, api.Errno) { return tree.Make(extOf(far), stub) },
		"an extension of nothing":       func() (tree.Tree, api.Errno) { return tree.Make(extOf(far), tree.Tree{}) },
		"an extension of a leaf":        func() (tree.Tree, api.Errno) { return tree.Make(extOf(a), a) },
		"an extension of a long leaf":   func() (tree.Tree, api.Errno) { return tree.Make(extOf(longLeaf), longLeaf) },
		"an extension of an extension":  func() (tree.Tree, api.Errno) { return tree.Make(extOf(above), above) },
		"an extension of a long one":    func() (tree.Tree, api.Errno) { return tree.Make(extOf(aboveFar), aboveFar) },
		"an extension of another leaf":  func() (tree.Tree, api.Errno) { return tree.Make(extOf(in), a) },
		"the sum where own bytes stand": func() (tree.Tree, api.Errno) { return tree.Make(extOf(in), tree.Drop(sumOf(in.Enc()))) },
	} {
		if x, e := f(); !x.Empty() || e != api.ErrForm {
			t.Errorf("%s: %d", name, int(e))
		}
	}
}

func sumOf(s string) string {
	x := sha256.Sum256([]byte(s))
	return string(x[:])
}

func TestMakeOfDropped(t *testing.T) {
	a, b := leaf(t, "", "a"), leaf(t, "", "b")
	in := branch(t, a, b)
	n, l := in.Open()
	x := made(t, n, tree.Drop(l[0].Ref()), l[1])
	if x.Enc() != in.Enc() || x.Ref() != in.Ref() {
		t.Error("another Enc")
	}
	// What stands by its own bytes is as the tree is: dropped.
	m, k := x.Open()
	if !node.Same(m, n) || len(k) != 2 || k[0].Enc() != "" || k[0].Ref() != l[0].Ref() || k[1].Enc() != l[1].Enc() {
		t.Error("Open")
	}
	zeros := strings.Repeat("\x00", 63)
	y := ext(t, zeros, x)
	if v, e := y.Get(key()); v != "" || e != api.ErrStub {
		t.Errorf("Get: %q, %d", v, int(e))
	}
	if v, e := y.Get(key(63, 1)); v != "b" || e != api.OK {
		t.Errorf("Get: %q, %d", v, int(e))
	}
	// Of a dropped part nobody asks whether it is a leaf.
	z := ext(t, "\x01", tree.Drop(a.Ref()))
	if z.Enc() != list("\x11", a.Enc()) {
		t.Errorf("%x", z.Enc())
	}
	both := made(t, n, tree.Drop(l[0].Ref()), tree.Drop(l[1].Ref()))
	if both.Enc() != in.Enc() {
		t.Error("both dropped")
	}
}

func TestMakeDeep(t *testing.T) {
	x := branch(t, leaf(t, "", strings.Repeat("a", 40)), leaf(t, "", "b"))
	for range 1 << 15 {
		x = branch(t, x, leaf(t, "", "b"))
	}
	if len(x.Ref()) != 32 {
		t.Errorf("%x", x.Ref())
	}
	if v, e := x.Get(key(0, 2)); v != "" || e != api.ErrNone {
		t.Errorf("Get: %q, %d", v, int(e))
	}
	if _, e := x.Get(key()); e != api.ErrArg {
		t.Errorf("Get: %d", int(e))
	}
	y := put(t, x, key(60, 5), "v")
	if v, e := y.Get(key(60, 5)); v != "v" || e != api.OK {
		t.Errorf("Get: %q, %d", v, int(e))
	}
	z, e := y.Del(key(60, 5))
	if e != api.OK || z.Enc() != x.Enc() {
		t.Errorf("Del: %d", int(e))
	}
}

// P8.5: one tree.

func TestAllOrders(t *testing.T) {
	l := []api.Pair{pair(key(), "a"), pair(key(63, 1), "b"), pair(key(3, 1), "c"), pair(key(3, 1, 40, 2), strings.Repeat("d", 33)), pair(key(0, 9), "e")}
	want := of(l...)
	var orders func(done, left []api.Pair)
	orders = func(done, left []api.Pair) {
		if len(left) == 0 {
			if w := wrong(tree.Of(done...), want); w != "" {
				t.Fatal(w)
			}
			return
		}
		for i := range left {
			orders(append(slices.Clone(done), left[i]), slices.Delete(slices.Clone(left), i, i+1))
		}
	}
	orders(nil, l)
}

func TestAllSubsets(t *testing.T) {
	// Eight keys that fork at three places: each set of them, from each set with one key more, or less.
	for _, places := range [][3]int{{0, 1, 2}, {0, 31, 63}, {61, 62, 63}, {10, 11, 40}, {5, 62, 63}} {
		var l []api.Pair
		for i := range 8 {
			k := key(places[0], i&1, places[1], i>>1&1*9, places[2], i>>2*15)
			l = append(l, pair(k, strings.Repeat(string([]byte{byte(97 + i)}), 1+i*5)))
		}
		var trees [256]tree.Tree
		var shapes [256]*shape
		for set := range trees {
			var in []api.Pair
			for i := range l {
				if set>>i&1 == 1 {
					in = append(in, l[i])
				}
			}
			trees[set], shapes[set] = tree.Of(in...), of(in...)
			if w := wrong(trees[set], shapes[set]); w != "" {
				t.Fatalf("%v, %b: %s", places, set, w)
			}
		}
		for set := range trees {
			for i := range l {
				if set>>i&1 == 0 {
					if w := wrong(put(t, trees[set], l[i].Key, l[i].Value), shapes[set|1<<i]); w != "" {
						t.Fatalf("%v, %b with %d: %s", places, set, i, w)
					}
					continue
				}
				x, e := trees[set].Del(l[i].Key)
				if w := wrong(x, shapes[set&^(1<<i)]); w != "" || e != api.OK {
					t.Fatalf("%v, %b without %d: %d, %s", places, set, i, int(e), w)
				}
			}
		}
	}
}

func TestManyKeys(t *testing.T) {
	c := chance(99)
	var l []api.Pair
	for i := range 3000 {
		var k api.Key
		for j := range k {
			k[j] = byte(c.below(256))
		}
		l = append(l, pair(k, strings.Repeat("v", 1+i%40)))
	}
	x := tree.Of(l...)
	if w := wrong(x, built(parts(l...), 0)); w != "" {
		t.Fatal(w)
	}
	for i, y := range l {
		if i%3 > 0 {
			x, _ = x.Del(y.Key)
		}
	}
	var left []api.Pair
	for i, y := range l {
		if i%3 == 0 {
			left = append(left, y)
		}
	}
	if w := wrong(x, built(parts(left...), 0)); w != "" {
		t.Fatal(w)
	}
}

// R3, R4, R6 of LANGUAGE.md: what is handed in and out is nobody else's.

func TestHandedIn(t *testing.T) {
	a, b := leaf(t, "", "a"), leaf(t, "", "b")
	in := branch(t, a, b)
	p := []byte{1, 2, 3, 77}
	n := api.Node{Kind: api.NExt, Path: p[:3], Kids: [16]string{in.Ref()}}
	x := made(t, n, in)
	enc := x.Enc()
	p[0] = 9
	if fresh := made(t, api.Node{Kind: api.NExt, Path: []byte{1, 2, 3}, Kids: n.Kids}, in); x.Enc() != enc || fresh.Enc() != enc || p[3] != 77 {
		t.Error("Make keeps a path that is handed in")
	}
	p = []byte{1, 2}
	x = made(t, api.Node{Kind: api.NLeaf, Path: p, Value: "v"})
	p[0] = 9
	if m, _ := x.Open(); string(m.Path) != "\x01\x02" {
		t.Error("Make keeps a leaf's path that is handed in")
	}
	m, _ := in.Open()
	kids := []tree.Tree{a, b}
	y := made(t, m, kids...)
	kids[0] = b
	if _, l := y.Open(); l[0].Enc() != a.Enc() {
		t.Error("Make keeps trees that are handed in")
	}
	one := []tree.Tree{in}
	z := made(t, node.Ext([]byte{1}, in.Ref()), one...)
	one[0] = a
	if _, l := z.Open(); l[0].Enc() != in.Enc() {
		t.Error("Make keeps an extension's tree that is handed in")
	}
	l := []api.Pair{pair(key(), "a"), pair(key(0, 1), "b")}
	was := slices.Clone(l)
	tree.Of(l...)
	if !slices.Equal(l, was) {
		t.Error("Of changes pairs")
	}
}

func TestHandedOut(t *testing.T) {
	x := tree.Of(pair(key(), "a"), pair(key(3, 1), "b"))
	enc := x.Enc()
	n, l := x.Open()
	n.Path[0], l[0] = 9, tree.Tree{}
	in, _ := x.Open()
	if in.Path[0] == 9 {
		t.Error("a path that Open handed out is the tree's")
	}
	_, l = x.Open()
	m, k := l[0].Open()
	k[0], k[1] = k[1], k[0]
	k = append(k, k...)
	if o, again := l[0].Open(); again[0].Ref() != m.Kids[0] || !node.Same(o, m) {
		t.Error("trees that Open handed out are the tree's")
	}
	lf, _ := k[0].Open()
	lf.Path[0] = 9
	if v, e := x.Get(key()); v != "a" || e != api.OK || x.Enc() != enc {
		t.Errorf("%q, %d", v, int(e))
	}
	if y := put(t, x, key(9, 9), "c"); y.Enc() != tree.Of(pair(key(), "a"), pair(key(3, 1), "b"), pair(key(9, 9), "c")).Enc() {
		t.Error("Put behind it")
	}
}

func TestAtOnce(t *testing.T) {
	c := chance(5)
	keys := c.keys(60)
	var x tree.Tree
	var l []api.Pair
	for _, k := range keys {
		v := c.value()
		x, l = put(t, x, k, v), append(l, pair(k, v))
	}
	want := of(l...)
	var group sync.WaitGroup
	for i := range 8 {
		group.Go(func() {
			y, _ := x.Put(keys[i], "other")
			if w := wrong(x, want); w != "" {
				t.Error(w)
			}
			if y.Enc() != of(append(slices.Clone(l), pair(keys[i], "other"))...).enc() {
				t.Error("Put at once")
			}
			if z, e := x.Del(keys[i]); e != api.OK || z.Ref() == x.Ref() {
				t.Error("Del at once")
			}
		})
	}
	group.Wait()
}

func TestNothingElseTold(t *testing.T) {
	stub := tree.Drop(strings.Repeat("s", 32))
	for name, x := range map[string]tree.Tree{"nothing": {}, "dropped": stub, "some": tree.Of(pair(key(), "a"))} {
		for _, k := range []api.Key{key(1, 1), key(63, 1)} {
			if v, e := x.Get(k); v != "" || e == api.OK {
				t.Errorf("%s: Get: %q, %d", name, v, int(e))
			}
			if y, e := x.Del(k); y != (tree.Tree{}) || e == api.OK {
				t.Errorf("%s: Del: %d", name, int(e))
			}
		}
	}
}
