package root_test

import (
	"crypto/sha256"
	"encoding/hex"
	"slices"
	"strings"
	"testing"

	"dormouse/api"
	"dormouse/node"
	"dormouse/root"
	"dormouse/tree"
)

// rootOfNothing is the sum of the byte 128, as the language's library has it.
const rootOfNothing = "76be8b528d0075f7aae98d6fa57a6d3c83ae480a8469e668d7b0af968995ac71"

// text, list and prefix are bytes as chapters 2 and 5 say, without packages nib and rlp.
func text(s string) string {
	if len(s) == 1 && s[0] < 128 {
		return s
	}
	return ahead(len(s), 128) + s
}

func list(l ...string) string {
	s := strings.Join(l, "")
	return ahead(len(s), 192) + s
}

func ahead(n, from int) string {
	switch {
	case n < 56:
		return string([]byte{byte(from + n)})
	case n < 256:
		return string([]byte{byte(from + 56), byte(n)})
	case n < 65536:
		return string([]byte{byte(from + 57), byte(n >> 8), byte(n)})
	}
	return string([]byte{byte(from + 58), byte(n >> 16), byte(n >> 8), byte(n)})
}

func prefix(p string, leaf bool) string {
	mark := byte(0)
	if leaf {
		mark = 2
	}
	all := string([]byte{mark, 0})
	if len(p)%2 == 1 {
		all = string([]byte{mark + 1})
	}
	all += p
	var b []byte
	for i := 0; i < len(all); i += 2 {
		b = append(b, all[i]<<4|all[i+1])
	}
	return string(b)
}

// sumOf is a text's sum, as the language's library has it.
func sumOf(s string) api.Sum { return sha256.Sum256([]byte(s)) }

// refOf is the reference of a node's bytes, as chapter 7 says.
func refOf(enc string) string {
	if len(enc) < 32 {
		return enc
	}
	x := sumOf(enc)
	return string(x[:])
}

// A shape is a tree as the chapters' words have it, without packages tree and root: its bytes (of a dropped part none), its reference, the trees within it.
type shape struct {
	enc, ref string
	in       []*shape
}

func leaf(path, value string) *shape { return shaped(list(text(prefix(path, true)), text(value))) }

func ext(path string, kid *shape) *shape {
	return shaped(list(text(prefix(path, false)), stands(kid)), kid)
}

// branch has trees of nibbles from 0 on (nil: there is none).
func branch(kids ...*shape) *shape {
	l := make([]string, 17)
	var in []*shape
	for i := range l {
		l[i] = text("")
		if i < len(kids) && kids[i] != nil {
			l[i], in = stands(kids[i]), append(in, kids[i])
		}
	}
	return shaped(list(l...), in...)
}

func shaped(enc string, in ...*shape) *shape { return &shape{enc, refOf(enc), in} }

func drop(ref string) *shape { return &shape{ref: ref} }

// stands tells as which bytes a reference to a shape stands in another's.
func stands(s *shape) string {
	if len(s.ref) == 32 {
		return text(s.ref)
	}
	return s.ref
}

// long is a leaf's value, so that the leaf stands by its sum.
func long(s string) string { return strings.Repeat(s, 40) }

// nodes, bodies, weight, whole and levels tell what the chapter asks for of a shape.
func (s *shape) nodes() []string {
	if s.enc == "" {
		return nil
	}
	l := []string{s.enc}
	for _, x := range s.in {
		l = append(l, x.nodes()...)
	}
	return l
}

func (s *shape) bodies() []string {
	l := s.nodes()
	if len(l) == 0 {
		return nil
	}
	rest := slices.DeleteFunc(l[1:], func(enc string) bool { return len(enc) < 32 })
	return l[:1+len(rest)]
}

func (s *shape) weight() int { return len(strings.Join(s.bodies(), "")) }

func (s *shape) whole() bool {
	return (s.enc != "" || s.ref == "") && !slices.ContainsFunc(s.in, func(x *shape) bool { return !x.whole() })
}

// grown tells the tree of a shape, as Make makes it.
func grown(t *testing.T, s *shape) tree.Tree {
	t.Helper()
	if s.enc == "" {
		return tree.Drop(s.ref)
	}
	n, e := node.Get(s.enc)
	if e != api.OK {
		t.Fatalf("%x is no node: %d", s.enc, int(e))
	}
	var in []tree.Tree
	for _, x := range s.in {
		in = append(in, grown(t, x))
	}
	x, e := tree.Make(n, in...)
	if e != api.OK {
		t.Fatalf("Make: %d", int(e))
	}
	return x
}

// wrong tells how a tree differs from a shape; empty: it does not.
func wrong(x tree.Tree, s *shape) string {
	if x.Empty() != (s.ref == "") {
		return "Empty"
	}
	if x.Enc() != s.enc {
		return "Enc"
	}
	if x.Ref() != s.ref {
		return "Ref"
	}
	_, l := x.Open()
	if len(l) != len(s.in) {
		return "how many trees within"
	}
	for i := range l {
		if w := wrong(l[i], s.in[i]); w != "" {
			return w + ", within"
		}
	}
	return ""
}

// told asks all that is told of a tree.
func told(t *testing.T, x tree.Tree, s *shape, what string) {
	t.Helper()
	first := s.enc
	if first == "" {
		first = "\x80"
	}
	if r := root.Of(x); r != sumOf(first) {
		t.Errorf("%s: Of: %x", what, r)
	}
	if l := root.Nodes(x); !slices.Equal(l, s.nodes()) {
		t.Errorf("%s: Nodes: %x instead of %x", what, l, s.nodes())
	}
	if l := root.Bodies(x); !slices.Equal(l, s.bodies()) {
		t.Errorf("%s: Bodies: %x instead of %x", what, l, s.bodies())
	}
	if n := root.Weight(x); n != s.weight() {
		t.Errorf("%s: Weight: %d instead of %d", what, n, s.weight())
	}
	if w := root.Whole(x); w != s.whole() {
		t.Errorf("%s: Whole: %t", what, w)
	}
}

// reads asks that Load answers the tree of a shape.
func reads(t *testing.T, what string, s *shape, bodies ...string) tree.Tree {
	t.Helper()
	x, e := root.Load(sumOf(s.enc), bodies...)
	if e != api.OK {
		t.Fatalf("%s: error %d", what, int(e))
	}
	if w := wrong(x, s); w != "" {
		t.Fatalf("%s: %s", what, w)
	}
	return x
}

// refuses asks that Load answers an error, and nothing beside it.
func refuses(t *testing.T, what string, want api.Errno, r api.Sum, bodies ...string) {
	t.Helper()
	if x, e := root.Load(r, bodies...); e != want || !x.Empty() {
		t.Errorf("%s: error %d instead of %d, empty %t", what, int(e), int(want), x.Empty())
	}
}

// path tells a key's path, without package nib; key tells the key of a path, that is 0 behind what is said.
func path(k api.Key) string {
	var b []byte
	for _, x := range k {
		b = append(b, x>>4, x&15)
	}
	return string(b)
}

func key(p string) api.Key {
	p += strings.Repeat("\x00", 64-len(p))
	var k api.Key
	for i := range k {
		k[i] = p[2*i]<<4 | p[2*i+1]
	}
	return k
}

// built tells the shape that is built of keys and values, of whose paths so many nibbles are gone.
func built(l []api.Pair, gone int) *shape {
	switch len(l) {
	case 0:
		return &shape{}
	case 1:
		return leaf(path(l[0].Key)[gone:], l[0].Value)
	}
	first := path(l[0].Key)
	n := gone
	for !slices.ContainsFunc(l, func(x api.Pair) bool { return path(x.Key)[n] != first[n] }) {
		n++
	}
	if n > gone {
		return ext(first[gone:n], built(l, n))
	}
	kids := make([]*shape, 16)
	for i := range kids {
		in := slices.DeleteFunc(slices.Clone(l), func(x api.Pair) bool { return path(x.Key)[n] != byte(i) })
		if len(in) > 0 {
			kids[i] = built(in, n+1)
		}
	}
	return branch(kids...)
}

// chance tells numbers that look like chance, the same ones of the same seed.
type chance uint64

func (c *chance) below(n int) int {
	*c = *c*6364136223846793005 + 1442695040888963407
	return int(uint64(*c)>>33) % n
}

// pairs tells keys that have long beginnings in common, and values, mostly short ones.
func (c *chance) pairs(n int) []api.Pair {
	m := map[api.Key]string{}
	var keys []api.Key
	for range n {
		p := make([]byte, 64)
		if len(keys) > 0 && c.below(4) > 0 {
			copy(p, path(keys[c.below(len(keys))]))
		}
		for range 1 + c.below(3) {
			p[[]int{0, 1, 30, 31, 60, 61, 62, 63, c.below(64)}[c.below(9)]] = byte(c.below(3) * 7)
		}
		k := key(string(p))
		if _, there := m[k]; !there {
			keys = append(keys, k)
		}
		m[k] = strings.Repeat(string([]byte{byte(97 + c.below(4))}), 1+c.below(3)*c.below(20))
	}
	var l []api.Pair
	for _, k := range keys {
		l = append(l, api.Pair{Key: k, Value: m[k]})
	}
	return l
}

// odd tells a shape as only Make makes them: of any depth, with dropped parts where chance says.
func (c *chance) odd(deep int) *shape {
	switch c.below(4) {
	case 0:
		return leaf(strings.Repeat("\x05", c.below(4)), strings.Repeat("v", 1+c.below(40)))
	case 1:
		if c.below(3) == 0 {
			return drop(long(string([]byte{byte(c.below(256))}))[:32])
		}
		return ext(strings.Repeat("\x06", 1+c.below(3)), c.oddBranch(deep))
	}
	return c.oddBranch(deep)
}

func (c *chance) oddBranch(deep int) *shape {
	kids := make([]*shape, 16)
	for range 1 + c.below(3) {
		at := c.below(16)
		if deep > 0 {
			kids[at] = c.odd(deep - 1)
		} else {
			kids[at] = leaf("", "a")
		}
	}
	at := c.below(15)
	kids[at], kids[at+1] = leaf("", "b"), leaf("\x01", strings.Repeat("c", 1+c.below(32)))
	return branch(kids...)
}

// some are shapes of all kinds.
func some() map[string]*shape {
	stub := drop(long("s")[:32])
	a, b := leaf("", "a"), leaf("\x01", "b")
	far := leaf("\x02", long("f"))
	return map[string]*shape{
		"nothing": {}, "dropped": stub, "dropped, of own bytes": drop(a.enc),
		"a leaf of 3 bytes": a, "a leaf of 31 bytes": leaf("", strings.Repeat("a", 28)), "a leaf of 32 bytes": leaf("", strings.Repeat("a", 29)), "a leaf of 33 bytes": leaf("", strings.Repeat("a", 30)), "a long leaf": leaf(strings.Repeat("\x07", 64), strings.Repeat("v", 65552)),
		"a branch of own bytes": branch(a, b), "a branch of sums": branch(far, leaf("", long("g"))), "a branch of both": branch(a, far, b, leaf("", long("g")), a),
		"a branch of 16": branch(slices.Repeat([]*shape{far, a}, 8)...), "a branch of the last ones": branch(append(make([]*shape, 14), far, a)...),
		"an extension of own bytes": ext("\x03", branch(a, b)), "an extension of a sum": ext("\x03\x04", branch(far, b)), "an extension in a branch": branch(ext("\x03", branch(far, a)), b, ext("\x03", branch(a, b))),
		"a branch of three, the middle one short": branch(branch(far, a), branch(a, b), branch(b, far)), "one twice": branch(branch(far, a), branch(far, a)), "31 bytes and 32 within": branch(leaf("", strings.Repeat("a", 28)), leaf("", strings.Repeat("a", 29))),
		"the first one dropped": branch(stub, a, far), "the middle one dropped": branch(far, stub, a), "the last one dropped": branch(a, far, stub), "both dropped": branch(stub, stub), "an extension of a dropped one": ext("\x01", stub),
		"dropped far within": branch(a, ext("\x05", branch(far, branch(b, stub))), far), "one dropped, the same one not": branch(far, drop(far.ref), b), "own bytes dropped": branch(a, drop(b.enc)),
	}
}

// P9.1

func TestOfExamples(t *testing.T) {
	pair := tree.Of(api.Pair{Key: key(""), Value: "a"})
	for _, c := range []struct {
		what string
		x    tree.Tree
		want string
	}{
		{"nothing", tree.Tree{}, rootOfNothing}, {"of nothing", tree.Of(), rootOfNothing}, {"a dropped part", tree.Drop(long("s")[:32]), rootOfNothing}, {"a dropped part of own bytes", tree.Drop("\xc2\x20a"), rootOfNothing},
		// The sums of 194 49 97; and of 227, 161 32 and 32 zeros, 97.
		{"a leaf of path 1, value a", grown(t, leaf("\x01", "a")), hexOf("\xc2\x31a")},
		{"one pair", pair, hexOf("\xe3\xa1\x20" + strings.Repeat("\x00", 32) + "a")},
	} {
		if r := root.Of(c.x); hex.EncodeToString(r[:]) != c.want {
			t.Errorf("%s: %x", c.what, r)
		}
	}
}

func hexOf(s string) string {
	x := sumOf(s)
	return hex.EncodeToString(x[:])
}

func TestSame(t *testing.T) {
	stub := drop(long("s")[:32])
	far := leaf("\x02", long("f"))
	l := []*shape{
		{}, leaf("", "a"), leaf("", "b"), leaf("\x01", "a"), far, leaf("\x02", long("g")), branch(far, far), branch(far, stub), branch(far, nil, far), branch(far, far, far), ext("\x01", branch(far, far)), ext("\x01", branch(far, stub)), ext("\x02", branch(far, far)), ext("\x01", stub),
	}
	for i := range l {
		for j := range l {
			if got := root.Same(grown(t, l[i]), grown(t, l[j])); got != (i == j) {
				t.Errorf("%d and %d: %t", i, j, got)
			}
		}
	}
	for _, c := range []struct {
		what string
		a, b *shape
	}{
		{"a part dropped", branch(far, far), branch(drop(far.ref), far)}, {"each one dropped once", branch(drop(far.ref), far), branch(far, drop(far.ref))}, {"far within", ext("\x01", branch(far, branch(far, leaf("", "a")))), ext("\x01", branch(far, branch(drop(far.ref), leaf("", "a"))))},
		{"nothing and dropped", &shape{}, stub}, {"both dropped", stub, drop(far.ref)}, {"behind an extension", ext("\x01", branch(far, far)), ext("\x01", drop(branch(far, far).ref))},
	} {
		a, b := grown(t, c.a), grown(t, c.b)
		if !root.Same(a, b) || !root.Same(b, a) {
			t.Error(c.what)
		}
	}
	if root.Same(grown(t, far), grown(t, drop(far.ref))) || root.Same(grown(t, drop(far.ref)), grown(t, far)) {
		t.Error("dropped itself")
	}
}

// P9.2

func TestToldOfExamples(t *testing.T) {
	a, b, f := leaf("", "a"), leaf("\x01", "b"), leaf("\x02", long("f"))
	x := branch(a, ext("\x03", branch(f, b)), f)
	in := x.in[1]
	all := []string{x.enc, a.enc, in.enc, in.in[0].enc, f.enc, b.enc, f.enc}
	y := grown(t, x)
	if l := root.Nodes(y); !slices.Equal(l, all) {
		t.Errorf("Nodes: %x", l)
	}
	if len(in.enc) < 32 || len(in.in[0].enc) < 32 {
		t.Fatal("too short")
	}
	bodies := []string{x.enc, in.enc, in.in[0].enc, f.enc, f.enc}
	if l := root.Bodies(y); !slices.Equal(l, bodies) {
		t.Errorf("Bodies: %x", l)
	}
	if n := root.Weight(y); n != len(x.enc)+len(in.enc)+len(in.in[0].enc)+2*len(f.enc) {
		t.Errorf("Weight: %d", n)
	}
	small := grown(t, branch(a, b))
	if len(small.Enc()) != 22 {
		t.Fatalf("%d bytes", len(small.Enc()))
	}
	if l := root.Nodes(small); !slices.Equal(l, []string{small.Enc(), a.enc, b.enc}) {
		t.Errorf("Nodes of a small one: %x", l)
	}
	if l := root.Bodies(small); !slices.Equal(l, []string{small.Enc()}) || root.Weight(small) != 22 {
		t.Errorf("Bodies of a small one: %x", l)
	}
}

func TestTold(t *testing.T) {
	for what, s := range some() {
		told(t, grown(t, s), s, what)
	}
}

func TestToldOfTreesOfKeys(t *testing.T) {
	for seed := range 300 {
		c := chance(seed)
		l := c.pairs(c.below(20))
		x, s := tree.Of(l...), built(l, 0)
		if w := wrong(x, s); w != "" {
			t.Fatal(w)
		}
		told(t, x, s, "by chance")
	}
}

func TestToldOfOddTrees(t *testing.T) {
	stubs := 0
	for seed := range 500 {
		c := chance(seed)
		s := c.odd(c.below(6))
		told(t, grown(t, s), s, "by chance")
		if !s.whole() {
			stubs++
		}
	}
	if stubs < 50 {
		t.Errorf("%d have a dropped part", stubs)
	}
}

func TestToldOfDeepTrees(t *testing.T) {
	n := 1 << 15
	b := leaf("", "b")
	s := branch(leaf("", long("a")), b)
	x := grown(t, s)
	weight := len(s.enc) + len(leaf("", long("a")).enc)
	for range n {
		s = branch(drop(s.ref), b)
		m, e := node.Get(s.enc)
		if e != api.OK {
			t.Fatal(int(e))
		}
		if x, e = tree.Make(m, x, grown(t, b)); e != api.OK {
			t.Fatal(int(e))
		}
		weight += len(s.enc)
	}
	if l := root.Nodes(x); len(l) != 2*n+3 || l[0] != s.enc {
		t.Errorf("%d nodes", len(l))
	}
	if l := root.Bodies(x); len(l) != n+2 || root.Weight(x) != weight {
		t.Errorf("%d bodies", len(l))
	}
	if !root.Whole(x) {
		t.Error("Whole")
	}
}

// P9.3

func TestLoadNothing(t *testing.T) {
	nothing := sumOf("\x80")
	for _, l := range [][]string{nil, {}, {""}, {"\x80"}, {"\x80", "", "\x80"}, {"a", leaf("", "a").enc}, {long("x"), ""}} {
		x, e := root.Load(nothing, l...)
		if e != api.OK || !x.Empty() || x.Enc() != "" {
			t.Errorf("%q: error %d, empty %t", l, int(e), x.Empty())
		}
	}
}

func TestLoadNone(t *testing.T) {
	f := leaf("\x02", long("f"))
	s := branch(f, leaf("", "a"))
	bad := long("bad")
	for what, l := range map[string][]string{
		"none": nil, "those within alone": {f.enc}, "another one": {branch(f, f).enc, f.enc}, "what is no node": {bad, "", "\x80"}, "its reference": {s.ref}, "one byte less": {s.enc[1:], s.enc[:len(s.enc)-1]}, "one byte more": {s.enc + "\x00", "\x00" + s.enc, s.enc + s.enc}, "its digits": {hexOf(s.enc)},
	} {
		refuses(t, what, api.ErrNone, sumOf(s.enc), l...)
	}
	all := append([]string{bad, "", "\x80"}, s.bodies()...)
	refuses(t, "no text's", api.ErrNone, api.Sum{}, all...)
	refuses(t, "of an empty text", api.ErrNone, sumOf(""), all...)
	for at := range 32 {
		for _, by := range []byte{1, 128, 255} {
			r := sumOf(s.enc)
			r[at] ^= by
			refuses(t, "another byte", api.ErrNone, r, all...)
		}
	}
	refuses(t, "a short one", api.ErrNone, sumOf(leaf("", "a").enc), leaf("", "b").enc, s.enc)
}

func TestLoad(t *testing.T) {
	for what, s := range some() {
		if s.enc == "" || what == "own bytes dropped" || what == "one dropped, the same one not" {
			continue // of these other trees are read
		}
		x := reads(t, what, s, s.bodies()...)
		told(t, x, s, what)
		all := s.nodes() // whatever stands by its own bytes may come, too
		reads(t, what+", all nodes", s, all...)
		slices.Reverse(all)
		reads(t, what+", reversed", s, all...)
		reads(t, what+", twice", s, append(all, all...)...)
		reads(t, what+", with others", s, append([]string{"", "\x80", long("bad"), "\xc2\x31", branch(leaf("", "x"), leaf("", "y")).enc}, all...)...)
	}
}

func TestLoadOfOtherTrees(t *testing.T) {
	a, b, f := leaf("", "a"), leaf("\x01", "b"), leaf("\x02", long("f"))
	s := branch(f, drop(f.ref), b)
	reads(t, "one dropped, the same one not", branch(f, f, b), s.bodies()...)
	s = branch(a, drop(b.enc))
	reads(t, "own bytes dropped", branch(a, b), s.bodies()...)
	// Of a dropped tree the root is that of nothing.
	x := grown(t, drop(f.ref))
	if y, e := root.Load(root.Of(x), root.Bodies(x)...); e != api.OK || !y.Empty() {
		t.Errorf("dropped: %d", int(e))
	}
}

func TestLoadOfEachLength(t *testing.T) {
	for n := range 60 {
		in := leaf("", strings.Repeat("a", n+1))
		s := branch(in, leaf("\x01", "b"))
		reads(t, "a leaf as the root", in, in.enc)
		reads(t, "both", s, s.enc, in.enc)
		want := s
		if len(in.enc) >= 32 {
			want = branch(drop(in.ref), leaf("\x01", "b"))
		}
		reads(t, "the root alone", want, s.enc)
	}
	// A branch of 31 bytes, or of 32, in an extension.
	for _, n := range []int{6, 7} {
		in := branch(leaf("", strings.Repeat("a", n)), leaf("\x01", "ab"))
		if len(in.enc) != n+24 {
			t.Fatalf("%d bytes", len(in.enc))
		}
		s := ext("\x01", in)
		reads(t, "an extension", s, in.enc, s.enc)
	}
}

func TestLoadOfFewer(t *testing.T) {
	a, f, g := leaf("", "a"), leaf("\x02", long("f")), leaf("\x02", long("g"))
	in := branch(f, a, g)
	s := branch(ext("\x03", in), a, f)
	up := s.in[0]
	if len(up.enc) < 32 {
		t.Fatal("too short")
	}
	for _, c := range []struct {
		what   string
		want   *shape
		bodies []string
	}{
		{"the root alone", branch(drop(up.ref), a, drop(f.ref)), []string{s.enc}},
		{"without the extension", branch(drop(up.ref), a, f), []string{s.enc, in.enc, f.enc, g.enc}},
		{"without the branch", branch(ext("\x03", drop(in.ref)), a, f), []string{g.enc, up.enc, f.enc, s.enc}},
		{"without a leaf", branch(ext("\x03", branch(f, a, drop(g.ref))), a, f), []string{s.enc, up.enc, in.enc, f.enc}},
		{"without a leaf that stands twice", branch(ext("\x03", branch(drop(f.ref), a, g)), a, drop(f.ref)), []string{in.enc, s.enc, up.enc, g.enc}},
		{"without all leaves", branch(ext("\x03", branch(drop(f.ref), a, drop(g.ref))), a, drop(f.ref)), []string{s.enc, up.enc, in.enc, a.enc}},
		{"a body within as the root", in, []string{s.enc, in.enc, g.enc, f.enc}},
		{"one that differs in a byte", branch(drop(up.ref), a, f), []string{s.enc, up.enc + "\x00", f.enc, in.enc}},
	} {
		x := reads(t, c.what, c.want, c.bodies...)
		told(t, x, c.want, c.what)
	}
}

func TestLoadForm(t *testing.T) {
	a, f := leaf("", "a"), leaf("\x02", long("f"))
	x := ext("\x01", branch(f, f))
	for what, enc := range map[string]string{
		"a byte": "a", "bytes that end": "\xc2\x31", "a head alone": "\xf8", "a text": text(long("x")), "an empty list": "\xc0", "a list of three": list("a", "b", "c"), "a leaf without a value": list(text(prefix("\x01", true)), text("")), "a leaf of a value too long": list("\x20", text(strings.Repeat("v", 65553))),
		"bytes behind it": f.enc + "\x00", "bytes that could be fewer": "\xf8\x02\x31a", "a branch of one": branch(f).enc, "a branch of none": branch().enc, "an extension without a path": ext("", branch(f, f)).enc, "an extension of nothing": list(text(prefix("\x01", false)), text("")), "a reference of 33 bytes": list("\x11", text(long("x")[:33])), "a reference of 31 bytes": list("\x11", text(long("x")[:31])),
		"65 lists": deep(65), "too many items": list(strings.Repeat("a", 4096)), "a branch with a value": strings.TrimSuffix(branch(f, f).enc, "\x80") + "v", "a path that is none": list("\x41", text(long("x"))), "a long text": long("bad"),
		"an extension of a leaf by its own bytes": ext("\x01", a).enc, "an extension of an extension by its own bytes": ext("\x01", ext("\x02", branch(a, a))).enc,
		"in a branch an extension of a leaf": branch(a, ext("\x01", a), f).enc, "far within an extension of a leaf": branch(ext("\x01", branch(a, ext("\x01", a))), f).enc,
	} {
		refuses(t, what, api.ErrForm, sumOf(enc), enc)
		refuses(t, what+", with others", api.ErrForm, sumOf(enc), f.enc, x.enc, enc, branch(f, f).enc)
		if len(enc) < 32 {
			continue
		}
		in := shaped(enc)
		for _, s := range []*shape{branch(in, a), branch(a, f, in), ext("\x01", in), branch(a, ext("\x01", branch(f, in)), f), branch(f, ext("\x01", branch(in, f)))} {
			l := append(s.bodies(), x.enc)
			refuses(t, what+", within", api.ErrForm, sumOf(s.enc), l...)
			slices.Reverse(l)
			refuses(t, what+", within, reversed", api.ErrForm, sumOf(s.enc), l...)
			reads(t, what+", not there", dropping(s, enc), slices.DeleteFunc(s.bodies(), func(b string) bool { return b == enc })...)
		}
	}
	// What is not on the way is not read.
	s := branch(a, f)
	reads(t, "beside the way", s, long("bad"), s.enc, branch(shaped(long("bad")), a).enc, f.enc, "\xc2", "")
}

// dropping tells a shape in which a tree of these bytes is dropped.
func dropping(s *shape, enc string) *shape {
	if s.enc == enc {
		return drop(s.ref)
	}
	x := &shape{s.enc, s.ref, nil}
	for _, in := range s.in {
		x.in = append(x.in, dropping(in, enc))
	}
	return x
}

// TestLoadFormOfExtensions is told extensions of what Make refuses, or takes, by its sum.
func TestLoadFormOfExtensions(t *testing.T) {
	a, f := leaf("", "a"), leaf("\x02", long("f"))
	below := branch(f, a)
	for what, in := range map[string]*shape{"a leaf": f, "a leaf of 32 bytes": leaf("", strings.Repeat("a", 29)), "an extension": ext("\x02", below), "an extension of a dropped part": ext("\x02", drop(below.ref))} {
		s := ext("\x01", in)
		refuses(t, what, api.ErrForm, sumOf(s.enc), s.bodies()...)
		refuses(t, what+", in a branch", api.ErrForm, sumOf(branch(a, s).enc), branch(a, s).bodies()...)
		refuses(t, what+", first in a branch", api.ErrForm, sumOf(branch(s, f).enc), branch(s, f).bodies()...)
		reads(t, what+", dropped", ext("\x01", drop(in.ref)), s.enc)
		reads(t, what+" itself", in, in.bodies()...)
	}
	reads(t, "a branch", ext("\x01", below), below.enc, f.enc, ext("\x01", below).enc)
}

// deep is so many lists around a text.
func deep(n int) string {
	s := "a"
	for range n {
		s = list(s)
	}
	return s
}

// steep has so many branches around a tree, that stands there at the nibble at, with a sibling beside it.
func steep(n, at int, s, beside *shape) *shape {
	for range n {
		kids := make([]*shape, 16)
		for i := range kids {
			if i == at {
				kids[i] = s
			} else if i == (at+5)%16 {
				kids[i] = beside
			}
		}
		s = branch(kids...)
	}
	return s
}

func TestLoadDepth(t *testing.T) {
	f, a := leaf("", long("f")), leaf("", "a")
	stub := drop(long("s")[:32])
	for _, at := range []int{0, 7, 10, 15} {
		for _, beside := range []*shape{a, f, stub} {
			for what, end := range map[string]*shape{"a leaf": f, "a leaf by its own bytes": a, "a dropped part": stub} {
				s := steep(64, at, end, beside)
				x := reads(t, what+", 65 trees", s, s.bodies()...)
				told(t, x, s, what)
				s = steep(65, at, end, beside)
				refuses(t, what+", 66 trees", api.ErrDepth, sumOf(s.enc), s.bodies()...)
				s = steep(66, at, end, beside)
				refuses(t, what+", 67 trees", api.ErrDepth, sumOf(s.enc), s.bodies()...)
			}
			// Trees by their own bytes are trees, too: an extension, a branch, and its leaves.
			end := ext("\x01", branch(a, a))
			s := steep(62, at, end, beside)
			reads(t, "own bytes, 65 trees", s, s.bodies()...)
			s = steep(63, at, end, beside)
			refuses(t, "own bytes, 66 trees", api.ErrDepth, sumOf(s.enc), s.bodies()...)
		}
	}
	for n := range 70 {
		s := ext("\x01", steep(n+1, 3, f, a))
		if n < 63 {
			reads(t, "an extension around it", s, s.bodies()...)
		} else {
			refuses(t, "an extension around it", api.ErrDepth, sumOf(s.enc), s.bodies()...)
		}
	}
	// Of fewer bodies there are as many trees as are read.
	s := steep(70, 3, f, a)
	for n, l := 1, s.bodies(); n < 70; n++ {
		s, want := s, api.OK
		if n > 64 {
			want = api.ErrDepth
		}
		if x, e := root.Load(sumOf(s.enc), l[:n]...); e != want || (e == api.OK) != (x.Enc() == s.enc) || e != api.OK && !x.Empty() {
			t.Errorf("%d bodies: error %d", n, int(e))
		}
	}
}

// TestLoadDepthOfOneTreeTwice is told a tree that stands at two depths, once too deep.
func TestLoadDepthOfOneTreeTwice(t *testing.T) {
	f, a := leaf("", long("f")), leaf("", "a")
	low := steep(30, 2, f, a) // 31 trees
	for _, n := range []int{30, 33, 34, 60} {
		up := steep(n-1, 9, low, a) // in the branch around both low stands behind n nodes
		for what, s := range map[string]*shape{"the shallow one first": branch(low, a, up), "the deep one first": branch(up, low, a), "both deep": branch(up, up)} {
			if n+31 > 65 {
				refuses(t, what, api.ErrDepth, sumOf(s.enc), s.bodies()...)
				continue
			}
			reads(t, what, s, s.bodies()...)
		}
	}
}

// TestLoadTellsTheFirstError is told bodies of which more is wrong than one thing.
func TestLoadTellsTheFirstError(t *testing.T) {
	f, a, bad := leaf("", long("f")), leaf("", "a"), shaped(long("bad"))
	high := steep(80, 4, f, a)
	wrong := ext("\x01", a)
	for what, s := range map[string]*shape{
		"first what is no node": branch(bad, high), "first what is too deep": branch(high, bad), "first what may not be there": branch(wrong, high), "last what may not be there": branch(high, a, wrong), "far within": ext("\x01", branch(high, branch(branch(a, bad), a))),
		"an extension of a tree too deep": ext("\x01", branch(high, ext("\x02", f))), "behind what is too deep": steep(80, 4, bad, a), "may not be there, behind what is too deep": steep(80, 4, wrong, f),
	} {
		refuses(t, what, api.ErrForm, sumOf(s.enc), s.bodies()...)
		l := s.bodies()
		slices.Reverse(l)
		refuses(t, what+", reversed", api.ErrForm, sumOf(s.enc), l...)
		refuses(t, what+", without the root's", api.ErrNone, sumOf(s.enc), s.bodies()[1:]...)
	}
}

// TestLoadOfBodiesThatTellOneAnother is told a few bodies, each of which tells the next one at all nibbles: gone through one by one, the trees would never end.
func TestLoadOfBodiesThatTellOneAnother(t *testing.T) {
	chain := func(n int, enc string) []string {
		l := []string{enc}
		for range n {
			l = append(l, branch(slices.Repeat([]*shape{shaped(l[len(l)-1])}, 16)...).enc)
		}
		return l
	}
	l := chain(64, leaf("", long("f")).enc)
	x, e := root.Load(sumOf(l[64]), l...)
	if e != api.OK || x.Enc() != l[64] {
		t.Fatalf("error %d", int(e))
	}
	for _, p := range []string{"", strings.Repeat("\x0f", 64), "\x01\x02\x03\x0f"} {
		if v, e := x.Get(key(p)); v != long("f") || e != api.OK {
			t.Errorf("Get: %q, %d", v, int(e))
		}
	}
	for _, n := range []int{65, 300} {
		l = chain(n, leaf("", long("f")).enc)
		refuses(t, "too deep", api.ErrDepth, sumOf(l[n]), l...)
	}
	for _, n := range []int{64, 65, 300} {
		l = chain(n, long("bad"))
		refuses(t, "the last one is no node's", api.ErrForm, sumOf(l[n]), l...)
	}
}

func TestLoadOfDeepBodies(t *testing.T) {
	s := leaf("", long("f"))
	l := []string{s.enc}
	for range 1<<16 - 1 {
		s = branch(drop(s.ref), leaf("", "a"))
		l = append(l, s.enc)
	}
	refuses(t, "2^16 trees", api.ErrDepth, sumOf(s.enc), l...)
	slices.Reverse(l)
	refuses(t, "2^16 trees, reversed", api.ErrDepth, sumOf(s.enc), l...)
	l[len(l)-1] = long("f")
	if x, e := root.Load(sumOf(l[1<<16-65]), l...); e != api.OK || x.Enc() != l[1<<16-65] {
		t.Errorf("65 of them: %d", int(e))
	}
}

// loaded reads a shape as the chapter's words say; what is met is told, and how many trees stand within one another.
func loaded(enc string, bodies []string) (s *shape, form bool, levels int) {
	n, e := node.Get(enc)
	s = shaped(enc)
	if e != api.OK {
		return s, true, 1
	}
	for _, ref := range node.Kids(n) {
		x, bad, deep := drop(ref), false, 1
		in := ref
		if len(ref) == 32 {
			in = ""
			if i := slices.IndexFunc(bodies, func(b string) bool { return refOf(b) == ref }); i >= 0 {
				in = bodies[i]
			}
		}
		if in != "" {
			x, bad, deep = loaded(in, bodies)
			kind := kindOf(in)
			bad = bad || n.Kind == api.NExt && (kind == api.NLeaf || kind == api.NExt)
		}
		s.in, form, levels = append(s.in, x), form || bad, max(levels, deep)
	}
	return s, form, levels + 1
}

func kindOf(enc string) int {
	n, _ := node.Get(enc)
	return n.Kind
}

// shapes tells a shape that chance made, of others that it made; bad ones and deep ones are among them.
func (c *chance) shapes() *shape {
	l := []*shape{leaf("", "a"), leaf("\x01", long("f")), drop(long("s")[:32])}
	if c.below(4) == 0 {
		l = append(l, shaped(long("bad")))
	}
	for range 1 + c.below(7) {
		y := l[len(l)-1]
		switch c.below(6) {
		case 0:
			l = append(l, ext("\x01", y))
		case 1:
			l = append(l, steep(1+c.below(60), c.below(16), y, l[c.below(3)]))
		default:
			kids := make([]*shape, 16)
			kids[c.below(8)], kids[8+c.below(8)] = l[c.below(len(l))], y
			l = append(l, branch(kids...))
		}
	}
	return l[len(l)-1]
}

func TestLoadByChance(t *testing.T) {
	seen := map[api.Errno]int{}
	for seed := range 2500 {
		c := chance(seed)
		top := c.shapes()
		var bodies []string
		for _, enc := range slices.Compact(top.bodies()) {
			if c.below(20) > 0 {
				bodies = slices.Insert(bodies, c.below(len(bodies)+1), enc)
			}
		}
		want := api.ErrNone
		var s *shape
		if slices.Contains(bodies, top.enc) {
			form, levels := false, 0
			s, form, levels = loaded(top.enc, bodies)
			switch want = api.OK; {
			case form:
				want = api.ErrForm
			case levels > 65:
				want = api.ErrDepth
			}
		}
		seen[want]++
		if want == api.OK {
			reads(t, "by chance", s, bodies...)
			continue
		}
		refuses(t, "by chance", want, sumOf(top.enc), bodies...)
	}
	for _, e := range []api.Errno{api.OK, api.ErrNone, api.ErrForm, api.ErrDepth} {
		if seen[e] < 30 {
			t.Errorf("error %d: %d times", int(e), seen[e])
		}
	}
}

// P9.4

func TestBack(t *testing.T) {
	for seed := range 300 {
		c := chance(seed + 7000)
		l := c.pairs(c.below(24))
		x := tree.Of(l...)
		bodies := root.Bodies(x)
		y, e := root.Load(root.Of(x), bodies...)
		if e != api.OK || y.Enc() != x.Enc() || !root.Same(x, y) || !slices.Equal(root.Nodes(y), root.Nodes(x)) || !root.Whole(y) {
			t.Fatalf("seed %d: error %d", seed, int(e))
		}
		for _, p := range l {
			if v, e := y.Get(p.Key); v != p.Value || e != api.OK {
				t.Fatalf("seed %d: Get: %q, %d", seed, v, int(e))
			}
		}
		if z, e := y.Put(key("\x01\x02\x03"), "z"); e != api.OK || z.Enc() != tree.Of(append(l, api.Pair{Key: key("\x01\x02\x03"), Value: "z"})...).Enc() {
			t.Fatalf("seed %d: Put", seed)
		}
	}
}

func TestBackOfOddTrees(t *testing.T) {
	for seed := range 400 {
		c := chance(seed + 9000)
		s := c.oddBranch(c.below(6))
		x := grown(t, s)
		y, e := root.Load(root.Of(x), root.Bodies(x)...)
		if e != api.OK || y.Enc() != x.Enc() || !slices.Equal(root.Nodes(y), root.Nodes(x)) {
			t.Fatalf("seed %d: error %d", seed, int(e))
		}
	}
}

// without tells a shape in which all that is told by a sum, and is not among bodies, is dropped.
func without(s *shape, bodies []string) *shape {
	if len(s.enc) >= 32 && !slices.Contains(bodies, s.enc) {
		return drop(s.ref)
	}
	x := &shape{s.enc, s.ref, nil}
	for _, in := range s.in {
		x.in = append(x.in, without(in, bodies))
	}
	return x
}

func TestBackOfFewer(t *testing.T) {
	fewer := 0
	for seed := range 400 {
		c := chance(seed + 11000)
		l := c.pairs(2 + c.below(24))
		x, s := tree.Of(l...), built(l, 0)
		bodies := root.Bodies(x)
		some := []string{bodies[0]}
		for _, enc := range bodies[1:] {
			if c.below(4) > 0 {
				some = slices.Insert(some, c.below(len(some)+1), enc)
			}
		}
		want := without(s, some)
		y := reads(t, "fewer", want, some...)
		told(t, y, want, "fewer")
		if y.Enc() != x.Enc() || !root.Same(x, y) {
			t.Fatalf("seed %d: another Enc", seed)
		}
		if !want.whole() {
			fewer++
		}
		for _, p := range l {
			if v, e := y.Get(p.Key); (v != p.Value || e != api.OK) && (v != "" || e != api.ErrStub || want.whole()) {
				t.Fatalf("seed %d: Get: %q, %d", seed, v, int(e))
			}
		}
	}
	if fewer < 100 {
		t.Errorf("%d have a dropped part", fewer)
	}
}

// What is handed in is nobody else's, and what is answered is new.

func TestHandedInAndOut(t *testing.T) {
	f, g := leaf("\x02", long("f")), leaf("\x02", long("g"))
	s := branch(f, ext("\x01", branch(f, g)), leaf("", "a"))
	l := append(s.bodies(), "spare", "room")
	was := slices.Clone(l)
	l = l[:len(l)-2]
	x := reads(t, "handed in", s, l...)
	if !slices.Equal(l[:len(was)], was) {
		t.Error("Load changes bodies")
	}
	for i := range l {
		l[i] = ""
	}
	told(t, x, s, "bodies that are gone")
	nodes, bodies := root.Nodes(x), root.Bodies(x)
	for i := range nodes {
		nodes[i] = ""
	}
	for i := range bodies {
		bodies[i] = ""
	}
	_ = append(nodes[:1], "other")
	told(t, x, s, "nodes that are gone")
	if w := wrong(x, s); w != "" {
		t.Error(w)
	}
}

func TestLoadIsAsBefore(t *testing.T) {
	f, g := leaf("\x02", long("f")), leaf("\x02", long("g"))
	s := branch(f, ext("\x01", branch(f, g)), leaf("", "a"))
	reads(t, "the root alone", branch(drop(f.ref), drop(s.in[1].ref), leaf("", "a")), s.enc)
	reads(t, "all", s, s.bodies()...)
	reads(t, "the root alone again", branch(drop(f.ref), drop(s.in[1].ref), leaf("", "a")), s.enc)
	refuses(t, "none", api.ErrNone, sumOf(s.enc))
}
