package node_test

import (
	"reflect"
	"slices"
	"strings"
	"testing"

	"dormouse/api"
	"dormouse/nib"
	"dormouse/node"
	"dormouse/rlp"
)

const most = 65552 // bytes of a leaf's value

var (
	sumA = strings.Repeat("A", 32)
	sumB = strings.Repeat("\x80", 32)
	sumC = "\xdf" + strings.Repeat("\x01", 31) // a list's head, and its 31 bytes
)

// text and list are items' bytes, as chapter 5 says, without package rlp.
func text(s string) string {
	if len(s) == 1 && s[0] < 128 {
		return s
	}
	return ahead(len(s), 128) + s
}

func list(l ...string) string {
	s := strings.Join(l, "")
	return ahead(len(s), 192) + s
}

func ahead(n, from int) string {
	switch {
	case n < 56:
		return string([]byte{byte(from + n)})
	case n < 256:
		return string([]byte{byte(from + 56), byte(n)})
	case n < 65536:
		return string([]byte{byte(from + 57), byte(n >> 8), byte(n)})
	}
	return string([]byte{byte(from + 58), byte(n >> 16), byte(n >> 8), byte(n)})
}

// prefix is the hex-prefix of a path, as chapter 2 says, without package nib.
func prefix(p []byte, leaf bool) string {
	mark := byte(0)
	if leaf {
		mark = 2
	}
	all := []byte{mark, 0}
	if len(p)%2 == 1 {
		all = []byte{mark + 1}
	}
	all = append(all, p...)
	var b []byte
	for i := 0; i < len(all); i += 2 {
		b = append(b, all[i]*16+all[i+1])
	}
	return string(b)
}

// laidRef is how a reference stands in a node's bytes: one of a node's own bytes is an item's bytes already.
func laidRef(ref string) string {
	if ref == "" || len(ref) == 32 {
		return text(ref)
	}
	return ref
}

// laid is a node's bytes, as the chapter's words say.
func laid(n api.Node) string {
	switch n.Kind {
	case api.NLeaf:
		return list(text(prefix(n.Path, true)), text(n.Value))
	case api.NExt:
		return list(text(prefix(n.Path, false)), laidRef(n.Kids[0]))
	}
	var l []string
	for _, kid := range n.Kids {
		l = append(l, laidRef(kid))
	}
	return list(append(l, text(""))...)
}

func leaf(path []byte, value string) api.Node {
	return api.Node{Kind: 1, Path: path, Value: value}
}

func ext(path []byte, kid string) api.Node {
	n := api.Node{Kind: 2, Path: path}
	n.Kids[0] = kid
	return n
}

func branch(kids [16]string) api.Node { return api.Node{Kind: 3, Kids: kids} }

// fork is a branch of these references, each at the nibble behind the one ahead of it, the first one at from.
func fork(from int, l ...string) api.Node {
	n := api.Node{Kind: 3}
	copy(n.Kids[from:], l)
	return n
}

// path is one of so many nibbles.
func path(n int) []byte {
	p := make([]byte, n)
	for i := range p {
		p[i] = byte(i*7+3) % 16
	}
	return p
}

// inExts has so many extensions around a node's bytes.
func inExts(n int, s string) string {
	for range n {
		s = laid(ext([]byte{5}, s))
	}
	return s
}

// owns are nodes' bytes that are fewer than 32: of all kinds, of all lengths there are, and with others within them.
func owns() []string {
	l := []string{laid(leaf(nil, "a")), laid(leaf(nil, "\x80")), laid(leaf([]byte{1}, "a")), laid(leaf([]byte{1, 2}, "ab")), laid(leaf(path(40), "abc"))}
	for n := 1; n <= 28; n++ {
		l = append(l, laid(leaf([]byte{byte(n % 16)}, strings.Repeat("\xff", n))))
	}
	for n := range 15 {
		l = append(l, inExts(n, l[0]))
	}
	three := laid(leaf(nil, "b"))
	for from := range 15 {
		l = append(l, laid(fork(from, three, l[0])))
	}
	return append(l, laid(fork(3, three, three, three, three)), laid(fork(3, laid(ext([]byte{7}, laid(leaf([]byte{1}, "c")))), three)))
}

// nodes are such as may be: of all kinds, and at the limits.
func nodes() []api.Node {
	var l []api.Node
	for n := range 65 {
		l = append(l, leaf(path(n), "a"), leaf(path(n), strings.Repeat("x", 60)))
		if n > 0 {
			l = append(l, ext(path(n), sumA), ext(path(n), laid(leaf([]byte{2}, "b"))))
		}
	}
	for d := range byte(16) {
		l = append(l, leaf([]byte{d}, "a"), leaf([]byte{d, d}, "a"), ext([]byte{d}, sumB), ext([]byte{d, 15 - d}, sumB), leaf(slices.Repeat([]byte{d}, 64), "a"), ext(slices.Repeat([]byte{d}, 64), sumC))
	}
	for _, n := range []int{1, 2, 31, 32, 33, 55, 56, 57, 255, 256, 65535, 65536, 65537, most - 1, most} {
		l = append(l, leaf(path(n%65), strings.Repeat("v", n)), leaf(nil, strings.Repeat("\xc0", n)))
	}
	for c := range 256 {
		l = append(l, leaf([]byte{1}, string([]byte{byte(c)})))
	}
	for _, s := range append(owns(), sumA, sumB, sumC) {
		l = append(l, leaf([]byte{1}, s), ext([]byte{1}, s), fork(0, s, s), fork(14, s, s), fork(7, s, "", sumA), branch(filled(s)))
	}
	for i := range 16 {
		for j := range i {
			var kids [16]string
			kids[i], kids[j] = sumA, laid(leaf([]byte{byte(j)}, "b"))
			l = append(l, branch(kids))
		}
		all := filled(sumB)
		all[i] = ""
		l = append(l, branch(all))
	}
	return l
}

func filled(s string) [16]string {
	var kids [16]string
	for i := range kids {
		kids[i] = s
	}
	return kids
}

// isSame holds nodes against each other, part by part, without the package.
func isSame(a, b api.Node) bool {
	if a.Kind != b.Kind || string(a.Path) != string(b.Path) || a.Value != b.Value {
		return false
	}
	for i := range a.Kids {
		if a.Kids[i] != b.Kids[i] {
			return false
		}
	}
	return true
}

// short is what a test tells of bytes that may be many.
func short(s string) string { return s[:min(len(s), 40)] }

// refuses asks that Get answers an error, and nothing beside it.
func refuses(t *testing.T, s string, want api.Errno, what string) {
	t.Helper()
	if n, e := node.Get(s); e != want || !reflect.DeepEqual(n, api.Node{}) {
		t.Errorf("%s: Get of %x (%d bytes): %v, error %d, not %d", what, short(s), len(s), n, int(e), int(want))
	}
}

// takes asks that Get answers a node.
func takes(t *testing.T, s string, want api.Node, what string) {
	t.Helper()
	if n, e := node.Get(s); e != api.OK || !isSame(n, want) {
		t.Errorf("%s: Get of %x (%d bytes): %v, error %d", what, short(s), len(s), n, int(e))
	}
}

// mayNotBe asks that Check and Put refuse a node.
func mayNotBe(t *testing.T, n api.Node, what string) {
	t.Helper()
	if e := node.Check(n); e != api.ErrArg {
		t.Errorf("%s: Check: %d", what, int(e))
	}
	if s, e := node.Put(n); e != api.ErrArg || s != "" {
		t.Errorf("%s: Put: %x, error %d", what, short(s), int(e))
	}
}

// mayBe asks that Check takes a node, and Put lays it.
func mayBe(t *testing.T, n api.Node, what string) {
	t.Helper()
	if e := node.Check(n); e != api.OK {
		t.Errorf("%s: Check: %d", what, int(e))
	}
	if s, e := node.Put(n); e != api.OK || s != laid(n) {
		t.Errorf("%s: Put: %x (%d bytes), error %d, not %x (%d bytes)", what, short(s), len(s), int(e), short(laid(n)), len(laid(n)))
	}
}

// noReferences are texts that are none: too long, or too short for a sum and no node's bytes.
func noReferences() map[string]string {
	a := laid(leaf(nil, "a"))
	return map[string]string{
		"33 bytes": strings.Repeat("A", 33), "31 bytes": strings.Repeat("A", 31), "64 bytes": strings.Repeat("A", 64), "1 byte": "A", "an empty text's bytes": "\x80", "an empty list": "\xc0", "a text's bytes": "\x83abc",
		"a node's bytes, and one more": a + "a", "a node's bytes but the last": a[:len(a)-1], "a node's 33 bytes": laid(leaf([]byte{1}, strings.Repeat("a", 30))), "a node's 64 bytes": laid(leaf([]byte{1}, strings.Repeat("a", 60))),
		"a leaf without a value": list(text(prefix(path(1), true)), text("")), "an extension without a path": list(text(prefix(nil, false)), a), "an extension of nothing": list(text(prefix(path(1), false)), text("")),
		"a branch of one": laid(fork(3, a)), "a branch of none": laid(fork(0)), "a list of one": list(a), "a list of three": list("a", "b", "c"), "an extension around a list": list(text(prefix(path(1), false)), list("a")),
		"a branch that has a value": strings.TrimSuffix(laid(fork(3, a, a)), "\x80") + "a", "a node's bytes as a text": text(a), "bytes that could be fewer": "\xf8\x02 a",
	}
}

// P6.1

func TestPutOfExamples(t *testing.T) {
	a := "\xc2\x20a"
	for _, c := range []struct {
		n    api.Node
		want string
	}{
		{leaf([]byte{1}, "a"), "\xc2\x31a"},
		{leaf(nil, "a"), "\xc2\x20a"}, {leaf([]byte{}, "ab"), "\xc4\x20\x82ab"}, {leaf([]byte{1, 2}, "\x80"), "\xc5\x82\x20\x12\x81\x80"}, {leaf([]byte{15, 1, 2}, "a"), "\xc4\x82\x3f\x12a"},
		{ext([]byte{1}, a), "\xc4\x11\xc2\x20a"}, {ext([]byte{1, 2}, a), "\xc6\x82\x00\x12\xc2\x20a"}, {ext([]byte{15, 14, 13}, sumA), "\xe4\x82\x1f\xed\xa0" + sumA},
		{fork(0, a, a), "\xd5" + a + a + strings.Repeat("\x80", 15)},
		{fork(14, a, sumA), "\xf3" + strings.Repeat("\x80", 14) + a + "\xa0" + sumA + "\x80"},
		{branch(filled(sumA)), "\xf9\x02\x11" + strings.Repeat("\xa0"+sumA, 16) + "\x80"},
		{leaf(slices.Repeat([]byte{10}, 64), strings.Repeat("v", most)), "\xfa\x01\x00\x36\xa1\x20" + strings.Repeat("\xaa", 32) + "\xba\x01\x00\x10" + strings.Repeat("v", most)},
	} {
		if got, e := node.Put(c.n); got != c.want || e != api.OK {
			t.Errorf("%x, error %d, not %x", short(got), int(e), short(c.want))
		}
	}
}

func TestNodesThatMayBe(t *testing.T) {
	for _, n := range nodes() {
		mayBe(t, n, "of nodes")
	}
}

func TestOwnBytesAreThere(t *testing.T) {
	lengths := map[int]bool{}
	for _, s := range owns() {
		lengths[len(s)] = true
		if len(s) > 31 {
			t.Errorf("%x has %d bytes", s, len(s))
		}
	}
	for n := 3; n < 32; n++ {
		if !lengths[n] {
			t.Errorf("none has %d bytes", n)
		}
	}
}

func TestKindsThatAreNone(t *testing.T) {
	for _, kind := range []int{0, 4, 5, -1, 17, 256 + 1, 1<<32 + 1, -1 << 63, 1<<63 - 1} {
		for _, n := range []api.Node{{}, leaf([]byte{1}, "a"), ext([]byte{1}, sumA), fork(0, sumA, sumB)} {
			n.Kind = kind
			mayNotBe(t, n, "of another kind")
		}
	}
	for _, n := range []api.Node{leaf([]byte{1}, "a"), ext([]byte{1}, sumA), fork(0, sumA, sumB)} {
		for kind := 1; kind < 4; kind++ {
			if was := n.Kind; was != kind {
				n.Kind = kind
				mayNotBe(t, n, "of one kind, with what another has")
				n.Kind = was
			}
		}
	}
}

func TestPathsThatMayNotBe(t *testing.T) {
	for _, n := range []int{65, 66, 67, 127, 128, 256, 320, 1 << 16} {
		mayNotBe(t, leaf(path(n), "a"), "a leaf of a long path")
		mayNotBe(t, ext(path(n), sumA), "an extension of a long path")
	}
	for _, bad := range []byte{16, 17, 32, 128, 255} {
		for _, n := range []int{1, 2, 3, 63, 64} {
			for _, at := range []int{0, n / 2, n - 1} {
				p := path(n)
				p[at] = bad
				mayNotBe(t, leaf(p, "a"), "a leaf's path that is none")
				mayNotBe(t, ext(p, sumA), "an extension's path that is none")
			}
		}
	}
	mayNotBe(t, ext(nil, sumA), "an extension without a path")
	mayNotBe(t, ext([]byte{}, laid(leaf(nil, "a"))), "an extension with an empty path")
	for _, p := range [][]byte{{0}, {1, 2}, path(64), {16}} {
		n := fork(0, sumA, sumB)
		n.Path = p
		mayNotBe(t, n, "a branch with a path")
	}
}

func TestValuesThatMayNotBe(t *testing.T) {
	for _, n := range []int{0, 1, 2, 64} {
		mayNotBe(t, leaf(path(n), ""), "a leaf without a value")
		for _, m := range []int{most + 1, most + 2, 1 << 17, 1 << 22} {
			mayNotBe(t, leaf(path(n), strings.Repeat("v", m)), "a leaf of a long value")
		}
	}
	for _, v := range []string{"a", "\x00", "\x80", sumA} {
		x, b := ext([]byte{1}, sumA), fork(0, sumA, sumB)
		x.Value, b.Value = v, v
		mayNotBe(t, x, "an extension with a value")
		mayNotBe(t, b, "a branch with a value")
	}
}

func TestKidsThatMayNotBe(t *testing.T) {
	a := laid(leaf(nil, "a"))
	for i := range 16 {
		for _, kid := range []string{sumA, a, "a"} {
			l, x, lone := leaf([]byte{1}, "v"), ext([]byte{1}, sumA), ext([]byte{1}, "")
			l.Kids[i] = kid
			mayNotBe(t, l, "a leaf that has a reference")
			lone.Kids[i] = kid
			if i > 0 {
				x.Kids[i] = kid
				mayNotBe(t, x, "an extension that has two")
				mayNotBe(t, lone, "an extension that has another one alone")
			}
			var kids [16]string
			kids[i] = kid
			mayNotBe(t, branch(kids), "a branch of one")
		}
	}
	mayNotBe(t, ext([]byte{1}, ""), "an extension of nothing")
	mayNotBe(t, branch([16]string{}), "a branch of none")
	for what, s := range noReferences() {
		mayNotBe(t, ext([]byte{1}, s), "an extension of "+what)
		for i := range 16 {
			all, two := filled(sumA), filled("")
			all[i], two[i], two[(i+5)%16] = s, s, a
			mayNotBe(t, branch(all), "a full branch with "+what)
			mayNotBe(t, branch(two), "a branch of two with "+what)
		}
	}
}

// TestThirtyTwoBytes is told references of 32 bytes that are a node's bytes, too: they stand as texts all the same.
func TestThirtyTwoBytes(t *testing.T) {
	for _, s := range []string{laid(leaf([]byte{1}, strings.Repeat("a", 29))), laid(ext([]byte{1}, laid(leaf([]byte{2}, strings.Repeat("b", 27)))))} {
		if _, e := node.Get(s); len(s) != 32 || e != api.OK {
			t.Fatalf("%d bytes, error %d", len(s), int(e))
		}
		mayBe(t, ext([]byte{1}, s), "an extension")
		mayBe(t, fork(5, s, sumA), "a branch")
		takes(t, list("\x11", text(s)), ext([]byte{1}, s), "as a text")
		refuses(t, list("\x11", s), api.ErrForm, "an extension, as an item")
		refuses(t, list(strings.Repeat("\x80", 5), s, text(sumA), strings.Repeat("\x80", 10)), api.ErrForm, "a branch, as an item")
	}
}

// P6.2

func TestGet(t *testing.T) {
	for _, n := range nodes() {
		takes(t, laid(n), n, "of nodes")
	}
}

func TestGetTellsWholesErrorFirst(t *testing.T) {
	for _, c := range []struct {
		what, s string
		want    api.Errno
	}{
		{"nothing", "", api.ErrShort}, {"a head alone", "\xc2", api.ErrShort}, {"a leaf cut off", "\xc2\x31", api.ErrShort}, {"a long head cut off", "\xf8", api.ErrShort},
		{"a leaf, and a byte", "\xc2\x31aa", api.ErrForm}, {"a leaf twice", "\xc2\x31a\xc2\x31a", api.ErrForm}, {"bytes that could be fewer", "\xf8\x02\x31a", api.ErrForm}, {"a byte told as a text", "\xc3\x31\x81a", api.ErrForm}, {"a path's byte told as a text", "\xc3\x81\x31a", api.ErrForm},
		{"65 lists", deep(65), api.ErrDepth}, {"in an extension 64 lists", list("\x11", deep(64)), api.ErrDepth}, {"in a leaf 65 lists", list("\x31", deep(65)), api.ErrDepth}, {"in an extension 65 lists", list("\x11", deep(65)), api.ErrDepth}, {"in a branch 65 lists", list(deep(65), strings.Repeat("\x80", 16)), api.ErrDepth},
		{"too many items", list(strings.Repeat("a", 4096)), api.ErrBig}, {"in a leaf too many", list("\x31", list(strings.Repeat("a", 4095))), api.ErrBig}, {"in a branch too many", list(list(strings.Repeat("a", 4090)), strings.Repeat("\x80", 16)), api.ErrBig},
		{"many items", list(strings.Repeat("a", 4095)), api.ErrForm}, {"in a leaf many", list("\x31", list(strings.Repeat("a", 4000))), api.ErrForm}, {"64 lists", deep(64), api.ErrForm}, {"in an extension 63 lists", list("\x11", deep(63)), api.ErrForm},
		{"a list of one that is short", "\xc1\x82", api.ErrShort}, {"a wrong leaf cut off", "\xc3\x00a", api.ErrShort}, {"in an extension an item beyond it", "\xc2\x11\xc2\x20a", api.ErrShort},
	} {
		refuses(t, c.s, c.want, c.what)
	}
	for i, n := range nodes() {
		s := laid(n)
		for k := range min(len(s), 8) {
			refuses(t, s[:k], api.ErrShort, "its first bytes")
			refuses(t, s[:len(s)-1-k], api.ErrShort, "all but its last bytes")
		}
		refuses(t, s+s[i%len(s):], api.ErrForm, "bytes behind it")
		refuses(t, s+"\x00", api.ErrForm, "a byte behind it")
	}
}

// deep is so many lists around a text.
func deep(n int) string { return inLists(n, "a") }

// inLists has so many lists around bytes.
func inLists(n int, s string) string {
	for range n {
		s = list(s)
	}
	return s
}

func TestGetOfTextsAndOtherLists(t *testing.T) {
	for _, s := range []string{"\x80", "a", "\x81\x80", "\x82\x31a", text(laid(leaf([]byte{1}, "a"))), text(sumA), text(strings.Repeat("x", 17)), text(strings.Repeat("x", 100))} {
		refuses(t, s, api.ErrForm, "a text")
	}
	a := laid(leaf(nil, "a"))
	for n := range 40 {
		if n != 2 && n != 17 {
			refuses(t, list(strings.Repeat("\x31", n)), api.ErrForm, "of other paths")
			refuses(t, list(strings.Repeat("\x80", n)), api.ErrForm, "of other texts")
			refuses(t, list(strings.Repeat(a, n)), api.ErrForm, "of other nodes")
		}
	}
	refuses(t, list("\x31"), api.ErrForm, "a leaf without its value's place")
	refuses(t, list("\x31", "a", "\x80"), api.ErrForm, "a leaf, and an empty text")
	refuses(t, list("\x31", "a", "a"), api.ErrForm, "a leaf, and a text")
	refuses(t, list("\x11", a, "\x80"), api.ErrForm, "an extension, and an empty text")
	refuses(t, list(a, a, strings.Repeat("\x80", 14)), api.ErrForm, "a branch without its end")
	refuses(t, list(a, a, strings.Repeat("\x80", 16)), api.ErrForm, "a branch of one place more")
}

func TestGetOfPathsThatNobodyLays(t *testing.T) {
	a := laid(leaf(nil, "a"))
	for b := range 256 {
		one := string([]byte{byte(b)})
		for _, more := range []string{"", "\x00", "\x12", strings.Repeat("\xff", 31), strings.Repeat("\xff", 32), strings.Repeat("\xff", 33)} {
			packed := one + more
			odd := b >> 4 & 1
			nibbles := 2*len(more) + odd
			right := b < 64 && (odd == 1 || b&15 == 0) && nibbles <= 64
			p := []byte(nil)
			if odd == 1 {
				p = append(p, byte(b&15))
			}
			for _, c := range []byte(more) {
				p = append(p, c>>4, c&15)
			}
			if s := list(text(packed), text("v")); right && b >= 32 {
				takes(t, s, leaf(p, "v"), "a leaf's path")
			} else {
				refuses(t, s, api.ErrForm, "a value behind what is no leaf's path")
			}
			if s := list(text(packed), a); right && b < 32 && nibbles > 0 {
				takes(t, s, ext(p, a), "an extension's path")
			} else {
				refuses(t, s, api.ErrForm, "a node behind what is no extension's path")
			}
			if s := list(text(packed), text(sumA)); right && b < 32 && nibbles > 0 {
				takes(t, s, ext(p, sumA), "an extension's path")
			} else if right && b >= 32 {
				takes(t, s, leaf(p, sumA), "a leaf's path, and a value like a sum")
			} else {
				refuses(t, s, api.ErrForm, "a sum behind what is no path")
			}
		}
	}
	for _, s := range []string{list("\x80", "a"), list("\x80", text(sumA)), list("\xc0", "a"), list("\xc0", text(sumA)), list(list("\x31"), "a"), list(list("\x11"), text(sumA)), list(a, a), list(a, "a")} {
		refuses(t, s, api.ErrForm, "no path")
	}
}

func TestGetOfValuesThatMayNotBe(t *testing.T) {
	for _, p := range []string{"\x20", "\x31", text("\x20\x12"), text("\x20" + strings.Repeat("\xab", 32))} {
		for what, s := range map[string]string{
			"empty": "\x80", "an empty list": "\xc0", "a list": list("a"), "a node": laid(leaf(nil, "a")), "a list of 40 bytes": list(text(strings.Repeat("a", 40))), "too long": text(strings.Repeat("v", most+1)), "far too long": text(strings.Repeat("v", 1<<20)),
		} {
			refuses(t, list(p, s), api.ErrForm, "a leaf's value is "+what)
		}
		for _, n := range []int{1, 2, most - 1, most} {
			if _, e := node.Get(list(p, text(strings.Repeat("v", n)))); e != api.OK {
				t.Errorf("a value of %d bytes: error %d", n, int(e))
			}
		}
	}
}

func TestGetOfReferencesThatAreNone(t *testing.T) {
	a := laid(leaf(nil, "a"))
	bad := map[string]string{"a list of a list": list(list("a"))}
	for n := 1; n < 100; n++ {
		if n != 32 {
			bad["a text of as many bytes as "+strings.Repeat("I", n)] = text(strings.Repeat("\xa1", n))
		}
	}
	for n := range 40 {
		bad["a list of as many empty texts as "+strings.Repeat("I", n)] = list(strings.Repeat("\x80", n))
	}
	for _, s := range owns() {
		bad["as a text: "+s] = text(s)
	}
	for n := 29; n < 70; n++ {
		bad["a leaf of a value of as many bytes as "+strings.Repeat("I", n)] = list("\x31", text(strings.Repeat("b", n)))
	}
	for what, s := range noReferences() {
		if x, e := rlp.Whole(s); e == api.OK && x.List {
			bad["an item: "+what] = s
		}
	}
	bad["15 extensions around a leaf, 33 bytes"] = inExts(15, a)
	bad["extensions around a leaf without a value"] = inExts(5, list("\x20", "\x80"))
	bad["extensions around a branch of one"] = inExts(3, list(a, strings.Repeat("\x80", 16)))
	bad["extensions around a branch that has a value"] = inExts(2, list(a, a, strings.Repeat("\x80", 14), "a"))
	for what, s := range bad {
		refuses(t, list("\x11", s), api.ErrForm, "an extension of "+what)
		for i := range 16 {
			refuses(t, list(strings.Repeat("\x80", i), s, strings.Repeat("\x80", 16-i)), api.ErrForm, "a branch of one, "+what)
			if i > 1 {
				refuses(t, list(text(sumA), strings.Repeat("\x80", i-2), a, s, strings.Repeat("\x80", 16-i)), api.ErrForm, "a branch of three, one of which is "+what)
			}
		}
	}
	refuses(t, list("\x11", "\x80"), api.ErrForm, "an extension of nothing")
}

func TestGetOfBranchesThatMayNotBe(t *testing.T) {
	a := laid(leaf(nil, "a"))
	refuses(t, list(strings.Repeat("\x80", 17)), api.ErrForm, "of none")
	for i := range 16 {
		refuses(t, list(strings.Repeat("\x80", i), a, strings.Repeat("\x80", 16-i)), api.ErrForm, "of one")
		refuses(t, list(strings.Repeat("\x80", i), text(sumA), strings.Repeat("\x80", 16-i)), api.ErrForm, "of one sum")
	}
	for _, end := range []string{"a", "\x00", "\x81\x80", "\xc0", a, text(sumA), list("\x80"), text(strings.Repeat("v", 100))} {
		refuses(t, list(a, a, strings.Repeat("\x80", 14), end), api.ErrForm, "its end is not empty")
		refuses(t, list(strings.Repeat(text(sumA), 16), end), api.ErrForm, "all, and its end is not empty")
		refuses(t, list(a, strings.Repeat("\x80", 15), end), api.ErrForm, "one, and an end")
	}
}

// likely is the one node that could be laid as a list, if there is one.
func likely(x api.Item) api.Node {
	n := api.Node{Kind: 3}
	refs := x.L
	if len(x.L) == 2 && x.L[0].S != "" {
		n.Kind = api.NExt
		b := []byte(x.L[0].S)
		if b[0]&32 != 0 {
			n.Kind = api.NLeaf
		}
		if b[0]&16 != 0 {
			n.Path = append(n.Path, b[0]&15)
		}
		for _, c := range b[1:] {
			n.Path = append(n.Path, c>>4, c&15)
		}
		refs = x.L[1:]
	}
	if n.Kind == api.NLeaf {
		n.Value = refs[0].S
		return n
	}
	for i := range min(len(refs), 16) {
		n.Kids[i] = refs[i].S
		if refs[i].List {
			n.Kids[i] = itemText(refs[i])
		}
	}
	return n
}

// itemText is an item's bytes.
func itemText(x api.Item) string {
	if !x.List {
		return text(x.S)
	}
	var l []string
	for _, y := range x.L {
		l = append(l, itemText(y))
	}
	return list(l...)
}

// right is the chapter's words on which nodes may be.
func right(n api.Node) bool {
	if len(n.Path) > 64 || slices.ContainsFunc(n.Path, func(b byte) bool { return b > 15 }) {
		return false
	}
	there := 0
	for _, kid := range n.Kids {
		if kid != "" {
			there++
		}
	}
	switch n.Kind {
	case 1:
		return len(n.Value) >= 1 && len(n.Value) <= most && there == 0
	case 2:
		return len(n.Path) > 0 && n.Value == "" && there == 1 && n.Kids[0] != "" && refers(n.Kids[0])
	}
	for _, kid := range n.Kids {
		if !refers(kid) {
			return false
		}
	}
	return n.Kind == 3 && len(n.Path) == 0 && n.Value == "" && there > 1
}

// refers is the chapter's words on which texts are references.
func refers(s string) bool {
	_, isNode := nodeOf(s)
	return s == "" || len(s) == 32 || len(s) < 32 && isNode
}

// nodeOf is the node whose bytes these are, and whether there is one.
func nodeOf(s string) (api.Node, bool) {
	x, e := rlp.Whole(s)
	if e != api.OK || !x.List {
		return api.Node{}, false
	}
	n := likely(x)
	if !right(n) || laid(n) != s {
		return api.Node{}, false
	}
	return n, true
}

// held holds Get against the chapter's words, and tells whether these are a node's bytes.
func held(t *testing.T, s string) bool {
	t.Helper()
	_, whole := rlp.Whole(s)
	want, isNode := nodeOf(s)
	switch {
	case whole != api.OK:
		refuses(t, s, whole, "no item")
	case isNode:
		takes(t, s, want, "a node")
	default:
		refuses(t, s, api.ErrForm, "no node")
	}
	if len(s) < 32 && node.Reference(s) != (isNode || s == "") {
		t.Errorf("Reference of %x: %t", s, !isNode)
	}
	return isNode
}

// TestGetOfAllShortBytes is told all bytes up to two, all lists of two bytes, and two bytes of all kinds in lists of more.
func TestGetOfAllShortBytes(t *testing.T) {
	found := 0
	held(t, "")
	for a := range 256 {
		held(t, string([]byte{byte(a)}))
		for b := range 256 {
			held(t, string([]byte{byte(a), byte(b)}))
			if held(t, string([]byte{0xc2, byte(a), byte(b)})) {
				found++
			}
			held(t, string([]byte{0xc3, byte(a), byte(b), 'a'}))
			held(t, string([]byte{0xc4, 0x11, byte(a), byte(b), 'a'}))
		}
	}
	if want := 17 * 128; found != want {
		t.Errorf("of three bytes %d are nodes, not %d", found, want)
	}
}

// grown are bytes of all kinds of shapes that are like a node's, another one of each seed.
func grown(seed *uint32, parts int) string {
	next := func(n int) int {
		*seed = *seed*1664525 + 1013904223
		return int(*seed>>16) % n
	}
	if parts == 0 {
		return []string{"\x80", "a", "\xc0", text(sumA), text(sumC), text(sumA[:31]), text(sumA + "A"), "\xc2\x20a"}[next(8)]
	}
	paths := []string{"\x20", "\x31", "\x11", "\x00", text("\x20\xab"), text("\x00\xab"), text(prefix(path(64), true)), text(prefix(path(63), false)), "\x80", "\xc0", "\x2f"}
	switch next(5) {
	case 0:
		return list(paths[next(len(paths))], text(strings.Repeat(string(rune('a'+next(20))), next(40))))
	case 1, 2:
		return list(paths[next(len(paths))], grown(seed, parts-1))
	}
	l := slices.Repeat([]string{"\x80"}, []int{17, 17, 17, 17, 16, 18}[next(6)])
	for range next(5) {
		l[next(len(l))] = grown(seed, parts-1)
	}
	return list(l...)
}

func TestGetOfManyShapes(t *testing.T) {
	is, not := 0, 0
	for seed := range uint32(60000) {
		at := seed * 104729
		if held(t, grown(&at, int(seed%5))) {
			is++
		} else {
			not++
		}
	}
	if is < 5000 || not < 5000 {
		t.Errorf("%d are nodes, %d are none", is, not)
	}
}

// TestGetOfTurnedBytes turns each byte of nodes' bytes.
func TestGetOfTurnedBytes(t *testing.T) {
	is, not := 0, 0
	for _, n := range []api.Node{leaf([]byte{1}, "ab"), leaf(path(6), strings.Repeat("v", 60)), ext(path(3), sumC), ext([]byte{1, 2}, inExts(4, laid(leaf([]byte{3}, "xyz")))), fork(2, laid(leaf(nil, "a")), "", sumA, laid(leaf(path(4), "bc"))), fork(9, laid(leaf(nil, "a")), laid(fork(3, laid(leaf(nil, "a")), laid(leaf(nil, "b")))))} {
		b := []byte(laid(n))
		for i, was := range b {
			for c := range 256 {
				b[i] = byte(c)
				if held(t, string(b)) {
					is++
				} else {
					not++
				}
			}
			b[i] = was
		}
	}
	if is < 1000 || not < 1000 {
		t.Errorf("%d are nodes, %d are none", is, not)
	}
}

func TestGetOfLongBytes(t *testing.T) {
	long := strings.Repeat("v", 1<<24)
	refuses(t, text(long), api.ErrForm, "a text")
	refuses(t, list("\x31", text(long)), api.ErrForm, "a leaf")
	refuses(t, list("\x11", list(text(long))), api.ErrForm, "an extension")
	refuses(t, list(text(long), "a"), api.ErrForm, "a path")
	refuses(t, long, api.ErrForm, "bytes behind a text")
	l := slices.Repeat([]string{inLists(62, text(long[:1<<18]))}, 16)
	refuses(t, list(append(l, "\x80")...), api.ErrForm, "a branch of long lists within one another")
}

// P6.3

func TestReference(t *testing.T) {
	for _, s := range append(owns(), "", sumA, sumB, sumC, strings.Repeat("\x00", 32), laid(leaf([]byte{1}, strings.Repeat("a", 29)))) {
		if !node.Reference(s) {
			t.Errorf("%x is none", s)
		}
	}
	for what, s := range noReferences() {
		if node.Reference(s) {
			t.Errorf("%s is one: %x", what, s)
		}
	}
	for n := range 300 {
		for _, s := range []string{strings.Repeat("\x00", n), strings.Repeat("\xc0", n), strings.Repeat("a", n)} {
			if got := node.Reference(s); got != (n == 0 || n == 32) {
				t.Errorf("%d bytes of %x: %t", n, s[:1], got)
			}
		}
	}
	for _, n := range nodes() {
		if s := laid(n); node.Reference(s) != (len(s) <= 32) {
			t.Errorf("%x: %t", short(s), node.Reference(s))
		}
	}
	if node.Reference(strings.Repeat("A", 1<<26)) {
		t.Error("a long text is one")
	}
}

func TestKids(t *testing.T) {
	a := laid(leaf(nil, "a"))
	var some [16]string
	some[0], some[3], some[15] = sumA, a, "no reference"
	odd := api.Node{Kind: 1, Path: []byte{99}, Value: "v", Kids: some}
	var order [16]string
	for i := range order {
		order[i] = strings.Repeat("x", i)
	}
	for _, c := range []struct {
		n    api.Node
		want []string
	}{
		{api.Node{}, nil}, {leaf([]byte{1}, "a"), nil}, {ext([]byte{1}, sumA), []string{sumA}}, {ext([]byte{1}, a), []string{a}}, {ext([]byte{1}, ""), nil},
		{fork(4, sumA, "", sumB, a), []string{sumA, sumB, a}}, {fork(14, a, a), []string{a, a}}, {fork(0, sumB, sumA), []string{sumB, sumA}}, {branch([16]string{}), nil},
		{odd, []string{sumA, a, "no reference"}}, {branch(order), order[1:]},
	} {
		if got := node.Kids(c.n); !slices.Equal(got, c.want) {
			t.Errorf("%q, not %q", got, c.want)
		}
	}
	all := filled(sumA)
	if got := node.Kids(branch(all)); !slices.Equal(got, all[:]) {
		t.Errorf("%q", got)
	}
}

func TestKidsAnswersNewMemory(t *testing.T) {
	n := branch(filled(sumA))
	got := node.Kids(n)
	got[0], got[15] = "z", "z"
	if !isSame(n, branch(filled(sumA))) || !slices.Equal(node.Kids(n), slices.Repeat([]string{sumA}, 16)) {
		t.Errorf("%v", n)
	}
}

func TestSame(t *testing.T) {
	a := laid(leaf(nil, "a"))
	l := []api.Node{
		{}, {Kind: 1}, {Kind: 2}, {Kind: 3}, {Kind: -1}, {Value: "a"}, {Path: []byte{0}}, {Path: []byte{0, 0}}, {Path: []byte{1}}, {Path: []byte{16}}, {Path: []byte{255}},
		leaf(nil, "a"), leaf(nil, "b"), leaf(nil, "ab"), leaf([]byte{1}, "a"), leaf([]byte{1, 2}, "a"), leaf([]byte{2, 1}, "a"), leaf([]byte{1}, ""), leaf(path(64), "a"), leaf(path(65), "a"), leaf(path(63), "a"),
		ext([]byte{1}, a), ext([]byte{1}, sumA), ext([]byte{1}, sumB), ext([]byte{2}, a), ext([]byte{1}, ""), ext(nil, a), {Kind: 1, Path: []byte{1}, Value: a}, {Kind: 2, Path: []byte{1}, Value: "a"},
		fork(0, a, sumA), fork(0, sumA, a), fork(1, a, sumA), fork(14, a, sumA), fork(0, a, sumA, sumB), fork(0, a, "", sumA), branch(filled(a)), branch(filled(sumA)), {Kind: 2, Kids: filled(a)},
	}
	for i := range 16 {
		kids, more := filled(""), filled(a)
		kids[i], more[i] = "q", "q"
		l = append(l, branch(kids), branch(more))
	}
	for i, x := range l {
		for j, y := range l {
			y.Path = append([]byte{9, 9}, y.Path...)[2:]
			if got := node.Same(x, y); got != (i == j) {
				t.Errorf("of nodes %d and %d: %t", i, j, got)
			}
		}
	}
	if !node.Same(leaf(nil, "a"), leaf([]byte{}, "a")) || !node.Same(branch(filled(a)), api.Node{Kind: 3, Path: []byte{}, Kids: filled(a)}) {
		t.Error("paths that are nil and empty are not the same")
	}
}

func TestLeafExtBranch(t *testing.T) {
	for _, p := range [][]byte{nil, {}, {0}, {1, 2, 3}, path(64), path(65), {16, 255}} {
		for _, s := range []string{"", "a", sumA, strings.Repeat("v", most+1)} {
			if got := node.Leaf(p, s); !isSame(got, leaf(p, s)) {
				t.Errorf("Leaf of %v and %q: %v", p, short(s), got)
			}
			if got := node.Ext(p, s); !isSame(got, ext(p, s)) {
				t.Errorf("Ext of %v and %q: %v", p, short(s), got)
			}
		}
	}
	var kids [16]string
	for i := range kids {
		kids[i] = strings.Repeat("k", 15-i)
	}
	for _, l := range [][16]string{{}, kids, filled(sumA), filled("no reference")} {
		if got := node.Branch(l); !isSame(got, branch(l)) {
			t.Errorf("Branch of %q: %v", l, got)
		}
	}
}

func TestAnswersAreNewMemory(t *testing.T) {
	room := []byte{1, 2, 3, 4, 5, 6}
	l, x := node.Leaf(room[:3], "a"), node.Ext(room[:3], sumA)
	_ = append(l.Path, 9, 9)
	_ = append(x.Path, 9, 9)
	l.Path[0], x.Path[1] = 8, 8
	if !slices.Equal(room, []byte{1, 2, 3, 4, 5, 6}) {
		t.Errorf("what was handed in goes with it: %v", room)
	}
	room[0], room[1], room[2] = 7, 7, 7
	if !slices.Equal(l.Path, []byte{8, 2, 3}) || !slices.Equal(x.Path, []byte{1, 8, 3}) {
		t.Errorf("they go with what was handed in: %v, %v", l.Path, x.Path)
	}
	s := laid(leaf(path(7), "abc"))
	a, _ := node.Get(s)
	b, _ := node.Get(s)
	_ = append(a.Path[:2], 9, 9)
	a.Path[0] = 9
	if !isSame(b, leaf(path(7), "abc")) {
		t.Errorf("%v goes with another one", b)
	}
	takes(t, s, leaf(path(7), "abc"), "again")
}

func TestNodesThatAreHandedInAreLeft(t *testing.T) {
	wrong := []api.Node{leaf([]byte{77, 3}, ""), ext([]byte{1, 200}, "x"), {Kind: 9, Path: path(70), Value: "a", Kids: filled("a")}}
	for _, n := range append(nodes(), wrong...) {
		room := append(slices.Clone(n.Path), 11, 12, 13)
		was := slices.Clone(room)
		n.Path = room[:len(room)-3]
		kids := n.Kids
		node.Check(n)
		node.Put(n)
		node.Same(n, n)
		node.Kids(n)
		node.Leaf(n.Path, "a")
		node.Ext(n.Path, "a")
		if !slices.Equal(room, was) || n.Kids != kids {
			t.Errorf("%v is another one", n)
		}
	}
}

// P6.4

func TestBack(t *testing.T) {
	for _, n := range nodes() {
		s, e := node.Put(n)
		if e != api.OK {
			t.Errorf("Put of %v: error %d", n.Kind, int(e))
		}
		m, e := node.Get(s)
		if e != api.OK || !isSame(n, m) || !node.Same(n, m) {
			t.Errorf("Get of Put: another one, or error %d: %x", int(e), short(s))
		}
		if again, e := node.Put(m); e != api.OK || again != s {
			t.Errorf("Put of Get: %x, error %d, not %x", short(again), int(e), short(s))
		}
	}
}

// TestBackOfWhatIsTaken takes bytes of many shapes: of all that Get takes, Put has the very bytes.
func TestBackOfWhatIsTaken(t *testing.T) {
	taken := 0
	for seed := range uint32(20000) {
		at := seed*7919 + 1
		s := grown(&at, int(seed%5))
		n, e := node.Get(s)
		if e != api.OK {
			continue
		}
		taken++
		if again, e := node.Put(n); e != api.OK || again != s {
			t.Errorf("Put of Get: %x, error %d, not %x", short(again), int(e), short(s))
		}
	}
	if taken < 1000 {
		t.Errorf("%d were taken", taken)
	}
}

// TestOfKeysPaths lays and reads the nodes that two keys' paths come to.
func TestOfKeysPaths(t *testing.T) {
	a, b := nib.Path(api.Key{1, 2, 3}), nib.Path(api.Key{1, 2, 200})
	n := nib.Common(a, b)
	l, e := node.Put(node.Leaf(a[n+1:], "one"))
	m, f := node.Put(node.Leaf(b[n+1:], "two"))
	if e != api.OK || f != api.OK || len(l) < 32 || len(m) < 32 {
		t.Fatalf("%x, %x, errors %d and %d", l, m, int(e), int(f))
	}
	var kids [16]string
	kids[a[n]], kids[b[n]] = sumA, sumB
	s, e := node.Put(node.Branch(kids))
	if e != api.OK || len(s) != 83 {
		t.Errorf("%x, error %d", s, int(e))
	}
	takes(t, s, branch(kids), "the branch")
	x, e := node.Put(node.Ext(a[:n], sumC))
	if e != api.OK || x != list(text("\x00\x01\x02"), text(sumC)) {
		t.Errorf("%x, error %d", x, int(e))
	}
}
