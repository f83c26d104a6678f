package refs_test

import (
	"crypto/sha256"
	"encoding/hex"
	"slices"
	"strings"
	"sync"
	"testing"

	"dormouse/api"
	"dormouse/node"
	"dormouse/refs"
	"dormouse/rlp"
)

var (
	sumA = strings.Repeat("A", 32)
	sumB = strings.Repeat("\x80", 32)
)

// standard is a text's sum, as the language's library has it.
func standard(s string) string {
	x := sha256.Sum256([]byte(s))
	return string(x[:])
}

// put is a node's bytes; of what may be no node it panics, as the tests would be wrong.
func put(n api.Node) string {
	s, e := node.Put(n)
	if e != api.OK {
		panic(e)
	}
	return s
}

func leaf(path []byte, value string) string { return put(node.Leaf(path, value)) }

func ext(path []byte, kid string) string { return put(node.Ext(path, kid)) }

// fork is the bytes of a branch of these references, each at the nibble behind the one ahead of it, the first one at from.
func fork(from int, l ...string) string {
	var kids [16]string
	copy(kids[from:], l)
	return put(node.Branch(kids))
}

// path is one of so many nibbles.
func path(n int) []byte {
	p := make([]byte, n)
	for i := range p {
		p[i] = byte(i*7+3) % 16
	}
	return p
}

// inExts has so many extensions around a node's bytes.
func inExts(n int, s string) string {
	for range n {
		s = ext([]byte{5}, s)
	}
	return s
}

// ofLength is the bytes of a leaf, as many as asked for, from 3 on.
func ofLength(t *testing.T, n int) string {
	t.Helper()
	for value := 1; value <= n; value++ {
		for _, v := range []string{"v", "\xff"} { // one byte below 128 stands by itself
			for nibbles := range 3 {
				if s := leaf(path(nibbles), strings.Repeat(v, value)); len(s) == n {
					return s
				}
			}
		}
	}
	t.Fatalf("no leaf has %d bytes", n)
	return ""
}

// short is what a test tells of bytes that may be many.
func short(s string) string { return s[:min(len(s), 40)] }

// owns are nodes' bytes that are fewer than 32: of all kinds, of all lengths there are, and with others within them.
func owns(t *testing.T) []string {
	a, b := leaf(nil, "a"), leaf(nil, "b")
	l := []string{leaf([]byte{1}, "a"), leaf([]byte{1, 2}, "ab"), leaf(path(40), "abc"), fork(0, a, b), fork(14, b, a), fork(3, a, b, a, b), fork(3, ext([]byte{7}, leaf([]byte{1}, "c")), a)}
	for n := 3; n < 32; n++ {
		l = append(l, ofLength(t, n))
	}
	for n := range 15 {
		l = append(l, inExts(n, a))
	}
	return l
}

// longs are nodes' bytes that are 32 or more, of all kinds.
func longs(t *testing.T) []string {
	a := leaf(nil, "a")
	l := []string{ext([]byte{1}, sumA), ext(path(64), a), fork(0, sumA, sumB), fork(14, a, sumA), fork(0, slices.Repeat([]string{sumB}, 16)...), fork(0, slices.Repeat([]string{ofLength(t, 31)}, 16)...), leaf(path(64), strings.Repeat("v", 65552)), ext([]byte{5}, inExts(14, a))}
	for n := 32; n < 57; n++ { // no node has 57 bytes: a list's head of two bytes begins with 56 behind it
		l = append(l, ofLength(t, n))
	}
	return l
}

// deep is so many lists around a text.
func deep(n int) string {
	s := "a"
	for range n {
		s = rlp.Head(len(s), true) + s
	}
	return s
}

// others are texts that are no node's bytes, nor of 32 bytes.
func others(t *testing.T) map[string]string {
	a := leaf(nil, "a")
	l := map[string]string{
		"1 byte": "A", "a zero": "\x00", "31 bytes": sumA[1:], "33 bytes": sumA + "A", "64 bytes": sumA + sumB, "a sum's digits": hex.EncodeToString([]byte(sumA)),
		"an empty text's bytes": "\x80", "an empty list": "\xc0", "a text's bytes": "\x83abc", "a list of three": "\xc3abc", "a node's bytes as a text": "\x83" + a, "bytes that could be fewer": "\xf8\x02 a",
		"a node twice": a + a, "a node behind a byte": "\x00" + a, "a leaf without a value": "\xc2\x20\x80", "a leaf of a list": "\xc2\x20\xc0", "an extension without a path": "\xc4\x00" + a, "an extension of nothing": "\xc2\x11\x80",
		"an extension of a list": "\xc3\x11\xc1a", "an extension around what is none": "\xc5\x11\xc3\x11\xc1a", "a branch of none": "\xd1" + strings.Repeat("\x80", 17), "a branch of one": "\xd3" + a + strings.Repeat("\x80", 16),
		"a branch of one place more": "\xd6" + a + a + strings.Repeat("\x80", 16), "a branch that has a value": "\xd5" + a + a + strings.Repeat("\x80", 14) + "v",
		"21 lists": deep(21), "65 lists": deep(65), "66 lists": deep(66),
	}
	for _, s := range owns(t) {
		l["a node's bytes, and one more: "+hex.EncodeToString([]byte(s))] = s + "a"
		l["a node's bytes but the last: "+hex.EncodeToString([]byte(s))] = s[:len(s)-1]
		l["a node's bytes but the first: "+hex.EncodeToString([]byte(s))] = s[1:]
	}
	for what, s := range l {
		if len(s) == 32 {
			delete(l, what)
		}
	}
	return l
}

// P7.1

func TestOfAndRootOfExamples(t *testing.T) {
	for _, c := range []struct{ enc, ref, root string }{
		{"", "", "76be8b528d0075f7aae98d6fa57a6d3c83ae480a8469e668d7b0af968995ac71"},
		{"\x80", "80", "76be8b528d0075f7aae98d6fa57a6d3c83ae480a8469e668d7b0af968995ac71"},
		{"abc", "616263", "ba7816bf8f01cfea414140de5dae2223b00361a396177a9cb410ff61f20015ad"},
		{"abcdbcdecdefdefgefghfghighijhijkijkljklmklmnlmnomnopnopq", "248d6a61d20638b8e5c026930c3e6039a33ce45964ff2167f6ecedd419db06c1", "248d6a61d20638b8e5c026930c3e6039a33ce45964ff2167f6ecedd419db06c1"},
	} {
		root := refs.Root(c.enc)
		if got := refs.Of(c.enc); hex.EncodeToString([]byte(got)) != c.ref || hex.EncodeToString(root[:]) != c.root {
			t.Errorf("of %q: %x and %x", c.enc, got, root)
		}
	}
}

// isRight holds what Of and Root tell of bytes against the chapter's words.
func isRight(t *testing.T, enc, what string) {
	t.Helper()
	ref := standard(enc)
	if len(enc) < 32 {
		ref = enc
	}
	if got := refs.Of(enc); got != ref {
		t.Errorf("%s: Of %x, %d bytes: %x", what, short(enc), len(enc), got)
	}
	if got := refs.Root(enc); enc != "" && string(got[:]) != standard(enc) {
		t.Errorf("%s: Root of %x, %d bytes: %x", what, short(enc), len(enc), got)
	}
}

func TestOfAndRootOfEachLength(t *testing.T) {
	for n := range 300 {
		for _, s := range []string{"\x00", "\xff", "A", "\xc0"} {
			isRight(t, strings.Repeat(s, n), "each length")
		}
	}
	for _, n := range []int{65535, 65536, 65600, 1 << 20} {
		isRight(t, strings.Repeat("v", n), "a long text")
	}
}

func TestOfAndRootOfNodes(t *testing.T) {
	for _, s := range slices.Concat(owns(t), longs(t)) {
		isRight(t, s, "a node")
	}
	for what, s := range others(t) {
		isRight(t, s, what)
	}
}

func TestOfAtItsEdge(t *testing.T) {
	if s := ofLength(t, 31); refs.Of(s) != s {
		t.Errorf("of 31 bytes: %x", refs.Of(s))
	}
	for n := 32; n < 35; n++ {
		s := ofLength(t, n)
		if root := refs.Root(s); refs.Of(s) != string(root[:]) || refs.Of(s) == s {
			t.Errorf("of %d bytes: %x", n, refs.Of(s))
		}
	}
}

func TestRootOfFewBytesIsTheirSum(t *testing.T) {
	for _, s := range owns(t) {
		if root := refs.Root(s); string(root[:]) != standard(s) {
			t.Errorf("of %x: %x", s, root)
		}
	}
	if root := refs.Root(""); string(root[:]) != standard("\x80") || root != refs.Root("\x80") || string(root[:]) == standard("") {
		t.Errorf("of nothing: %x", root)
	}
}

// P7.2

func TestKind(t *testing.T) {
	hasKind := func(s string, want int, what string) {
		t.Helper()
		if got := refs.Kind(s); got != want {
			t.Errorf("%s, %d bytes, %x: %d, not %d", what, len(s), short(s), got, want)
		}
	}
	hasKind("", 0, "empty")
	for b := range 256 {
		hasKind(strings.Repeat(string([]byte{byte(b)}), 32), 1, "32 bytes")
		hasKind(string([]byte{byte(b)})+sumA[1:], 1, "32 bytes")
	}
	hasKind(standard("abc"), 1, "a sum")
	for _, s := range []string{ofLength(t, 32), ext([]byte{1}, ofLength(t, 30)), strings.Repeat("\xc1", 31) + "\xc0"} {
		if len(s) != 32 {
			t.Fatalf("%d bytes", len(s))
		}
		hasKind(s, 1, "32 bytes that are a node's, or a list's, too")
	}
	for _, s := range owns(t) {
		hasKind(s, 2, "a node's own bytes")
	}
	for _, s := range longs(t) {
		if len(s) > 32 {
			hasKind(s, 3, "a node's bytes, too many")
		}
	}
	for what, s := range others(t) {
		hasKind(s, 3, what)
	}
	for n := 1; n < 300; n++ {
		for _, s := range []string{"\x00", "a", "\xc0", "\xff"} {
			if n != 32 {
				hasKind(strings.Repeat(s, n), 3, "all bytes alike")
			}
		}
	}
	hasKind(strings.Repeat("A", 1<<22), 3, "a long text")
}

// TestKindOfAllShortTexts is told all texts of up to two bytes, and lists of two bytes: of the latter those are leaves that have a path of at most one nibble, and a value of a byte below 128.
func TestKindOfAllShortTexts(t *testing.T) {
	leaves := 0
	for a := range 256 {
		if got := refs.Kind(string([]byte{byte(a)})); got != 3 {
			t.Errorf("of %x: %d", a, got)
		}
		for b := range 256 {
			if got := refs.Kind(string([]byte{byte(a), byte(b)})); got != 3 {
				t.Errorf("of %x, %x: %d", a, b, got)
			}
			want := 3
			if (a == 0x20 || a >= 0x30 && a < 0x40) && b < 128 {
				want = 2
				leaves++
			}
			if got := refs.Kind(string([]byte{0xc2, byte(a), byte(b)})); got != want {
				t.Errorf("of a list of %x, %x: %d", a, b, got)
			}
		}
	}
	if leaves != 17*128 {
		t.Errorf("%d leaves", leaves)
	}
}

func TestKindOfWhatOfTells(t *testing.T) {
	if got := refs.Kind(refs.Of("")); got != 0 {
		t.Errorf("of nothing: %d", got)
	}
	for _, s := range owns(t) {
		if got := refs.Kind(refs.Of(s)); got != 2 {
			t.Errorf("of %x: %d", s, got)
		}
	}
	for _, s := range longs(t) {
		if got := refs.Kind(refs.Of(s)); got != 1 {
			t.Errorf("of %x: %d", short(s), got)
		}
	}
}

// texts are such as a reference may be held against: nothing, nodes' bytes, and others.
func texts(t *testing.T) []string {
	l := slices.Concat(owns(t), longs(t), []string{"", sumA, sumB, "x", "\x80", strings.Repeat("\x00", 31), strings.Repeat("\x00", 32), strings.Repeat("\x00", 33)})
	for _, s := range slices.Clone(l) {
		l = append(l, standard(s))
	}
	slices.Sort(l)
	return slices.Compact(l)
}

func TestMatch(t *testing.T) {
	l := texts(t)
	matches := 0
	for _, enc := range l {
		want := standard(enc)
		if len(enc) < 32 {
			want = enc
		}
		for _, ref := range l {
			if got := refs.Match(ref, enc); got != (enc != "" && ref == want) {
				t.Errorf("%x of %x: %t", short(ref), short(enc), got)
			} else if got {
				matches++
			}
		}
		if refs.Match(want, enc) != (enc != "") {
			t.Errorf("of %x its reference: %t", short(enc), enc == "")
		}
	}
	if matches < 80 {
		t.Errorf("%d match", matches)
	}
}

func TestMatchAtItsEdges(t *testing.T) {
	few, many := ofLength(t, 31), ofLength(t, 32)
	for _, c := range []struct {
		what     string
		ref, enc string
		want     bool
	}{
		{"nothing, and nothing", "", "", false}, {"nothing, and a node", "", few, false}, {"a node, and nothing", few, "", false},
		{"the sum of nothing, and nothing", standard(""), "", false}, {"the root of nothing, and nothing", standard("\x80"), "", false}, {"the root of nothing, and its byte", standard("\x80"), "\x80", false}, {"the byte 128", "\x80", "\x80", true},
		{"31 bytes, and themselves", few, few, true}, {"the sum of 31 bytes", standard(few), few, false}, {"32 bytes, and themselves", many, many, false}, {"the sum of 32 bytes", standard(many), many, true},
		{"a sum that goes on", standard(many) + "\x00", many, false}, {"a sum but its last byte", standard(many)[:31], many, false}, {"a sum's digits", hex.EncodeToString([]byte(standard(many))), many, false},
		{"a beginning", few[:30], few, false}, {"what goes on", few + "a", few, false}, {"no node, but its bytes", "x", "x", true}, {"one and another", "x", "y", false},
	} {
		if got := refs.Match(c.ref, c.enc); got != c.want {
			t.Errorf("%s: %t", c.what, got)
		}
	}
	for i := range 32 {
		for _, bit := range []byte{1, 16, 128} {
			b := []byte(standard(many))
			b[i] ^= bit
			if refs.Match(string(b), many) {
				t.Errorf("a sum of which byte %d is turned matches", i)
			}
		}
	}
}

func TestFind(t *testing.T) {
	few, many, more := ofLength(t, 20), ofLength(t, 32), ofLength(t, 60)
	for _, c := range []struct {
		what string
		ref  string
		l    []string
		want string
		ok   bool
	}{
		{"of none", few, nil, "", false}, {"of no text", few, []string{}, "", false}, {"nothing of nothing", "", []string{""}, "", false}, {"nothing of nodes", "", []string{few, "", many}, "", false},
		{"one of itself", few, []string{few}, few, true}, {"a sum of its own", standard(many), []string{many}, many, true}, {"the last", standard(more), []string{"", few, many, more}, more, true}, {"the middle", standard(many), []string{few, many, more}, many, true},
		{"the first", few, []string{few, many, more}, few, true}, {"there twice", standard(many), []string{more, many, few, many}, many, true}, {"of others", standard(more), []string{few, many, "", standard(more)}, "", false},
		{"32 bytes of themselves", many, []string{few, many, more}, "", false}, {"the sum of few", standard(few), []string{few, many, more}, "", false}, {"the sum of nothing", standard(""), []string{""}, "", false}, {"the root of nothing", standard("\x80"), []string{"", "\x80"}, "", false},
	} {
		if got, ok := refs.Find(c.ref, c.l...); got != c.want || ok != c.ok {
			t.Errorf("%s: %x, %t", c.what, short(got), ok)
		}
	}
}

func TestFindOfEach(t *testing.T) {
	l := texts(t)
	for i, enc := range l {
		ref := standard(enc)
		if len(enc) < 32 {
			ref = enc
		}
		if got, ok := refs.Find(ref, l...); ok != (enc != "") || got != enc {
			t.Errorf("%x of all: %x, %t", short(ref), short(got), ok)
		}
		rest := slices.Concat(l[:i], l[i+1:])
		if got, ok := refs.Find(ref, rest...); ok || got != "" {
			t.Errorf("%x of all others: %x, %t", short(ref), short(got), ok)
		}
	}
}

// P7.3: what Clash tells where there are two of one sum stands in clash_test.go.

func TestClashOfTextsThatHaveNone(t *testing.T) {
	l := texts(t)
	for b := range 256 {
		l = append(l, string([]byte{byte(b)}), strings.Repeat("\x00", b), strings.Repeat("a", 5000)+string([]byte{byte(b)}))
	}
	// The reference and the root of one text may be those of another: their sums are not.
	l = append(l, "", "\x80", sumA, standard(sumA), "abc", standard("abc"), hex.EncodeToString([]byte(standard("abc"))))
	for _, c := range [][]string{nil, {}, {""}, {"", "\x80"}, {"\x80", ""}, {"", ""}, {"a", "a"}, {"a", "b", "a", "b"}, {sumA, standard(sumA)}, {"a", "a\x00"}, slices.Repeat([]string{strings.Repeat("v", 100)}, 50), l, slices.Concat(l, l)} {
		if i, j, ok := refs.Clash(c...); i != 0 || j != 0 || ok {
			t.Errorf("of %d texts: %d, %d, %t", len(c), i, j, ok)
		}
	}
}

// P7.4

// shape is a node's bytes, and those of all that are within it.
type shape struct {
	enc string
	all []string
}

func alone(enc string) shape { return shape{enc, []string{enc}} }

// around is a shape of a node's bytes, that has these within it.
func around(make func(l []string) string, kids ...shape) shape {
	var l, within []string
	for _, k := range kids {
		if len(k.enc) < 32 {
			l, within = append(l, k.enc), append(within, k.all...)
		} else {
			l = append(l, standard(k.enc))
		}
	}
	enc := make(l)
	return shape{enc, append([]string{enc}, within...)}
}

func inExt(p []byte, kid shape) shape {
	return around(func(l []string) string { return ext(p, l[0]) }, kid)
}

func inFork(from int, kids ...shape) shape {
	return around(func(l []string) string { return fork(from, l...) }, kids...)
}

// isAll asks what stands within a shape.
func isAll(t *testing.T, s shape, what string) {
	t.Helper()
	if got := refs.All(s.enc); !slices.Equal(got, s.all) {
		t.Errorf("%s: within %x %d: %x, not %d: %x", what, short(s.enc), len(got), got, len(s.all), s.all)
	}
}

func TestAllOfExamples(t *testing.T) {
	const a, b = "\xc2\x20a", "\xc2\x31b"
	inner := "\xc4\x17" + b
	both := "\xd7" + a + inner + strings.Repeat("\x80", 15)
	for _, c := range []struct {
		enc  string
		want []string
	}{
		{a, []string{a}}, {b, []string{b}}, {inner, []string{inner, b}}, {both, []string{both, a, inner, b}},
		{"\xd9\x15" + both, []string{"\xd9\x15" + both, both, a, inner, b}},
	} {
		if got := refs.All(c.enc); !slices.Equal(got, c.want) {
			t.Errorf("within %x: %x", c.enc, got)
		}
	}
}

func TestAllOfWhatIsNoNode(t *testing.T) {
	for what, s := range others(t) {
		if got := refs.All(s); len(got) != 0 {
			t.Errorf("%s: %x", what, got)
		}
	}
	for _, s := range slices.Concat(longs(t), owns(t)) {
		for _, wrong := range []string{s + "\x00", s + s, s[:len(s)-1], s[1:], "\x80" + s} {
			if got := refs.All(wrong); len(got) != 0 {
				t.Errorf("%x: %x", short(wrong), got)
			}
		}
	}
	for n := range 100 {
		for _, s := range []string{"\x00", "a", "\x80", "\xc0", "\xff"} {
			if got := refs.All(strings.Repeat(s, n)); len(got) != 0 {
				t.Errorf("%d of %x: %x", n, s, got)
			}
		}
	}
}

// TestAllOfWhatHasNoNodeWithin is told nodes in which something else than a node is: all of it is none.
func TestAllOfWhatHasNoNodeWithin(t *testing.T) {
	a := "\xc2\x20a"
	wrong := []string{"\xc2\x20\x80", "\xc0", "\xc1a", "\xc4\x00" + a, "\xd3" + a + strings.Repeat("\x80", 16), "\xc3\x11\xc1a"}
	for _, w := range wrong {
		in := string([]byte{byte(0xc0 + 1 + len(w))}) + "\x11" + w
		two := string([]byte{byte(0xc0 + 15 + len(a) + len(w))}) + a + w + strings.Repeat("\x80", 15)
		for _, s := range []string{in, two} {
			if got := refs.All(s); len(got) != 0 {
				t.Errorf("%x: %x", s, got)
			}
		}
	}
}

func TestAllOfLeaves(t *testing.T) {
	a := leaf(nil, "a")
	for n := 3; n < 57; n++ {
		isAll(t, alone(ofLength(t, n)), "a leaf")
	}
	for _, v := range []string{a, ext([]byte{1}, a), fork(3, a, a), sumA, refs.Of(sumA)} {
		isAll(t, alone(leaf([]byte{1}, v)), "a leaf whose value is a node's bytes")
	}
	isAll(t, alone(leaf(path(64), strings.Repeat("v", 65552))), "a long leaf")
}

func TestAllOfSums(t *testing.T) {
	isAll(t, alone(ext([]byte{1}, sumA)), "an extension")
	isAll(t, alone(fork(0, slices.Repeat([]string{sumA}, 16)...)), "a branch")
	for n := 32; n < 40; n++ {
		s := alone(ofLength(t, n))
		isAll(t, inExt([]byte{1}, s), "an extension of a node by its sum")
		isAll(t, inFork(4, s, s), "a branch of nodes by their sums")
	}
	// A sum of 32 bytes that are a node's, too, is no node within.
	s := ofLength(t, 32)
	isAll(t, alone(ext([]byte{1}, s)), "an extension of a sum that is a node's bytes, too")
	two := fork(2, s, leaf(nil, "a"), s)
	isAll(t, shape{two, []string{two, leaf(nil, "a")}}, "a branch of a sum that is a node's bytes, too")
}

func TestAllInOrder(t *testing.T) {
	a, b, c := alone(leaf(nil, "a")), alone(leaf([]byte{1}, "b")), alone(leaf([]byte{1, 2}, "cc"))
	long := alone(ofLength(t, 40))
	x := inExt([]byte{7}, b)
	two := inFork(3, x, a)
	for _, s := range []shape{
		x, two, inExt([]byte{1, 2}, two), inFork(0, a, b, c), inFork(0, c, b, a), inFork(13, b, a, c), inFork(0, a, long, b), inFork(0, long, a), inFork(5, a, a), inFork(0, two, a, x, long, two, inExt(path(3), two)),
		inFork(1, inExt([]byte{1}, inExt([]byte{2}, c)), inExt([]byte{1}, inExt([]byte{2}, b)), a), inExt(path(64), two), inExt(path(60), a),
	} {
		isAll(t, s, "in order")
	}
	own := alone(ofLength(t, 31))
	isAll(t, inExt([]byte{1}, own), "an extension of 31 bytes")
	var l []shape
	for range 16 {
		l = append(l, own)
	}
	isAll(t, inFork(0, l...), "a full branch of 31 bytes each")
	for i := range l {
		l[i] = inExt([]byte{byte(i)}, inFork(i%14, alone(leaf([]byte{byte(i)}, "v")), alone(leaf([]byte{byte(15 - i)}, "w"))))
	}
	full := inFork(0, l...)
	if len(full.all) != 65 {
		t.Fatalf("%d", len(full.all))
	}
	isAll(t, full, "a full branch of forks")
}

func TestAllWithinOneAnother(t *testing.T) {
	s := alone(leaf(nil, "a"))
	for n := range 16 {
		isAll(t, s, "within extensions")
		if want := min(n, 14) + 1; n < 15 && len(s.all) != want {
			t.Fatalf("%d extensions: %d", n, len(s.all))
		}
		s = inExt([]byte{5}, s)
	}
	if len(s.all) != 1 || len(s.enc) != 35 {
		t.Errorf("%d bytes, %d", len(s.enc), len(s.all))
	}
}

// grown is a shape of all kinds of parts, another one of each seed.
func grown(seed *uint32, parts int) shape {
	next := func(n int) int {
		*seed = *seed*1664525 + 1013904223
		return int(*seed>>16) % n
	}
	value := strings.Repeat(string(rune('a'+next(20))), 1+next(2)*next(40))
	switch kind := next(4); {
	case parts == 0 || kind == 0:
		return alone(leaf(path(next(4)), value))
	case kind == 1:
		return inExt(path(1+next(3)), grown(seed, parts-1))
	}
	var l []shape
	for range 2 + next(2)*next(5) {
		l = append(l, grown(seed, parts-1))
	}
	return inFork(next(16-len(l)+1), l...)
}

func TestAllOfManyShapes(t *testing.T) {
	most := 0
	for seed := range uint32(20000) {
		at := seed * 104729
		s := grown(&at, int(seed%6))
		isAll(t, s, "many shapes")
		most = max(most, len(s.all))
	}
	if most < 10 {
		t.Errorf("at most %d within one another", most)
	}
}

func TestAllAreNodesWithinIt(t *testing.T) {
	for seed := range uint32(2000) {
		at := seed*7919 + 1
		s := grown(&at, int(seed%6))
		for i, in := range refs.All(s.enc) {
			if _, e := node.Get(in); e != api.OK || !strings.Contains(s.enc, in) || i > 0 && refs.Kind(in) != 2 {
				t.Errorf("of %x: %x", s.enc, in)
			}
		}
	}
}

// R3 and R4

func TestAnswersHangOnArgumentsAlone(t *testing.T) {
	room := []string{"a", leaf(nil, "a"), sumA, standard(sumA), "b"}
	was := slices.Clone(room)
	refs.Find(standard(sumA), room[:3]...)
	refs.Find("none", room[:3]...)
	refs.Clash(room[:3]...)
	if !slices.Equal(room, was) {
		t.Errorf("what was handed in is another one: %q", room)
	}
	s := inFork(3, inExt([]byte{7}, alone(leaf(nil, "a"))), alone(leaf(nil, "b")))
	got := refs.All(s.enc)
	_ = append(got[:1], "z", "z", "z")
	got[0] = "z"
	isAll(t, s, "again")
	var all sync.WaitGroup
	for range 8 {
		all.Go(func() {
			for range 100 {
				isAll(t, s, "one at a time with others")
			}
		})
	}
	all.Wait()
}
