package wire_test

import (
	"math"
	"math/rand"
	"slices"
	"strings"
	"testing"
	"time"

	"dormouse/api"
	"dormouse/proof"
	"dormouse/rlp"
	"dormouse/tree"
	"dormouse/wire"
)

const (
	mostLinks = 64
	mostBytes = 66000
)

// text and list are bytes as chapter 5 says, without package rlp.
func text(s string) string {
	if len(s) == 1 && s[0] < 128 {
		return s
	}
	return ahead(len(s), 128) + s
}

func list(l ...string) string {
	s := strings.Join(l, "")
	return ahead(len(s), 192) + s
}

func ahead(n, from int) string {
	switch {
	case n < 56:
		return string([]byte{byte(from + n)})
	case n < 256:
		return string([]byte{byte(from + 56), byte(n)})
	case n < 65536:
		return string([]byte{byte(from + 57), byte(n >> 8), byte(n)})
	}
	return string([]byte{byte(from + 58), byte(n >> 16), byte(n >> 8), byte(n)})
}

// number is an epoch's bytes: none of 0, and at most three, as MaxEpoch has.
func number(n int) string {
	all := string([]byte{byte(n >> 16), byte(n >> 8), byte(n)})
	return strings.TrimLeft(all, "\x00")
}

// laid is a witness's bytes, whether it may be or not.
func laid(w api.Witness) string {
	var links []string
	for _, l := range w.Links {
		var texts []string
		for _, s := range l.Proof {
			texts = append(texts, text(s))
		}
		links = append(links, list(text(number(l.Epoch)), list(texts...)))
	}
	return list(text(string(w.Key[:])), list(links...))
}

// mayBe is what the chapter's words say of a witness.
func mayBe(w api.Witness) bool {
	right := len(w.Links) >= 1 && len(w.Links) <= mostLinks
	for i, l := range w.Links {
		right = right && 0 <= l.Epoch && l.Epoch <= 1<<20
		right = right && (i == 0 || l.Epoch-1 == w.Links[i-1].Epoch)
		right = right && len(l.Proof) <= 70
		for _, s := range l.Proof {
			right = right && 1 <= len(s) && len(s) <= mostBytes
		}
	}
	return right
}

// put is what P15.1 says.
func put(w api.Witness) (string, api.Errno) {
	if !mayBe(w) {
		return "", api.ErrArg
	}
	items := 3
	for _, l := range w.Links {
		items += 3 + len(l.Proof)
	}
	s := laid(w)
	if items > api.MaxItems || len(s) > api.MaxText {
		return "", api.ErrBig
	}
	return s, api.OK
}

// get is what P15.2 says, part by part, and without laying anything again.
func get(s string) (api.Witness, api.Errno) {
	if len(s) > api.MaxText {
		return api.Witness{}, api.ErrBig
	}
	x, e := rlp.Whole(s)
	if e != api.OK {
		return api.Witness{}, e
	}
	w, right := of(x)
	if !right || !mayBe(w) {
		return api.Witness{}, api.ErrForm
	}
	return w, api.OK
}

// of tells the witness of an item, if it is one's.
func of(x api.Item) (w api.Witness, right bool) {
	if !x.List || len(x.L) != 2 || x.L[0].List || len(x.L[0].S) != 32 || !x.L[1].List {
		return w, false
	}
	w.Key = api.Key([]byte(x.L[0].S))
	for _, y := range x.L[1].L {
		if !y.List || len(y.L) != 2 || y.L[0].List || !y.L[1].List || len(y.L[0].S) > 3 {
			return w, false
		}
		var l api.Link
		for i, b := range []byte(y.L[0].S) {
			if i == 0 && b == 0 {
				return w, false
			}
			l.Epoch = l.Epoch*256 + int(b)
		}
		for _, z := range y.L[1].L {
			if z.List {
				return w, false
			}
			l.Proof = append(l.Proof, z.S)
		}
		w.Links = append(w.Links, l)
	}
	return w, true
}

// same is whether all parts are the same.
func same(a, b api.Witness) bool {
	if a.Key != b.Key || len(a.Links) != len(b.Links) {
		return false
	}
	for i, l := range a.Links {
		m := b.Links[i]
		if l.Epoch != m.Epoch || len(l.Proof) != len(m.Proof) {
			return false
		}
		for k, s := range l.Proof {
			if s != m.Proof[k] {
				return false
			}
		}
	}
	return true
}

// copied is a witness of memory of its own.
func copied(w api.Witness) api.Witness {
	w.Links = slices.Clone(w.Links)
	for i := range w.Links {
		w.Links[i].Proof = slices.Clone(w.Links[i].Proof)
	}
	return w
}

// key is a key of which each byte is another one.
func key() (k api.Key) {
	for i := range k {
		k[i] = byte(200 + i)
	}
	return k
}

// row is a witness of links from an epoch on, each of the same proof.
func row(from, n int, p ...string) api.Witness {
	w := api.Witness{Key: key()}
	for i := range n {
		w.Links = append(w.Links, api.Link{Epoch: from + i, Proof: slices.Clone(p)})
	}
	return w
}

// many is a proof of n texts.
func many(n int, s string) api.Proof {
	var p api.Proof
	for range n {
		p = append(p, s)
	}
	return p
}

func long(n int) string { return strings.Repeat("n", n) }

// held holds Check and Put of a witness, and Get of its bytes, against the models.
func held(t *testing.T, what string, w api.Witness) {
	t.Helper()
	old := copied(w)
	s, e := put(w)
	check := api.OK
	if !mayBe(w) {
		check = api.ErrArg
	}
	if got := wire.Check(w); got != check {
		t.Errorf("%s: Check: %d, not %d", what, got, check)
	}
	got, f := wire.Put(w)
	if got != s || f != e {
		t.Errorf("%s: Put: %d bytes and %d, not %d and %d", what, len(got), f, len(s), e)
	}
	if !same(w, old) {
		t.Errorf("%s: it was changed", what)
	}
	if e == api.OK {
		if back, f := wire.Get(s); f != api.OK || !same(back, w) {
			t.Errorf("%s: Get of Put: %d", what, f)
		}
	}
}

// heldBytes holds Get of bytes, and Put of what it tells, against the models.
func heldBytes(t *testing.T, what, s string) (read bool) {
	t.Helper()
	w, e := get(s)
	got, f := wire.Get(s)
	if f != e || !same(got, w) {
		t.Errorf("%s: Get: %d, not %d, of %d bytes: % x", what, f, e, len(s), s[:min(len(s), 100)])
	}
	if f != api.OK {
		return false
	}
	if back, f := wire.Put(got); f != api.OK || back != s {
		t.Errorf("%s: Put of Get: %d", what, f)
	}
	return true
}

// TestPutByHand is P15.1's bytes, written down.
func TestPutByHand(t *testing.T) {
	k := "\xa0" + strings.Repeat("\x07", 32)
	var seven api.Key
	for i := range seven {
		seven[i] = 7
	}
	for _, c := range []struct {
		links []api.Link
		want  string
	}{
		{[]api.Link{{Epoch: 0}}, "\xe5" + k + "\xc3" + "\xc2\x80\xc0"},
		{[]api.Link{{Epoch: 1, Proof: api.Proof{"x"}}}, "\xe6" + k + "\xc4" + "\xc3\x01\xc1x"},
		{[]api.Link{{Epoch: 127, Proof: api.Proof{"\x80"}}}, "\xe7" + k + "\xc5" + "\xc4\x7f\xc2\x81\x80"},
		{[]api.Link{{Epoch: 128, Proof: api.Proof{"xy", "z"}}}, "\xea" + k + "\xc8" + "\xc7\x81\x80\xc4\x82xyz"},
		{[]api.Link{{Epoch: 255, Proof: api.Proof{"x", "y"}}, {Epoch: 256, Proof: api.Proof{"\x00"}}},
			"\xee" + k + "\xcc" + "\xc5\x81\xff\xc2xy" + "\xc5\x82\x01\x00\xc1\x00"},
		{[]api.Link{{Epoch: 1 << 20, Proof: api.Proof{"x"}}}, "\xe9" + k + "\xc7" + "\xc6\x83\x10\x00\x00\xc1x"},
		{[]api.Link{{Epoch: 0, Proof: api.Proof{long(56)}}},
			"\xf8\x62" + k + "\xf8\x3f" + "\xf8\x3d\x80\xf8\x3a\xb8\x38" + long(56)},
	} {
		w := api.Witness{Key: seven, Links: c.links}
		if s, e := wire.Put(w); s != c.want || e != api.OK {
			t.Errorf("Put: % x and %d, not % x", s, e, c.want)
		}
		if got, e := wire.Get(c.want); e != api.OK || !same(got, w) {
			t.Errorf("Get of % x: %d", c.want, e)
		}
	}
}

// TestEpochs is P15.1 and P15.4 of epochs at the edges of their bytes, and of all that may be.
func TestEpochs(t *testing.T) {
	for _, n := range []int{math.MinInt, math.MinInt32, -1 << 20, -256, -2, -1, 0, 1, 9, 126, 127, 128, 254, 255, 256, 257, 32767, 32768, 65279, 65280, 65535, 65536, 65537, 1<<20 - 65, 1<<20 - 64, 1<<20 - 63, 1<<20 - 62, 1<<20 - 1, 1 << 20, 1<<20 + 1, 1 << 24, 1<<24 + 5, math.MaxInt32, 1<<32 + 5, math.MaxInt - 63, math.MaxInt - 1, math.MaxInt} {
		for _, links := range []int{1, 2, 3, 63, 64} {
			held(t, "epochs", row(n, links, "x"))
		}
	}
	for n := 0; n <= 1<<20; n += 509 {
		held(t, "an epoch", row(n, 1))
	}
}

// TestCheckEpochs is P15.1 of epochs that do not rise by one each, wherever.
func TestCheckEpochs(t *testing.T) {
	if e := wire.Check(row(1<<20-2, 3)); e != api.OK {
		t.Error(e)
	}
	for _, w := range []api.Witness{row(-1, 1), row(-1, 2), row(1<<20, 2), row(1<<20-2, 4), row(1<<20+1, 1)} {
		if e := wire.Check(w); e != api.ErrArg {
			t.Error(w.Links, e)
		}
	}
	for _, n := range []int{2, 3, 5, 64} {
		for i := range n {
			for _, by := range []int{-1 << 20, -n, -2, -1, 1, 2, n, 1 << 20, math.MinInt, math.MaxInt - 200} {
				w := row(100, n, "x")
				w.Links[i].Epoch += by
				if e := wire.Check(w); e != api.ErrArg {
					t.Errorf("link %d of %d, %d more: %d", i, n, by, e)
				}
				held(t, "one epoch", w)
			}
		}
	}
	turned := row(5, 4, "x")
	slices.Reverse(turned.Links)
	held(t, "falling", turned)
	twos := row(5, 3, "x")
	twos.Links[1].Epoch, twos.Links[2].Epoch = 7, 9
	held(t, "by two", twos)
	held(t, "beyond all numbers", api.Witness{Links: []api.Link{{Epoch: math.MaxInt}, {Epoch: math.MinInt}}})
	held(t, "on to 0", api.Witness{Links: []api.Link{{Epoch: -1}, {Epoch: 0}, {Epoch: 1}}})
}

// TestCheckLinks is P15.1 of how many links there are.
func TestCheckLinks(t *testing.T) {
	for n := range 70 {
		want := api.OK
		if n == 0 || n > 64 {
			want = api.ErrArg
		}
		w := row(3, n, "x", "y")
		if e := wire.Check(w); e != want {
			t.Errorf("%d links: %d", n, e)
		}
		if _, e := wire.Put(w); e != want {
			t.Errorf("Put of %d links: %d", n, e)
		}
		held(t, "links", w)
	}
	held(t, "no list", api.Witness{})
	held(t, "an empty list", api.Witness{Links: []api.Link{}})
	held(t, "very many", row(0, 5000))
	held(t, "very many of one epoch", api.Witness{Links: make([]api.Link, 100000)})
}

// TestCheckProofs is P15.1 of the texts of proofs, in each link.
func TestCheckProofs(t *testing.T) {
	for _, c := range []struct {
		p    api.Proof
		want api.Errno
	}{
		{nil, api.OK},
		{api.Proof{}, api.OK},
		{many(1, "x"), api.OK},
		{many(69, "x"), api.OK},
		{many(70, "x"), api.OK},
		{many(71, "x"), api.ErrArg},
		{many(5000, "x"), api.ErrArg},
		{api.Proof{""}, api.ErrArg},
		{api.Proof{"", "x"}, api.ErrArg},
		{api.Proof{"x", "", "y"}, api.ErrArg},
		{api.Proof{"x", "y", ""}, api.ErrArg},
		{api.Proof{"\x00"}, api.OK},
		{api.Proof{long(65536)}, api.OK},
		{api.Proof{long(65999)}, api.OK},
		{api.Proof{long(66000)}, api.OK},
		{api.Proof{long(66000), "x", long(66000)}, api.OK},
		{api.Proof{long(66001)}, api.ErrArg},
		{api.Proof{"x", long(66001)}, api.ErrArg},
		{api.Proof{long(66001), "x"}, api.ErrArg},
	} {
		for _, n := range []int{1, 2, 3, 64} {
			for _, i := range []int{0, 1, n / 2, n - 1} {
				if i >= n {
					continue
				}
				w := row(9, n)
				w.Links[i].Proof = c.p
				if e := wire.Check(w); e != c.want {
					t.Errorf("link %d of %d, %d texts: %d, not %d", i, n, len(c.p), e, c.want)
				}
				held(t, "a proof", w)
			}
		}
	}
}

// full is a witness of so many items in all.
func full(items int) api.Witness {
	w := row(0, 64)
	left := items - 3 - 3*64
	for i := range w.Links {
		n := min(left, 70)
		w.Links[i].Proof = many(n, "x")
		left -= n
	}
	return w
}

// TestPutItems is P15.1 of how many items there are: MaxItems, and one more.
func TestPutItems(t *testing.T) {
	for _, n := range []int{4094, 4095, 4096, 4097, 4098, 4099, 4200, 3 + 3*64 + 64*70} {
		w := full(n)
		want := api.OK
		if n > 4096 {
			want = api.ErrBig
		}
		if e := wire.Check(w); e != api.OK {
			t.Errorf("Check of %d items: %d", n, e)
		}
		if s, e := wire.Put(w); e != want || (s == "") == (e == api.OK) {
			t.Errorf("%d items: %d bytes and %d", n, len(s), e)
		}
		held(t, "items", w)
		if _, e := wire.Get(laid(w)); e != want {
			t.Errorf("Get of %d items: %d", n, e)
		}
		heldBytes(t, "items", laid(w))
	}
}

// wide is a witness of so many bytes in all.
func wide(t *testing.T, size int) api.Witness {
	t.Helper()
	w := row(0, 64, long(65000))
	w.Links[63].Proof = api.Proof{long(60000), long(10000)}
	last := &w.Links[63].Proof[1]
	*last = long(10000 + size - len(laid(w)))
	if len(laid(w)) != size {
		t.Fatal(len(laid(w)), size)
	}
	return w
}

// TestPutBytes is P15.1 and P15.2 of how many bytes there are: MaxText, and one more.
func TestPutBytes(t *testing.T) {
	for _, n := range []int{-300, -2, -1, 0, 1, 2, 300} {
		w := wide(t, 1<<22+n)
		want := api.OK
		if n > 0 {
			want = api.ErrBig
		}
		if e := wire.Check(w); e != api.OK {
			t.Errorf("Check of %d more: %d", n, e)
		}
		if s, e := wire.Put(w); e != want || (s == "") == (e == api.OK) {
			t.Errorf("%d more: %d bytes and %d", n, len(s), e)
		}
		held(t, "bytes", w)
		if _, e := wire.Get(laid(w)); e != want {
			t.Errorf("Get of %d more: %d", n, e)
		}
		heldBytes(t, "bytes", laid(w))
	}
	texts := row(0, 64, long(65536))
	if s, e := wire.Put(texts); s != "" || e != api.ErrBig {
		t.Error("texts of MaxText bytes:", e)
	}
}

// TestPutOrder is P15.1's order: what may not be is ErrArg, however large it is.
func TestPutOrder(t *testing.T) {
	big := row(0, 64)
	for i := range big.Links {
		big.Links[i].Proof = many(70, long(66000))
	}
	begun := time.Now()
	if s, e := wire.Put(big); s != "" || e != api.ErrBig {
		t.Error("beyond both limits:", e)
	}
	for i := range big.Links {
		old := big.Links[i]
		big.Links[i].Epoch++
		if s, e := wire.Put(big); s != "" || e != api.ErrArg {
			t.Error("an epoch:", e)
		}
		big.Links[i] = old
		big.Links[i].Proof = many(71, long(66000))
		if s, e := wire.Put(big); s != "" || e != api.ErrArg {
			t.Error("71 texts:", e)
		}
		big.Links[i].Proof = append(many(69, long(66000)), "")
		if s, e := wire.Put(big); s != "" || e != api.ErrArg {
			t.Error("an empty text:", e)
		}
		big.Links[i] = old
	}
	big.Links = append(big.Links, api.Link{Epoch: 64})
	if s, e := wire.Put(big); s != "" || e != api.ErrArg {
		t.Error("65 links:", e)
	}
	if d := time.Since(begun); d > time.Minute {
		t.Error("it took", d)
	}
}

// TestGetBig is P15.2's first error: it is told ahead of all others, and of no fewer bytes.
func TestGetBig(t *testing.T) {
	for _, c := range []struct {
		s    string
		want api.Errno
	}{
		{strings.Repeat("\xc0", 1<<22), api.ErrForm},
		{strings.Repeat("\xc0", 1<<22+1), api.ErrBig},
		{strings.Repeat("\xff", 1<<22), api.ErrShort},
		{strings.Repeat("\xff", 1<<22+1), api.ErrBig},
		{strings.Repeat("\x00", 1<<22), api.ErrForm},
		{strings.Repeat("\x00", 1<<22+1), api.ErrBig},
		{text(long(1<<22 - 4)), api.ErrForm},
		{text(long(1<<22 - 3)), api.ErrBig},
		{list(many(4095, "\xc0")...), api.ErrForm},
		{list(many(4096, "\xc0")...), api.ErrBig},
		{laid(row(0, 1, "x")) + long(1<<22), api.ErrBig},
	} {
		if w, e := wire.Get(c.s); e != c.want || !same(w, api.Witness{}) {
			t.Errorf("%d bytes, %q first: %d, not %d", len(c.s), c.s[:1], e, c.want)
		}
		heldBytes(t, "big", c.s)
	}
}

// TestGetItems is P15.2's second error: what rlp.Whole says.
func TestGetItems(t *testing.T) {
	right := laid(row(300, 2, "xy", long(60)))
	for _, c := range []struct {
		s    string
		want api.Errno
	}{
		{"", api.ErrShort},
		{"\xc1", api.ErrShort},
		{"\xa0", api.ErrShort},
		{right[:len(right)-1], api.ErrShort},
		{right + "\x00", api.ErrForm},
		{right + right, api.ErrForm},
		{"\x81\x05", api.ErrForm},
		{"\xb8\x01x", api.ErrForm},
		{strings.Repeat("\xc1", 64) + "\xc0", api.ErrShort},
		{deep(65), api.ErrForm},
		{deep(66), api.ErrDepth},
	} {
		if w, e := wire.Get(c.s); e != c.want || !same(w, api.Witness{}) {
			t.Errorf("% x: %d, not %d", c.s, e, c.want)
		}
		heldBytes(t, "items", c.s)
	}
	for i := range right {
		heldBytes(t, "cut off", right[:i])
		heldBytes(t, "cut off ahead", right[i+1:])
		if _, e := wire.Get(right[:i]); e != api.ErrShort {
			t.Errorf("%d bytes of %d: %d", i, len(right), e)
		}
	}
}

// deep is n lists within one another.
func deep(n int) string {
	s := ""
	for range n {
		s = list(s)
	}
	return s
}

// TestGetForm is P15.2's third error: items that no witness has.
func TestGetForm(t *testing.T) {
	k := text(string(slices.Repeat([]byte{7}, 32)))
	p := list("x")
	link := list("\x05", p)
	if !heldBytes(t, "right", list(k, list(link))) {
		t.Fatal("a right one is not read")
	}
	for what, s := range map[string]string{
		"a text":                      text(long(100)),
		"an empty text":               text(""),
		"one byte":                    "x",
		"a key alone":                 k,
		"an empty list":               list(),
		"a list of a key":             list(k),
		"a list of links":             list(list(link)),
		"links ahead of the key":      list(list(link), k),
		"a part more":                 list(k, list(link), text("")),
		"a list more":                 list(k, list(link), list()),
		"the links twice":             list(k, list(link), list(link)),
		"in a list more":              list(list(k, list(link))),
		"a key of 31 bytes":           list(text(long(31)), list(link)),
		"a key of 33 bytes":           list(text(long(33)), list(link)),
		"an empty key":                list(text(""), list(link)),
		"a key of one byte":           list("k", list(link)),
		"a key of 31 bytes and a 0":   list(text(long(31)), list(link)),
		"a list as key":               list(list(), list(link)),
		"a list of a key as key":      list(list(k), list(link)),
		"a list of 32 bytes as key":   list(list(many(32, "x")...), list(link)),
		"no links":                    list(k, list()),
		"a text as links":             list(k, text("")),
		"a longer text as links":      list(k, text(link)),
		"a link as links":             list(k, link),
		"a text as link":              list(k, list(text(""))),
		"a text behind a link":        list(k, list(link, text(""))),
		"a number as link":            list(k, list("\x05")),
		"an empty link":               list(k, list(list())),
		"a link of an epoch":          list(k, list(list("\x05"))),
		"a link of a proof":           list(k, list(list(p))),
		"a proof ahead of its epoch":  list(k, list(list(p, "\x05"))),
		"an empty one ahead of it":    list(k, list(list(list(), "\x05"))),
		"a link's part more":          list(k, list(list("\x05", p, text("")))),
		"a link's proof twice":        list(k, list(list("\x05", p, p))),
		"a list as epoch":             list(k, list(list(list(), p))),
		"a list of a number as epoch": list(k, list(list(list("\x05"), p))),
		"a text as proof":             list(k, list(list("\x05", "x"))),
		"an empty text as proof":      list(k, list(list("\x05", text("")))),
		"a list in a proof":           list(k, list(list("\x05", list(list())))),
		"a text's list in a proof":    list(k, list(list("\x05", list("x", list("y"))))),
		"a proof in a proof":          list(k, list(list("\x05", list(p)))),
		"an empty text in a proof":    list(k, list(list("\x05", list(text(""))))),
		"an empty text behind one":    list(k, list(list("\x05", list("x", text(""))))),
		"71 texts":                    list(k, list(list("\x05", list(many(71, "x")...)))),
		"a text of 66001 bytes":       list(k, list(list("\x05", list(text(long(66001)))))),
		"the same epoch twice":        list(k, list(link, link)),
		"an epoch left out":           list(k, list(link, list("\x07", p))),
		"an epoch ahead":              list(k, list(link, list("\x04", p))),
		"a bad link behind a right":   list(k, list(link, list("\x06"))),
		"a bad link ahead of a right": list(k, list(list("\x04"), link)),
	} {
		if heldBytes(t, what, s) {
			t.Errorf("%s: it is read", what)
		}
		if _, e := wire.Get(s); e != api.ErrForm {
			t.Errorf("%s: %d", what, e)
		}
	}
}

// TestGetLimits is P15.2 of witnesses that may not be, as bytes, and of those that just may.
func TestGetLimits(t *testing.T) {
	for n := range 70 {
		read := heldBytes(t, "links", laid(row(3, n, "x")))
		if read != (n >= 1 && n <= 64) {
			t.Errorf("%d links: %v", n, read)
		}
		if _, e := wire.Get(laid(row(3, n, "x"))); !read && e != api.ErrForm {
			t.Errorf("%d links: %d", n, e)
		}
	}
	for n := range 75 {
		if read := heldBytes(t, "texts", laid(row(3, 2, many(n, "x")...))); read != (n <= 70) {
			t.Errorf("%d texts: %v", n, read)
		}
	}
	for n := 65990; n <= 66010; n++ {
		if read := heldBytes(t, "long texts", laid(row(3, 2, "x", long(n)))); read != (n <= 66000) {
			t.Errorf("a text of %d bytes: %v", n, read)
		}
	}
	for n := 1<<20 - 70; n <= 1<<20+5; n++ {
		for _, links := range []int{1, 2, 63, 64} {
			if read := heldBytes(t, "epochs", laid(row(n, links, "x"))); read != (n+links-1 <= 1<<20) {
				t.Errorf("%d links from %d on: %v", links, n, read)
			}
		}
	}
}

// TestGetEpochs is P15.2 of an epoch's bytes: the fewest, and no more than may be.
func TestGetEpochs(t *testing.T) {
	k := text(string(slices.Repeat([]byte{7}, 32)))
	for _, c := range []struct {
		s     string
		epoch int // below 0: it is none
	}{
		{"", 0},
		{"\x01", 1},
		{"\x7f", 127},
		{"\x80", 128},
		{"\x01\x02", 258},
		{"\x10\x00\x00", 1 << 20},
		{"\x00", -1},
		{"\x00\x00", -1},
		{"\x00\x05", -1},
		{"\x00\x00\x05", -1},
		{"\x00\x10\x00\x00", -1},
		{"\x10\x00\x01", -1},
		{"\x11\x00\x00", -1},
		{"\xff\xff\xff", -1},
		{"\x01\x00\x00\x00", -1},
		{"\x01\x00\x00\x00\x05", -1},
		{"\xff\xff\xff\xff", -1},
		{"\x7f\xff\xff\xff\xff\xff\xff\xff", -1},
		{"\x80\x00\x00\x00\x00\x00\x00\x05", -1},
		{"\xff\xff\xff\xff\xff\xff\xff\xff", -1},
		{"\x01\x00\x00\x00\x00\x00\x00\x00\x00", -1},
		{"\x01\x00\x00\x00\x00\x00\x00\x00\x05", -1},
		{strings.Repeat("\x00", 32), -1},
		{strings.Repeat("\x00", 50) + "\x05", -1},
		{"\x01" + strings.Repeat("\x00", 1<<21) + "\x05", -1},
		{strings.Repeat("\x00", 1<<21) + "\x05", -1},
	} {
		s := list(k, list(list(text(c.s), list("x"))))
		w, e := wire.Get(s)
		want := api.OK
		if c.epoch < 0 {
			want = api.ErrForm
		}
		if e != want || e == api.OK && w.Links[0].Epoch != c.epoch {
			t.Errorf("% x: %d", c.s[:min(len(c.s), 20)], e)
		}
		heldBytes(t, "an epoch", s)
	}
	for n := range 1 << 16 {
		s := string([]byte{byte(n >> 8), byte(n)})
		heldBytes(t, "two bytes", list(k, list(list(text(s), list()))))
	}
}

// TestGetTurned is P15.2 and P15.4 of each byte of some witnesses' bytes turned into each other one, and of bytes put in and taken out.
func TestGetTurned(t *testing.T) {
	read, none := 0, 0
	for _, w := range []api.Witness{row(0, 1), row(0, 2, "x"), row(126, 3, "ab", "c"), row(255, 2, "", "y"), row(65534, 3, long(56)), row(1<<20-1, 2, "x", "\x80")} {
		s := laid(w)
		for i := range s {
			for b := range 256 {
				for _, turned := range []string{
					s[:i] + string([]byte{byte(b)}) + s[i+1:],
					s[:i] + string([]byte{byte(b)}) + s[i:],
				} {
					if heldBytes(t, "turned", turned) {
						read++
					} else {
						none++
					}
				}
			}
			heldBytes(t, "one less", s[:i]+s[i+1:])
		}
	}
	if read < 1000 || none < 1000 {
		t.Error("too few of a kind:", read, none)
	}
}

// TestGetShort is P15.2 of all bytes up to two.
func TestGetShort(t *testing.T) {
	heldBytes(t, "nothing", "")
	for a := range 256 {
		heldBytes(t, "one byte", string([]byte{byte(a)}))
		for b := range 256 {
			s := string([]byte{byte(a), byte(b)})
			if heldBytes(t, "two bytes", s) {
				t.Errorf("% x is read", s)
			}
		}
	}
}

// TestSame is P15.3's first half: each part counts.
func TestSame(t *testing.T) {
	w := row(7, 3, "a", "b")
	others := []api.Witness{{}, {Key: w.Key}, {Links: w.Links}, row(7, 2, "a", "b"), row(7, 4, "a", "b"), row(7, 3, "a"), row(7, 3, "a", "b", "c"), row(7, 3, "b", "a"), row(7, 3, "ab"), row(7, 3, "a", "b", ""), row(8, 3, "a", "b"), row(7, 3), row(7, 0)}
	for i := range w.Key {
		x := copied(w)
		x.Key[i] ^= 1
		others = append(others, x)
	}
	for i := range w.Links {
		for _, by := range []int{-1, 1, 1 << 20, math.MinInt} {
			x := copied(w)
			x.Links[i].Epoch += by
			others = append(others, x)
		}
		for _, p := range []api.Proof{nil, {"a"}, {"b"}, {"a", "c"}, {"c", "b"}, {"a", "b", "a"}, {"", "b"}, {"a", ""}, {"b", "a"}} {
			x := copied(w)
			x.Links[i].Proof = p
			others = append(others, x)
		}
		x := copied(w)
		x.Links = slices.Delete(x.Links, i, i+1)
		others = append(others, x)
	}
	others = append(others, w)
	for i, x := range others {
		for k, y := range others {
			if got := wire.Same(x, copied(y)); got != same(x, y) {
				t.Errorf("%d and %d: %v", i, k, got)
			}
		}
	}
	if !wire.Same(w, copied(w)) {
		t.Error("a copy is not the same")
	}
}

// TestSameEmpty is P15.3 of lists without an element, and of witnesses that may not be.
func TestSameEmpty(t *testing.T) {
	none := api.Witness{Key: key()}
	empty := api.Witness{Key: key(), Links: []api.Link{}}
	one := api.Witness{Links: []api.Link{{Epoch: 1}}}
	oneEmpty := api.Witness{Links: []api.Link{{Epoch: 1, Proof: api.Proof{}}}}
	odd := api.Witness{Links: []api.Link{{Epoch: -5, Proof: api.Proof{"", ""}}, {Epoch: -5}, {Epoch: math.MaxInt}}}
	if !wire.Same(none, empty) || !wire.Same(empty, none) || !wire.Same(api.Witness{}, api.Witness{}) {
		t.Error("no links")
	}
	if !wire.Same(one, oneEmpty) || !wire.Same(oneEmpty, one) || wire.Same(one, none) || wire.Same(none, one) {
		t.Error("no texts")
	}
	if !wire.Same(odd, copied(odd)) || wire.Same(odd, one) {
		t.Error("one that may not be")
	}
	x := api.Witness{Links: []api.Link{{Epoch: 1, Proof: api.Proof{""}}}}
	if wire.Same(one, x) || wire.Same(x, one) {
		t.Error("an empty text is a text")
	}
}

// TestSize is P15.3's second half.
func TestSize(t *testing.T) {
	for _, c := range []struct {
		w           api.Witness
		texts, size int
	}{
		{api.Witness{}, 0, 0},
		{api.Witness{Links: []api.Link{}}, 0, 0},
		{row(0, 1), 0, 0},
		{row(0, 64), 0, 0},
		{row(0, 1, "ab", "cde"), 2, 5},
		{row(0, 3, "ab", "cde"), 6, 15},
		{row(5, 2, "x", "x", "x"), 6, 6},
		{row(5, 2, "", "x", ""), 6, 2},
		{row(-7, 100, long(66001)), 100, 6600100},
		{row(0, 64, many(70, long(66000))...), 4480, 295680000},
		{row(9, 1, many(5000, "xyz")...), 5000, 15000},
		{api.Witness{Links: []api.Link{{Epoch: 1, Proof: api.Proof{"a"}}, {Epoch: 2}, {Epoch: 3, Proof: api.Proof{"bc", "def"}}}}, 3, 6},
	} {
		if texts, size := wire.Size(c.w); texts != c.texts || size != c.size {
			t.Errorf("%d and %d, not %d and %d", texts, size, c.texts, c.size)
		}
	}
}

// chance makes a witness by chance: most may be.
func chance(r *rand.Rand) api.Witness {
	w := api.Witness{}
	r.Read(w.Key[:])
	n := 1 + r.Intn(6)
	if r.Intn(10) == 0 {
		n = r.Intn(67)
	}
	from := r.Intn(1 << r.Intn(21))
	if r.Intn(10) == 0 {
		from = 1<<20 - r.Intn(n+2)
	}
	for i := range n {
		l := api.Link{Epoch: from + i}
		if r.Intn(400) == 0 {
			l.Epoch += r.Intn(5) - 2
		}
		texts := r.Intn(8)
		if r.Intn(50) == 0 {
			texts = r.Intn(73)
		}
		for range texts {
			l.Proof = append(l.Proof, textByChance(r))
		}
		w.Links = append(w.Links, l)
	}
	return w
}

func textByChance(r *rand.Rand) string {
	n := 1 + r.Intn(3)
	switch r.Intn(200) {
	case 0:
		n = 65990 + r.Intn(14)
	case 1, 2, 3, 4, 5, 6, 7, 8, 9:
		n = 50 + r.Intn(10)
	case 10, 11, 12, 13, 14:
		n = 250 + r.Intn(10)
	case 15:
		n = 0
	}
	b := make([]byte, n)
	r.Read(b)
	return string(b)
}

// TestChance is P15.1, P15.2 and P15.4 of witnesses made by chance.
func TestChance(t *testing.T) {
	r := rand.New(rand.NewSource(15))
	right := 0
	for range 6000 {
		w := chance(r)
		held(t, "by chance", w)
		heldBytes(t, "by chance", laid(w))
		if mayBe(w) {
			right++
		}
	}
	if right < 1000 || right > 5900 {
		t.Error("too few of a kind:", right)
	}
}

// all is an item's bytes: of what items have, one is turned where left comes to 0.
func all(r *rand.Rand, x api.Item, left *int) string {
	*left--
	turn := *left == 0
	var l []string
	for _, y := range x.L {
		l = append(l, all(r, y, left))
	}
	if !turn {
		if x.List {
			return list(l...)
		}
		return text(x.S)
	}
	switch r.Intn(8) {
	case 0:
		return ""
	case 1:
		return text("") + text(x.S)
	case 2:
		return list(list(l...), text(x.S))
	case 3:
		return list(slices.Concat(l, []string{text("")})...)
	case 4:
		return list(slices.Concat([]string{list()}, l)...)
	case 5:
		slices.Reverse(l)
		return list(l...)
	case 6:
		return text(x.S + "\x00")
	}
	return text("\x00" + x.S)
}

// TestGetChance is P15.2 and P15.4 of witnesses' items, of which one is turned by chance.
func TestGetChance(t *testing.T) {
	r := rand.New(rand.NewSource(16))
	read, none := 0, 0
	for range 30000 {
		x, e := rlp.Whole(laid(row(r.Intn(300), 1+r.Intn(3), many(r.Intn(4), textByChance(r))...)))
		if e != api.OK {
			t.Fatal(e)
		}
		left := 1 + r.Intn(rlp.Count(x))
		if heldBytes(t, "an item turned", all(r, x, &left)) {
			read++
		} else {
			none++
		}
	}
	if read < 1000 || none < 1000 {
		t.Error("too few of a kind:", read, none)
	}
}

// TestMemory is R3: what is answered is new memory, of which no two lists share any.
func TestMemory(t *testing.T) {
	s := laid(row(3, 4, "a", "b", "c"))
	w, _ := wire.Get(s)
	x, _ := wire.Get(s)
	for i := range w.Links {
		_ = append(w.Links[i].Proof[:1:1], "z")
		w.Links[i].Proof = append(w.Links[i].Proof, "more")
		w.Links[i].Proof[0] = "other"
		w.Links[i].Epoch = 99
		for k := i + 1; k < len(w.Links); k++ {
			if !slices.Equal(w.Links[k].Proof, []string{"a", "b", "c"}) {
				t.Error("links share their proofs:", i, k)
			}
		}
	}
	w.Key[0]++
	if !same(x, row(3, 4, "a", "b", "c")) {
		t.Error("two answers share memory")
	}
	if y, e := wire.Get(s); e != api.OK || !same(x, y) {
		t.Error("it is not the same again")
	}
}

// TestSpare is R3: the spare room of what is handed in is not changed.
func TestSpare(t *testing.T) {
	room := []api.Link{{Epoch: 3, Proof: api.Proof{"a", "b"}[:1]}, {Epoch: 4}, {Epoch: 77, Proof: api.Proof{"spare"}}}
	w := api.Witness{Key: key(), Links: room[:2]}
	s, e := wire.Put(w)
	wire.Check(w)
	wire.Size(w)
	wire.Same(w, w)
	if e != api.OK || s != laid(w) {
		t.Error(e)
	}
	if room[2].Epoch != 77 || room[2].Proof[0] != "spare" || w.Links[0].Proof[:2][1] != "b" {
		t.Error("spare room was changed")
	}
	w.Links[0].Proof[0] = "z"
	if x, e := wire.Get(s); e != api.OK || x.Links[0].Proof[0] != "a" {
		t.Error("the bytes hang on what was handed in")
	}
}

// TestProofs is P15.4 of witnesses of real proofs: the key has a value in the first tree, and none in the others.
func TestProofs(t *testing.T) {
	r := rand.New(rand.NewSource(17))
	for n := range 40 {
		w := api.Witness{Key: key()}
		for i := range 1 + r.Intn(64) {
			var pairs []api.Pair
			for range r.Intn(1 + n) {
				p := api.Pair{Value: long(1 + r.Intn(200))}
				r.Read(p.Key[:])
				if r.Intn(2) == 0 {
					copy(p.Key[:], w.Key[:r.Intn(32)])
				}
				pairs = append(pairs, p)
			}
			if i == 0 {
				pairs = append(pairs, api.Pair{Key: w.Key, Value: long(r.Intn(65536) + 1)})
			}
			p, e := proof.Of(tree.Of(pairs...), w.Key)
			if e != api.OK {
				t.Fatal(e)
			}
			w.Links = append(w.Links, api.Link{Epoch: n + i, Proof: p})
		}
		held(t, "proofs", w)
		if s, e := wire.Put(w); e != api.OK || !heldBytes(t, "proofs", s) {
			t.Error(n, e)
		}
	}
}

// FuzzGet holds Get of any bytes, and Put of what it tells, against the models.
func FuzzGet(f *testing.F) {
	for _, w := range []api.Witness{row(0, 1), row(0, 2, "x"), row(255, 3, "ab", "c"), row(65534, 3, long(60))} {
		f.Add(laid(w))
	}
	f.Fuzz(func(t *testing.T, s string) { heldBytes(t, "fuzz", s) })
}
