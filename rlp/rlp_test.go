package rlp_test

import (
	"encoding/binary"
	"math"
	"reflect"
	"slices"
	"strconv"
	"strings"
	"testing"

	"dormouse/api"
	"dormouse/rlp"
)

// text and list are items that are made without the package.
func text(s string) api.Item { return api.Item{S: s} }

func list(l ...api.Item) api.Item { return api.Item{List: true, L: l} }

// ahead is what stands ahead of n bytes, as the chapter's words say: of a text from 128 on, of a list from 192 on.
func ahead(n uint64, from byte) string {
	if n < 56 {
		return string([]byte{from + byte(n)})
	}
	length := strings.TrimLeft(string(binary.BigEndian.AppendUint64(nil, n)), "\x00")
	return string([]byte{from + 55 + byte(len(length))}) + length
}

// laid is an item's bytes, as the chapter's words say, whether it may be or not.
func laid(x api.Item) string {
	if !x.List {
		if len(x.S) == 1 && x.S[0] < 128 {
			return x.S
		}
		return ahead(uint64(len(x.S)), 128) + x.S
	}
	s := ""
	for _, y := range x.L {
		s += laid(y)
	}
	return inList(s)
}

// inList is a list's bytes, of its items' bytes, be they right or wrong.
func inList(s string) string { return ahead(uint64(len(s)), 192) + s }

// inLists has so many lists around bytes.
func inLists(n int, s string) string {
	for range n {
		s = inList(s)
	}
	return s
}

// within has so many lists around an item.
func within(n int, x api.Item) api.Item {
	for range n {
		x = list(x)
	}
	return x
}

// many are so many texts.
func many(n int) []api.Item {
	l := make([]api.Item, n)
	for i := range l {
		l[i] = text(string(rune('a' + i%26)))
	}
	return l
}

// copied is an item that shares no list with x.
func copied(x api.Item) api.Item {
	x.L = slices.Clone(x.L)
	for i := range x.L {
		x.L[i] = copied(x.L[i])
	}
	return x
}

// texts are of all kinds of one byte, and of the lengths at which what stands ahead is another one.
func texts() []string {
	l := []string{"", "ab", "\x00\x00", "\x80\x80", "\xb8\x38", "\xc0\xc1", strings.Repeat("\xff", 55), strings.Repeat("\x00", 56)}
	for b := range 256 {
		l = append(l, string([]byte{byte(b)}))
	}
	for _, n := range []int{2, 3, 54, 55, 56, 57, 127, 128, 183, 192, 247, 254, 255, 256, 257, 65534, 65535, 65536, 65537, 1<<24 - 1, 1 << 24} {
		l = append(l, strings.Repeat("x", n))
	}
	return l
}

// grown is an item of all kinds of shapes, another one of each seed, with at most so many lists within one another.
func grown(seed *uint32, lists int) api.Item {
	next := func(n int) int {
		*seed = *seed*1664525 + 1013904223
		return int(*seed>>16) % n
	}
	if lists == 0 || next(3) == 0 {
		b := make([]byte, []int{0, 1, 1, 2, 5, 55, 56, 60, 256}[next(9)])
		for i := range b {
			b[i] = byte(next(256))
		}
		return text(string(b))
	}
	x := list()
	for range next(6) {
		x.L = append(x.L, grown(seed, lists-1))
	}
	return x
}

// items are such as may be: of each text, alone and in lists, of many shapes, and at the limits.
func items() []api.Item {
	l := []api.Item{list(), list(list()), list(list(), list(list()), list(list(), list(list())))}
	for _, s := range texts() {
		l = append(l, text(s), list(text(s)), list(list(text("a"), text(s)), text("b")))
	}
	for _, n := range []int{1, 2, 54, 55, 56, 57, 254, 255, 256, 257, 4094, 4095} {
		l = append(l, list(many(n)...))
	}
	for n := range 65 {
		l = append(l, within(n, text("a")), within(n, text("")), within(n, list()), within(n, text(strings.Repeat("y", 60))))
	}
	for seed := range uint32(400) {
		s := seed * 7919
		l = append(l, grown(&s, int(seed%7)))
	}
	return append(l, list(within(62, list(many(2)...)), list(many(4000)...)))
}

// isSame holds items against each other, part by part, without the package.
func isSame(a, b api.Item) bool {
	if a.List != b.List || a.S != b.S || len(a.L) != len(b.L) {
		return false
	}
	for i := range a.L {
		if !isSame(a.L[i], b.L[i]) {
			return false
		}
	}
	return true
}

// short is what a test tells of bytes that may be many.
func short(s string) string { return s[:min(len(s), 24)] }

// refuses asks that Get answers an error, and nothing beside it, and Whole likewise.
func refuses(t *testing.T, s string, want api.Errno, what string) {
	t.Helper()
	if x, n, e := rlp.Get(s); e != want || n != 0 || !reflect.DeepEqual(x, api.Item{}) {
		t.Errorf("%s: Get of %x (%d bytes): %v, %d, error %d, not %d", what, short(s), len(s), x, n, int(e), int(want))
	}
	if x, e := rlp.Whole(s); e != want || !reflect.DeepEqual(x, api.Item{}) {
		t.Errorf("%s: Whole of %x (%d bytes): %v, error %d, not %d", what, short(s), len(s), x, int(e), int(want))
	}
}

// doesNotPut asks that Put answers an error, and nothing beside it.
func doesNotPut(t *testing.T, x api.Item, want api.Errno, what string) {
	t.Helper()
	if s, e := rlp.Put(x); e != want || s != "" {
		t.Errorf("%s: Put: %x, error %d, not %d", what, short(s), int(e), int(want))
	}
}

// P5.1

func TestPutOfExamples(t *testing.T) {
	for _, c := range []struct {
		x    api.Item
		want string
	}{
		{list(text("cat"), text("dog")), "\xc8\x83cat\x83dog"},
		{text(""), "\x80"}, {list(), "\xc0"}, {api.Item{List: true, L: []api.Item{}}, "\xc0"}, {api.Item{L: []api.Item{}}, "\x80"},
		{text("a"), "a"}, {text("\x00"), "\x00"}, {text("\x7f"), "\x7f"}, {text("\x80"), "\x81\x80"}, {text("\xff"), "\x81\xff"}, {text("dog"), "\x83dog"},
		{text(strings.Repeat("a", 55)), "\xb7" + strings.Repeat("a", 55)},
		{text(strings.Repeat("a", 56)), "\xb8\x38" + strings.Repeat("a", 56)},
		{text(strings.Repeat("a", 255)), "\xb8\xff" + strings.Repeat("a", 255)},
		{text(strings.Repeat("a", 256)), "\xb9\x01\x00" + strings.Repeat("a", 256)},
		{text(strings.Repeat("a", 1024)), "\xb9\x04\x00" + strings.Repeat("a", 1024)},
		{text(strings.Repeat("a", 0x12345)), "\xba\x01\x23\x45" + strings.Repeat("a", 0x12345)},
		{list(text("")), "\xc1\x80"}, {list(list()), "\xc1\xc0"}, {list(text("a"), text("b")), "\xc2ab"},
		{list(list(), list(list()), list(list(), list(list()))), "\xc7\xc0\xc1\xc0\xc3\xc0\xc1\xc0"},
		{list(text(strings.Repeat("a", 54))), "\xf7\xb6" + strings.Repeat("a", 54)},
		{list(text(strings.Repeat("a", 55))), "\xf8\x38\xb7" + strings.Repeat("a", 55)},
		{list(text(strings.Repeat("a", 253))), "\xf8\xff\xb8\xfd" + strings.Repeat("a", 253)},
		{list(text(strings.Repeat("a", 254))), "\xf9\x01\x00\xb8\xfe" + strings.Repeat("a", 254)},
	} {
		if got, e := rlp.Put(c.x); got != c.want || e != api.OK {
			t.Errorf("%x, error %d, not %x", short(got), int(e), short(c.want))
		}
	}
}

func TestPutOfAllKinds(t *testing.T) {
	for i, x := range items() {
		if got, e := rlp.Put(x); got != laid(x) || e != api.OK {
			t.Errorf("item %d: %x (%d bytes), error %d, not %x (%d bytes)", i, short(got), len(got), int(e), short(laid(x)), len(laid(x)))
		}
	}
}

func TestPutOfLongTextsInManyLists(t *testing.T) {
	l := list()
	for i := range 3 {
		l.L = append(l.L, within(60, text(strings.Repeat(string(rune('a'+i)), 1<<21))))
	}
	if got, e := rlp.Put(l); got != laid(l) || e != api.OK {
		t.Errorf("%x (%d bytes), error %d", short(got), len(got), int(e))
	}
}

func TestTextAndList(t *testing.T) {
	for _, s := range texts() {
		if got := rlp.Text(s); !isSame(got, text(s)) {
			t.Errorf("Text of %x is %v", short(s), got)
		}
	}
	for i, x := range items() {
		if got := rlp.List(x, text("a"), x); !isSame(got, list(x, text("a"), x)) {
			t.Errorf("item %d: List is another one", i)
		}
		if got := rlp.List(x.L...); !isSame(got, list(x.L...)) {
			t.Errorf("item %d: List of what is in it is another one", i)
		}
	}
	for i, got := range []api.Item{rlp.List(), rlp.List(nil...), rlp.List([]api.Item{}...)} {
		if !isSame(got, list()) {
			t.Errorf("List of none (%d) is %v", i, got)
		}
	}
}

func TestListTakesItemsThatMayNotBe(t *testing.T) {
	both := api.Item{List: true, S: "a", L: many(2)}
	hidden := api.Item{S: "b", L: []api.Item{text("c"), both}}
	if got := rlp.List(both, hidden); !isSame(got, list(both, hidden)) {
		t.Errorf("%v", got)
	}
}

func TestListAnswersNewMemory(t *testing.T) {
	deep := list(text("a"), list(text("b"), list(text("c"))))
	hidden := api.Item{S: "d", L: many(2)}
	in := []api.Item{deep, hidden, deep}
	want := copied(list(in...))
	got := rlp.List(in...)
	deep.L[1].L[1].L[0].S, deep.L[1].L[0].S, deep.L[0] = "z", "z", list()
	hidden.L[0].S = "z"
	in[0] = text("z")
	if !isSame(got, want) {
		t.Errorf("what was handed in goes with it: %v", got)
	}
	got.L[0].L[1].L[1].L[0].S, got.L[0].L[0].S = "y", "y"
	if !isSame(got.L[2], want.L[2]) {
		t.Errorf("two lists of it share memory: %v", got.L[2])
	}
	got.L[1].L[1].S = "y"
	if hidden.L[1].S != "b" || !isSame(in[2], list(list(), list(text("z"), list(text("z"))))) {
		t.Errorf("it goes with what was handed in: %v, %v", hidden, in[2])
	}
}

func TestListLeavesSpareRoom(t *testing.T) {
	room := many(8)
	inner := many(8)
	room[0] = api.Item{List: true, L: inner[:2]}
	got := rlp.List(room[:3]...)
	_ = append(got.L, text("z"), text("z"))
	_ = append(got.L[0].L, text("z"), text("z"))
	if !isSame(list(inner...), list(many(8)...)) || !isSame(list(room[1:]...), list(many(8)[1:]...)) {
		t.Errorf("%v, %v", room, inner)
	}
}

// atLimits are items that are too deep or too many, and those that just are not; of each an error, by the order in which items are met.
func atLimits() []struct {
	what string
	x    api.Item
	want api.Errno
} {
	deep := within(65, text("a")) // 65 lists around a text
	return []struct {
		what string
		x    api.Item
		want api.Errno
	}{
		{"64 lists around a text", within(64, text("a")), api.OK},
		{"64 lists around an empty list", within(64, list()), api.OK},
		{"64 lists around texts", within(64, text("")), api.OK},
		{"65 lists around a text", deep, api.ErrDepth},
		{"65 lists around an empty text", within(65, text("")), api.ErrDepth},
		{"65 lists around an empty list", within(65, list()), api.ErrDepth},
		{"66 lists around a text", within(66, text("a")), api.ErrDepth},
		{"1000 lists around a text", within(1000, text("a")), api.ErrDepth},
		{"65 lists around the last one", list(text("a"), list(), within(63, text("b")), within(64, text("c"))), api.ErrDepth},
		{"65 lists around one behind a list", within(64, list(list(), text("c"))), api.ErrDepth},
		{"4096 items", list(many(4095)...), api.OK},
		{"4097 items", list(many(4096)...), api.ErrBig},
		{"10000 items", list(many(9999)...), api.ErrBig},
		{"4096 items in two lists", list(list(many(2000)...), list(many(2093)...)), api.OK},
		{"4097 items in two lists", list(list(many(2000)...), list(many(2094)...)), api.ErrBig},
		{"4096 items, lists too", list(slices.Repeat([]api.Item{list()}, 4095)...), api.OK},
		{"4097 items, lists too", list(slices.Repeat([]api.Item{list()}, 4096)...), api.ErrBig},
		{"4096 items in 64 lists", within(63, list(many(4032)...)), api.OK},
		{"4097 items in 64 lists", within(63, list(many(4033)...)), api.ErrBig},
		{"too deep, then too many", list(append([]api.Item{deep}, many(5000)...)...), api.ErrDepth},
		{"too many, then too deep", list(append(many(4096), deep)...), api.ErrBig},
		{"too deep as the 4097th", list(append(many(4031), within(64, text("a")))...), api.ErrDepth},
		{"the 4097th, then too deep", list(append(many(4032), within(64, text("a")))...), api.ErrBig},
		{"too deep as the 4096th", list(append(many(4030), within(64, text("a")))...), api.ErrDepth},
	}
}

func TestPutAtTheLimits(t *testing.T) {
	for _, c := range atLimits() {
		if c.want != api.OK {
			doesNotPut(t, c.x, c.want, c.what)
		} else if s, e := rlp.Put(c.x); s != laid(c.x) || e != api.OK {
			t.Errorf("%s: %x, error %d", c.what, short(s), int(e))
		}
	}
}

func TestPutOfBoth(t *testing.T) {
	for _, x := range []api.Item{
		{List: true, S: "a"}, {List: true, S: "\x00"}, {List: true, S: "a", L: many(1)}, {List: true, S: "abc", L: []api.Item{list()}},
		{L: many(1)}, {S: "a", L: many(1)}, {S: "abc", L: many(3)}, {L: []api.Item{{}}}, {L: []api.Item{list()}},
	} {
		doesNotPut(t, x, api.ErrForm, "alone")
		doesNotPut(t, list(x), api.ErrForm, "in a list")
		doesNotPut(t, list(text("a"), list(), list(text("b"), x)), api.ErrForm, "behind others")
		doesNotPut(t, list(list(x), text("a")), api.ErrForm, "ahead of others")
		doesNotPut(t, within(64, x), api.ErrForm, "in 64 lists")
		doesNotPut(t, list(append(many(4094), x)...), api.ErrForm, "as the 4096th")
	}
}

func TestPutTellsTheFirstThatIsMet(t *testing.T) {
	both, deep := api.Item{List: true, S: "a"}, within(70, text("a"))
	for _, c := range []struct {
		what string
		x    api.Item
		want api.Errno
	}{
		{"both, then too deep", list(both, deep), api.ErrForm},
		{"too deep, then both", list(deep, both), api.ErrDepth},
		{"both, then too many", list(append([]api.Item{both}, many(5000)...)...), api.ErrForm},
		{"too many, then both", list(append(many(5000), both)...), api.ErrBig},
		{"both as the 4096th of many", list(append(append(many(4094), both), many(10)...)...), api.ErrForm},
		{"both as the 4097th", list(append(many(4095), both)...), api.ErrBig},
		{"both and too deep", within(65, both), api.ErrDepth},
		{"a list that has both, and one too deep within", api.Item{List: true, S: "a", L: []api.Item{deep}}, api.ErrForm},
		{"a text that has both, and one too deep within", api.Item{S: "a", L: []api.Item{deep}}, api.ErrForm},
		{"a list that has both, and too many within", api.Item{List: true, S: "a", L: many(5000)}, api.ErrForm},
		{"a text that has too many within", api.Item{L: many(5000)}, api.ErrForm},
		{"in 64 lists both, and another one within", within(64, api.Item{List: true, S: "a", L: many(1)}), api.ErrForm},
		{"in 65 lists both", within(64, list(text("b"), both)), api.ErrDepth},
	} {
		doesNotPut(t, c.x, c.want, c.what)
	}
}

// TestPutEndsWhereItemsAreManyTimesThere is told items that stand in themselves, or so often that nobody could go through all of them.
func TestPutEndsWhereItemsAreManyTimesThere(t *testing.T) {
	l := make([]api.Item, 2)
	l[0], l[1] = list(l...), list(l...)
	l[0].L, l[1].L = l, l
	doesNotPut(t, list(l...), api.ErrDepth, "in itself")
	x := text("a")
	for range 60 {
		x = list(x, x)
	}
	doesNotPut(t, x, api.ErrBig, "doubled 60 times")
	for range 10 {
		x = list(x, x)
	}
	doesNotPut(t, x, api.ErrDepth, "doubled 70 times")
}

// P5.2

func TestGet(t *testing.T) {
	for i, x := range items() {
		s := laid(x)
		for _, behind := range []string{"", "a", "\x80", "\xff", "\xc1\x81", s[:1]} {
			got, n, e := rlp.Get(s + behind)
			if e != api.OK || n != len(s) || !isSame(got, x) {
				t.Errorf("item %d, %x (%d bytes), %x behind it: %d bytes, error %d", i, short(s), len(s), behind, n, int(e))
			}
		}
		got, e := rlp.Whole(s)
		if e != api.OK || !isSame(got, x) {
			t.Errorf("item %d, %x (%d bytes): Whole: error %d", i, short(s), len(s), int(e))
		}
	}
}

func TestWholeWhereBytesAreLeft(t *testing.T) {
	for i, x := range items() {
		s := laid(x)
		for _, behind := range []string{"a", "\x00", "\x80", "\xc0", "\xff", "\x81a", "\xb8", strings.Repeat("z", 300)} {
			if got, e := rlp.Whole(s + behind); e != api.ErrForm || !reflect.DeepEqual(got, api.Item{}) {
				t.Errorf("item %d, %x behind it: %v, error %d", i, short(behind), got, int(e))
			}
		}
	}
}

func TestGetWhereBytesEnd(t *testing.T) {
	for i, x := range items() {
		s := laid(x)
		for n := range min(len(s), 80) {
			refuses(t, s[:n], api.ErrShort, "the first bytes of item "+strconv.Itoa(i))
			refuses(t, s[:len(s)-1-n], api.ErrShort, "all but the last bytes of item "+strconv.Itoa(i))
		}
	}
	top := strings.Repeat("\xff", 8)
	for _, s := range []string{
		"", "\x81", "\x82a", "\xb7" + strings.Repeat("a", 54), "\xb8", "\xb8\x38", "\xb8\x38" + strings.Repeat("a", 55),
		"\xb9", "\xb9\x01", "\xb9\x01\x00" + strings.Repeat("a", 255), "\xbf" + top[:7], "\xbf" + top, "\xbf" + top + "abc", "\xbf\x80" + top[1:], "\xbf\x7f" + top[1:], "\xbb" + top[:4] + "a",
		"\xc1", "\xc2a", "\xf7" + strings.Repeat("a", 54), "\xf8", "\xf8\x38", "\xf8\x38" + strings.Repeat("a", 55),
		"\xf9\x01", "\xf9\x01\x00" + strings.Repeat("a", 255), "\xff" + top[:7], "\xff" + top, "\xff" + top + "abc", "\xff\x80" + top[1:], "\xff\x80\x00\x00\x00\x00\x00\x00\x00ab",
	} {
		refuses(t, s, api.ErrShort, "cut off")
	}
}

// TestGetWhereAListEndsAheadOfItsItem is told items whose bytes are there, but go on behind their list.
func TestGetWhereAListEndsAheadOfItsItem(t *testing.T) {
	for _, s := range []string{
		"\xc1\x82ab", "\xc1\x81\x80", "\xc2\x82ab", "\xc2a\x81\x80", "\xc3\x83abc", "\xc2a\x83abc", "\xc1\xc1a", "\xc2\xc2ab", "\xc2\xc0\xc1a",
		"\xc1\xb8\x38" + strings.Repeat("a", 56), "\xc2\xb8\x38" + strings.Repeat("a", 56), "\xc2\xb9\x01\x00" + strings.Repeat("a", 256),
		"\xc1\xf8\x38" + strings.Repeat("a", 56), "\xc2\xf8\x38" + strings.Repeat("a", 56), "\xf8\x38a\xb8\x38" + strings.Repeat("a", 56),
		"\xc3\xc2\x82abcde", "\xc3\xc1\x82abcde", "\xc4\xc2a\x81\x80b", "\xc3\xc2\xc2abcde",
		"\xf8\x38" + strings.Repeat("a", 55) + "\x81\x80", "\xf8\x38" + strings.Repeat("a", 55) + "\xb8\x38" + strings.Repeat("a", 56),
	} {
		refuses(t, s, api.ErrShort, "beyond its list")
		refuses(t, inLists(3, s), api.ErrShort, "beyond its list, in lists")
	}
}

func TestGetOfBytesThatCouldBeFewer(t *testing.T) {
	for c := range byte(128) {
		refuses(t, "\x81"+string([]byte{c}), api.ErrForm, "a byte that is a text by itself")
	}
	for n := range byte(56) {
		bytes := strings.Repeat("a", int(n))
		refuses(t, "\xb8"+string([]byte{n})+bytes, api.ErrForm, "a short text")
		refuses(t, "\xf8"+string([]byte{n})+bytes, api.ErrForm, "a short list")
	}
	for _, n := range []uint64{0, 1, 55, 56, 255, 256, 65535, 65536} {
		bytes := strings.Repeat("a", int(n))
		length := strings.TrimLeft(string(binary.BigEndian.AppendUint64(nil, n)), "\x00")
		for wide := len(length) + 1; wide <= 8; wide++ {
			long := strings.Repeat("\x00", wide-len(length)) + length
			refuses(t, string([]byte{183 + byte(wide)})+long+bytes, api.ErrForm, "a text whose length has a 0 ahead")
			refuses(t, string([]byte{247 + byte(wide)})+long+bytes, api.ErrForm, "a list whose length has a 0 ahead")
		}
	}
	for _, s := range []string{"\x81a", "\xb8\x01a", "\xb8\x37" + strings.Repeat("a", 55), "\xb9\x00\x38" + strings.Repeat("a", 56), "\xf8\x00", "\xf8\x02ab"} {
		for n := range 5 {
			refuses(t, inLists(n, s), api.ErrForm, "in lists")
			refuses(t, inLists(n+1, "a\xc0"+s+"b"), api.ErrForm, "in lists, beside others")
		}
	}
}

func TestGetAtTheLimits(t *testing.T) {
	for _, c := range atLimits() {
		s := laid(c.x)
		if c.want != api.OK {
			refuses(t, s, c.want, c.what)
			refuses(t, s+"abc", c.want, c.what+", and bytes behind")
		} else if x, n, e := rlp.Get(s); e != api.OK || n != len(s) || !isSame(x, c.x) {
			t.Errorf("%s: %d bytes, error %d", c.what, n, int(e))
		}
	}
}

func TestGetTellsTheFirstThatIsMet(t *testing.T) {
	deep, full := inLists(70, "a"), strings.Repeat("a", 4095)
	for _, c := range []struct {
		what, s string
		want    api.Errno
	}{
		{"a wrong item, then one too deep", inList("\x81a" + deep), api.ErrForm},
		{"one too deep, then a wrong item", inList(deep + "\x81a"), api.ErrDepth},
		{"an item too short, then one too deep", inList(inList("\x82a") + deep), api.ErrShort},
		{"one too deep, then an item too short", inList(deep + "\x82a"), api.ErrDepth},
		{"a wrong item, then an item too short", inList("\x81a\x82a"), api.ErrForm},
		{"an item too short, then a wrong item", inList(inList("\x82a") + "\x81a"), api.ErrShort},
		{"too deep, and its head is wrong", inLists(65, "\xb8\x01a"), api.ErrDepth},
		{"too deep, and its head is short", inLists(65, "\xb8"), api.ErrDepth},
		{"too deep, and what is in it is wrong", inLists(65, "\x81a"), api.ErrDepth},
		{"too deep, and what is in it is short", inLists(65, "\x82a"), api.ErrDepth},
		{"not too deep, and wrong", inLists(64, "\x81a"), api.ErrForm},
		{"not too deep, and short", inLists(64, "\x82a"), api.ErrShort},
		{"in 64 lists a list, whose length has a 0 ahead, around others", inLists(64, "\xf9\x00\x38"+strings.Repeat("a", 56)), api.ErrForm},
		{"in 64 lists a list that is short, around others", inLists(64, "\xc3ab"), api.ErrShort},
		{"the 4096th is wrong", inList(full[:4094] + "\x81a" + full), api.ErrForm},
		{"the 4096th is short", inList(full[:4094] + "\x82a"), api.ErrShort},
		{"the 4097th has a wrong head", inList(full + "\xb8\x01a"), api.ErrBig},
		{"the 4097th has a short head", inList(full + "\xb8"), api.ErrBig},
		{"the 4097th is wrong", inList(full + "\x81a"), api.ErrBig},
		{"the 4097th is short", inList(full + "\x82a"), api.ErrBig},
		{"a list that is the 4097th is wrong", inList(full + "\xf8\x01a"), api.ErrBig},
		{"a list that is short around one too deep", inList(deep)[:len(deep)], api.ErrShort},
		{"a list that is short around too many", "\xfa\x01\x00\x00" + full + full, api.ErrShort},
		{"a list that is short around a wrong item", "\xc5\x81a", api.ErrShort},
		{"a list that is short around a wrong head", "\xc5\xb8\x01a", api.ErrShort},
		{"a list that has a wrong head around one too deep", "\xf9\x00" + string([]byte{byte(len(deep))}) + deep, api.ErrForm},
		{"a list that has a wrong head around an item too short", "\xf8\x01\x82", api.ErrForm},
		{"a text that has a wrong head, and is short", "\xb8\x02a", api.ErrForm},
		{"a list that has a wrong head, and is short", "\xf8\x02a", api.ErrForm},
		{"a head that has a 0 ahead, and a text that is short", "\xb9\x00\x40a", api.ErrForm},
		{"a head that is short, and has a 0 ahead", "\xb9\x00", api.ErrShort},
		{"a list's head that is short, and has a 0 ahead", "\xfa\x00\x00", api.ErrShort},
		{"an item that goes beyond its list, and wrong bytes behind", inList("\xc1\x82ab") + "\x81a", api.ErrShort},
	} {
		refuses(t, c.s, c.want, c.what)
	}
}

// TestGetOfAllShortBytes is told all bytes up to two, and three of many kinds: what is taken is laid just so.
func TestGetOfAllShortBytes(t *testing.T) {
	check := func(s string) {
		x, n, e := rlp.Get(s)
		y, f := rlp.Whole(s)
		switch {
		case e != api.OK:
			if n != 0 || !reflect.DeepEqual(x, api.Item{}) || f != e || e != api.ErrShort && e != api.ErrForm {
				t.Errorf("%x: %v, %d, errors %d and %d", s, x, n, int(e), int(f))
			}
		case n < 1 || n > len(s) || laid(x) != s[:n]:
			t.Errorf("%x: %v, %d", s, x, n)
		case n < len(s) && f != api.ErrForm || n == len(s) && (f != api.OK || !isSame(x, y)):
			t.Errorf("%x: %d bytes are left, Whole's error is %d", s, len(s)-n, int(f))
		}
	}
	for a := range 256 {
		check(string([]byte{byte(a)}))
		for b := range 256 {
			check(string([]byte{byte(a), byte(b)}))
			for _, c := range "\x00\x01\x37\x38a\x7f" {
				check(string([]byte{byte(a), byte(b), byte(c)}))
			}
			for c := 128; c < 256; c += 7 {
				check(string([]byte{byte(a), byte(b), byte(c)}))
			}
		}
	}
}

// TestGetOfTurnedBytes turns bytes of items that may be: what is taken all the same is laid just so.
func TestGetOfTurnedBytes(t *testing.T) {
	taken, refused := 0, 0
	for seed := range uint32(80) {
		at := seed * 104729
		b := []byte(laid(list(grown(&at, 4), grown(&at, 4))))
		for i := range min(len(b), 60) {
			was := b[i]
			for _, c := range []byte{was + 1, was - 1, was ^ 64, was ^ 128, 0, 0x81, 0xb8, 0xc1, 0xf8, 0xff} {
				b[i] = c
				x, n, e := rlp.Get(string(b))
				if e != api.OK {
					refused++
				} else if taken++; laid(x) != string(b[:n]) {
					t.Fatalf("seed %d, %x at %d: %d bytes", seed, c, i, n)
				}
			}
			b[i] = was
		}
	}
	if taken == 0 || refused == 0 {
		t.Errorf("%d are taken, %d refused", taken, refused)
	}
}

func TestGetAnswersNewMemory(t *testing.T) {
	s := laid(list(text("a"), list(text("b"), text("c"), text("d")), list(text("e")), text("f")))
	want, _, _ := rlp.Get(s)
	x, _, _ := rlp.Get(s)
	y, _ := rlp.Whole(s)
	_ = append(x.L[1].L, text("z"), text("z"))
	_ = append(x.L[1].L[:2], text("z"))
	if !isSame(x.L[2], want.L[2]) || !isSame(x.L[3], want.L[3]) {
		t.Errorf("two lists of it share memory: %v", x)
	}
	x.L[1].L[0], x.L[2].L[0], x.L[0] = text("y"), text("y"), text("y")
	if again, _, _ := rlp.Get(s); !isSame(again, want) || !isSame(y, want) {
		t.Errorf("%v and %v go with %v", again, y, x)
	}
}

// P5.3

func TestHead(t *testing.T) {
	for _, c := range []struct {
		n          int
		text, list string
	}{
		{math.MinInt, "\x80", "\xc0"}, {-1 << 32, "\x80", "\xc0"}, {-56, "\x80", "\xc0"}, {-1, "\x80", "\xc0"},
		{0, "\x80", "\xc0"}, {1, "\x81", "\xc1"}, {2, "\x82", "\xc2"}, {54, "\xb6", "\xf6"}, {55, "\xb7", "\xf7"},
		{56, "\xb8\x38", "\xf8\x38"}, {57, "\xb8\x39", "\xf8\x39"}, {128, "\xb8\x80", "\xf8\x80"}, {255, "\xb8\xff", "\xf8\xff"},
		{256, "\xb9\x01\x00", "\xf9\x01\x00"}, {258, "\xb9\x01\x02", "\xf9\x01\x02"}, {65535, "\xb9\xff\xff", "\xf9\xff\xff"},
		{65536, "\xba\x01\x00\x00", "\xfa\x01\x00\x00"}, {0x123456, "\xba\x12\x34\x56", "\xfa\x12\x34\x56"}, {1<<24 - 1, "\xba\xff\xff\xff", "\xfa\xff\xff\xff"},
		{1 << 24, "\xbb\x01\x00\x00\x00", "\xfb\x01\x00\x00\x00"}, {0x7f345678, "\xbb\x7f\x34\x56\x78", "\xfb\x7f\x34\x56\x78"},
		{1<<32 - 1, "\xbb\xff\xff\xff\xff", "\xfb\xff\xff\xff\xff"}, {1 << 32, "\xbc\x01\x00\x00\x00\x00", "\xfc\x01\x00\x00\x00\x00"},
		{1<<32 + 1, "\xbc\x01\x00\x00\x00\x00", "\xfc\x01\x00\x00\x00\x00"}, {1 << 40, "\xbc\x01\x00\x00\x00\x00", "\xfc\x01\x00\x00\x00\x00"}, {math.MaxInt, "\xbc\x01\x00\x00\x00\x00", "\xfc\x01\x00\x00\x00\x00"},
	} {
		if got := rlp.Head(c.n, false); got != c.text {
			t.Errorf("of a text of %d bytes: %x", c.n, got)
		}
		if got := rlp.Head(c.n, true); got != c.list {
			t.Errorf("of a list of %d bytes: %x", c.n, got)
		}
	}
}

func TestHeadOfManyNumbers(t *testing.T) {
	check := func(n int) {
		if got, want := rlp.Head(n, false), ahead(uint64(n), 128); got != want {
			t.Errorf("of a text of %d bytes: %x, not %x", n, got, want)
		}
		if got, want := rlp.Head(n, true), ahead(uint64(n), 192); got != want {
			t.Errorf("of a list of %d bytes: %x, not %x", n, got, want)
		}
	}
	for n := range 70000 {
		check(n)
	}
	for n := 70000; n <= 1<<32; n += n/11 + 1 {
		check(n)
	}
}

func TestSame(t *testing.T) {
	l := []api.Item{
		text(""), text("a"), text("b"), text("ab"), text("\x00"), text("\xc0"),
		list(), list(text("")), list(list()), list(text("a")), list(text("b")), list(text("a"), text("b")), list(text("b"), text("a")), list(text("ab")),
		list(list(text("a"))), list(list(text("a")), text("b")), list(list(text("a"), text("b"))), list(list(text("a"), list(text("b")))), list(text("a"), list(text("b"))),
		list(text("a"), text("b"), text("")), list(text("a"), text("b"), list()), list(text(""), text("a"), text("b")),
		{List: true, S: "a"}, {List: true, S: "b"}, {List: true, S: "a", L: many(1)}, {S: "a", L: many(1)}, {L: many(1)}, {L: many(2)}, {L: []api.Item{{}}},
		list(api.Item{List: true, S: "a"}), list(api.Item{S: "a", L: many(1)}),
		within(64, text("a")), within(65, text("a")), within(64, list()), within(300, text("a")), within(300, text("b")),
		list(many(5000)...), list(many(5001)...), list(append(many(4999), text("?"))...),
	}
	for i, a := range l {
		for j, b := range l {
			if got := rlp.Same(a, copied(b)); got != (i == j) {
				t.Errorf("of items %d and %d: %t", i, j, got)
			}
		}
	}
}

func TestSameOfNilAndEmpty(t *testing.T) {
	a := list(text("a"), api.Item{L: []api.Item{}}, api.Item{List: true, L: []api.Item{}})
	b := list(text("a"), api.Item{}, api.Item{List: true})
	if !rlp.Same(a, b) || !rlp.Same(b, a) || !rlp.Same(a.L[1], b.L[1]) || !rlp.Same(a.L[2], b.L[2]) {
		t.Error("nil and empty ones are not the same")
	}
}

func TestCount(t *testing.T) {
	for _, c := range []struct {
		x    api.Item
		want int
	}{
		{text(""), 1}, {text("abc"), 1}, {list(), 1}, {list(text("a")), 2}, {list(list()), 2}, {list(text("cat"), text("dog")), 3},
		{list(list(), list(list()), list(list(), list(list()))), 8}, {list(many(4096)...), 4097}, {list(many(100000)...), 100001}, {within(64, text("a")), 65}, {within(1000, list(many(3)...)), 1004},
		{api.Item{L: many(3)}, 4}, {api.Item{S: "a", L: []api.Item{list(many(2)...), {L: many(2)}}}, 7}, {list(api.Item{S: "a", L: many(2)}), 4}, {api.Item{List: true, S: "a", L: many(3)}, 4}, {api.Item{L: []api.Item{}}, 1},
	} {
		if got := rlp.Count(c.x); got != c.want {
			t.Errorf("%d, not %d", got, c.want)
		}
	}
}

// TestOfItemsDeepWithinOneAnother asks at the most parts within one another for which promises are made.
func TestOfItemsDeepWithinOneAnother(t *testing.T) {
	const most = 1 << 16
	a, b, c := within(most, text("a")), within(most, text("a")), within(most, text("b"))
	if got := rlp.Count(a); got != most+1 {
		t.Errorf("Count: %d", got)
	}
	if !rlp.Same(a, b) || rlp.Same(a, c) || rlp.Same(a, a.L[0]) {
		t.Error("Same")
	}
	if got := rlp.List(a.L...); !isSame(got, a) {
		t.Error("List")
	}
	doesNotPut(t, a, api.ErrDepth, "Put")
	deep := "a"
	for len(deep) < most {
		deep = inList(deep)
	}
	refuses(t, deep, api.ErrDepth, "Get")
}

func TestItemsThatAreHandedInAreLeft(t *testing.T) {
	for i, x := range append(items(), api.Item{S: "a", L: []api.Item{list(many(2)...)}}, within(70, text("a")), list(many(5000)...)) {
		was := copied(x)
		rlp.Put(x)
		rlp.Same(x, x)
		rlp.Count(x)
		rlp.List(x, x)
		rlp.List(x.L...)
		if !isSame(x, was) {
			t.Errorf("item %d is another one", i)
		}
	}
}

// P5.4

func TestBack(t *testing.T) {
	for i, x := range items() {
		s, e := rlp.Put(x)
		if e != api.OK {
			t.Errorf("item %d: Put: error %d", i, int(e))
		}
		y, e := rlp.Whole(s)
		if e != api.OK || !isSame(x, y) || !rlp.Same(x, y) {
			t.Errorf("item %d: Whole of Put: another one, or error %d", i, int(e))
		}
		if again, e := rlp.Put(y); e != api.OK || again != s {
			t.Errorf("item %d: Put of Whole: other bytes, or error %d", i, int(e))
		}
	}
}
