package wide_test

import (
	"math"
	"slices"
	"strings"
	"testing"

	"dormouse/api"
	"dormouse/wide"
)

// numbers are those at which a byte more is needed, and those beside them.
func numbers() []uint64 {
	l := []uint64{0, 1, 127, 128, 258, 0x0123456789abcdef, 0xfedcba9876543210}
	for bits := 8; bits < 64; bits += 8 {
		l = append(l, 1<<bits-1, 1<<bits, 1<<bits+1)
	}
	return append(l, 1<<63, math.MaxUint64)
}

// texts are empty ones, short ones, ones that look like lengths, and ones whose length needs a second and a third byte.
func texts() []string {
	return []string{"", "a", "\x00", "\x04\x00\x00\x00", "abc", "\xff\xfe\x80", "naïve ☃",
		strings.Repeat("x", 255), strings.Repeat("y", 256), strings.Repeat("z", 257),
		strings.Repeat("u", api.MaxValue-1), strings.Repeat("v", api.MaxValue), strings.Repeat("w", api.MaxValue+1)}
}

// outOfWidth are widths that no number has.
func outOfWidth() []int {
	return []int{0, -1, -8, 9, 10, 16, 1 << 20, math.MaxInt/2 + 1, math.MinInt, math.MinInt + 1, math.MaxInt}
}

func isDown(t *testing.T, c *wide.Cut, where string) {
	t.Helper()
	if c.Err() != api.ErrShort {
		t.Errorf("%s: Err %d", where, int(c.Err()))
	}
	if c.Rest() != "" {
		t.Errorf("%s: %d bytes are left", where, len(c.Rest()))
	}
}

// staysDown asks all that can be asked of a cut that has failed.
func staysDown(t *testing.T, c *wide.Cut, where string) {
	t.Helper()
	isDown(t, c, where)
	for _, n := range []int{0, 1, 4, 8, -1, 9} {
		if v := c.Num(n); v != 0 {
			t.Errorf("%s: then Num %d is %d", where, n, v)
		}
		if s := c.Take(n); s != "" {
			t.Errorf("%s: then Take %d is %q", where, n, s)
		}
		if s := c.Text(); s != "" {
			t.Errorf("%s: then Text is %q", where, s)
		}
		isDown(t, c, where)
	}
}

// P1.1

func TestNumLaysTheLowestByteFirst(t *testing.T) {
	for _, x := range []struct {
		n     uint64
		bytes int
		want  string
	}{
		{258, 2, "\x02\x01"},
		{0, 1, "\x00"},
		{0, 8, "\x00\x00\x00\x00\x00\x00\x00\x00"},
		{1, 4, "\x01\x00\x00\x00"},
		{0x0807060504030201, 8, "\x01\x02\x03\x04\x05\x06\x07\x08"},
		{math.MaxUint64, 8, "\xff\xff\xff\xff\xff\xff\xff\xff"},
		{1 << 63, 8, "\x00\x00\x00\x00\x00\x00\x00\x80"},
	} {
		if got := wide.Num(x.n, x.bytes); got != x.want {
			t.Errorf("Num(%d, %d) is %q", x.n, x.bytes, got)
		}
	}
}

func TestNumOfAGreaterOneIsItsLowestBytes(t *testing.T) {
	const n, all = 0x0807060504030201, "\x01\x02\x03\x04\x05\x06\x07\x08"
	for bytes := 1; bytes <= 8; bytes++ {
		if got := wide.Num(n, bytes); got != all[:bytes] {
			t.Errorf("Num in %d bytes is %q", bytes, got)
		}
	}
	if got := wide.Num(256, 1); got != "\x00" {
		t.Errorf("Num(256, 1) is %q", got)
	}
}

func TestNumInFewerThanOneByteAndInMoreThanEight(t *testing.T) {
	const n, all = 0x0807060504030201, "\x01\x02\x03\x04\x05\x06\x07\x08"
	for _, bytes := range outOfWidth() {
		want := ""
		if bytes > 8 {
			want = all
		}
		if got := wide.Num(n, bytes); got != want {
			t.Errorf("Num in %d bytes is %q", bytes, got)
		}
	}
}

func TestVal(t *testing.T) {
	for _, x := range []struct {
		s    string
		want uint64
	}{
		{"", 0},
		{"\x00", 0},
		{"\x05", 5},
		{"\xff", 255},
		{"\x02\x01", 258},
		{"\x00\x00\x01", 65536},
		{"\x01\x02\x03\x04\x05\x06\x07", 0x07060504030201},
		{"\x01\x02\x03\x04\x05\x06\x07\x08", 0x0807060504030201},
		{"\x01\x02\x03\x04\x05\x06\x07\x08\x09", 0x0807060504030201},
		{"\xff\xff\xff\xff\xff\xff\xff\xff\xff\xff", math.MaxUint64},
		{"\x00\x00\x00\x00\x00\x00\x00\x80", 1 << 63},
		{"\x07" + strings.Repeat("\x00", 7) + strings.Repeat("\xff", 100), 7},
	} {
		if got := wide.Val(x.s); got != x.want {
			t.Errorf("Val(%q) is %d", x.s, got)
		}
	}
}

func TestTextsLaysEachBehindItsLength(t *testing.T) {
	for _, x := range []struct {
		l    []string
		want string
	}{
		{nil, ""},
		{[]string{}, ""},
		{[]string{""}, "\x00\x00\x00\x00"},
		{[]string{"abc"}, "\x03\x00\x00\x00abc"},
		{[]string{"", "abc"}, "\x00\x00\x00\x00\x03\x00\x00\x00abc"},
		{[]string{"b", "", "a"}, "\x01\x00\x00\x00b\x00\x00\x00\x00\x01\x00\x00\x00a"},
		{[]string{"\xff\x00"}, "\x02\x00\x00\x00\xff\x00"},
		{[]string{"☃"}, "\x03\x00\x00\x00☃"},
		{[]string{strings.Repeat("x", 258)}, "\x02\x01\x00\x00" + strings.Repeat("x", 258)},
		{[]string{strings.Repeat("x", 65536)}, "\x00\x00\x01\x00" + strings.Repeat("x", 65536)},
	} {
		if got := wide.Texts(x.l...); got != x.want {
			t.Errorf("Texts of %d is %q", len(x.l), got[:min(len(got), 40)])
		}
	}
}

func TestTextsWithinTexts(t *testing.T) {
	want := "\x0a\x00\x00\x00\x01\x00\x00\x00a\x01\x00\x00\x00b\x00\x00\x00\x00"
	if got := wide.Texts(wide.Texts("a", "b"), wide.Texts()); got != want {
		t.Errorf("%q", got)
	}
}

func TestTextsLeavesWhatIsHandedIn(t *testing.T) {
	room := []string{"a", "b", "c", "d"}
	wide.Texts(room[:2]...)
	if !slices.Equal(room, []string{"a", "b", "c", "d"}) {
		t.Errorf("%q", room)
	}
}

// P1.2

func TestOnLeavesTheWholeText(t *testing.T) {
	for _, s := range texts() {
		c := wide.On(s)
		for range 3 {
			if c.Rest() != s || c.Err() != api.OK {
				t.Errorf("of %d bytes: %d are left, Err %d", len(s), len(c.Rest()), int(c.Err()))
			}
		}
	}
}

func TestCutTakesOneBehindTheOther(t *testing.T) {
	c := wide.On("\x02\x01\x05ab\x03\x00\x00\x00xyzrest")
	if n := c.Num(2); n != 258 {
		t.Errorf("Num is %d", n)
	}
	if n := c.Num(1); n != 5 {
		t.Errorf("Num is %d", n)
	}
	if s := c.Take(0); s != "" {
		t.Errorf("Take of 0 is %q", s)
	}
	if s := c.Take(2); s != "ab" {
		t.Errorf("Take is %q", s)
	}
	if s := c.Text(); s != "xyz" {
		t.Errorf("Text is %q", s)
	}
	if c.Rest() != "rest" || c.Rest() != "rest" || c.Err() != api.OK {
		t.Errorf("%q is left, Err %d", c.Rest(), int(c.Err()))
	}
	if s := c.Take(4); s != "rest" {
		t.Errorf("what Rest told was taken: Take is %q", s)
	}
	if c.Rest() != "" || c.Err() != api.OK {
		t.Errorf("at the end %q is left, Err %d", c.Rest(), int(c.Err()))
	}
	if s := c.Take(0); s != "" || c.Err() != api.OK {
		t.Errorf("at the end Take of 0 is %q, Err %d", s, int(c.Err()))
	}
	c.Num(1)
	staysDown(t, c, "behind the end")
}

func TestCutOfNumbersOfEachWidth(t *testing.T) {
	const s = "\x01\x02\x03\x04\x05\x06\x07\x08tail"
	for bytes := 1; bytes <= 8; bytes++ {
		c := wide.On(s)
		want := uint64(0x0807060504030201) << (64 - 8*bytes) >> (64 - 8*bytes)
		if n := c.Num(bytes); n != want || c.Rest() != s[bytes:] || c.Err() != api.OK {
			t.Errorf("in %d bytes: %d, %q is left, Err %d", bytes, n, c.Rest(), int(c.Err()))
		}
	}
}

func TestCutOfANumberThatEnds(t *testing.T) {
	for bytes := 1; bytes <= 8; bytes++ {
		for has := range bytes {
			c := wide.On(strings.Repeat("\xff", has))
			if n := c.Num(bytes); n != 0 {
				t.Errorf("%d bytes of %d: %d", has, bytes, n)
			}
			staysDown(t, c, "a number that ends")
		}
	}
}

func TestCutOfANumberOfNoWidth(t *testing.T) {
	for _, s := range []string{"", "\x01", strings.Repeat("\x01", 64)} {
		for _, bytes := range outOfWidth() {
			c := wide.On(s)
			if n := c.Num(bytes); n != 0 {
				t.Errorf("in %d bytes: %d", bytes, n)
			}
			staysDown(t, c, "a number of no width")
		}
	}
}

func TestTakeOfWhatIsNotThere(t *testing.T) {
	for _, s := range []string{"", "abc"} {
		for _, n := range []int{4, 5, math.MaxInt/2 + 1, math.MaxInt, -1, -3, math.MinInt} {
			c := wide.On(s)
			if got := c.Take(n); got != "" {
				t.Errorf("Take of %d is %q", n, got)
			}
			staysDown(t, c, "what is not there")
		}
	}
	c := wide.On("abc")
	c.Take(2)
	if got := c.Take(2); got != "" {
		t.Errorf("Take of more than is left is %q", got)
	}
	staysDown(t, c, "more than is left")
	c = wide.On("abc")
	c.Take(2)
	if got := c.Take(math.MaxInt); got != "" {
		t.Errorf("Take of all numbers there are is %q", got)
	}
	staysDown(t, c, "all numbers there are")
}

func TestTextThatEnds(t *testing.T) {
	for _, s := range []string{
		"", "\x00", "\x00\x00\x00", "\x01\x00\x00\x00", "\x04\x00\x00\x00abc",
		"\x00\x01\x00\x00" + strings.Repeat("x", 255),
		"\x00\x00\x00\x80abc", "\xff\xff\xff\x7fabc", "\xff\xff\xff\xff", "\xff\xff\xff\xffabc",
	} {
		c := wide.On(s)
		if got := c.Text(); got != "" {
			t.Errorf("Text of %q is %q", s, got)
		}
		staysDown(t, c, "a text that ends")
	}
}

func TestEachShorterTextEndsTooEarly(t *testing.T) {
	l := []string{"", "abc", "", "\x00\x00\x00\x00", "de"}
	whole := wide.Texts(l...)
	for n := range len(whole) {
		c := wide.On(whole[:n])
		end := 0
		for i, want := range l {
			end += 4 + len(want)
			if end > n {
				want = ""
			}
			if got := c.Text(); got != want {
				t.Errorf("of %d bytes: text %d is %q", n, i, got)
			}
			if wrong := c.Err() != api.OK; wrong != (end > n) {
				t.Errorf("of %d bytes: behind text %d Err is %d", n, i, int(c.Err()))
			}
		}
		staysDown(t, c, "a shorter text")
	}
}

func TestCutOfNil(t *testing.T) {
	var c *wide.Cut
	for _, n := range []int{0, 1, 4, 8, 9, -1, math.MinInt, math.MaxInt} {
		if c.Num(n) != 0 || c.Take(n) != "" {
			t.Errorf("of nil: Num, Take of %d", n)
		}
	}
	if c.Text() != "" || c.Rest() != "" {
		t.Error("of nil: Text, Rest")
	}
	if c.Err() != api.ErrNil {
		t.Errorf("of nil: Err %d", int(c.Err()))
	}
}

func TestCutsOfOneTextAreApart(t *testing.T) {
	const s = "abcdef"
	a, b := wide.On(s), wide.On(s)
	a.Take(3)
	b.Take(7)
	if a.Rest() != "def" || a.Err() != api.OK {
		t.Errorf("%q is left, Err %d", a.Rest(), int(a.Err()))
	}
	staysDown(t, b, "the other one")
}

// P1.3

func TestNumbersComeBack(t *testing.T) {
	for _, n := range numbers() {
		for bytes := 1; bytes <= 8; bytes++ {
			want := n << (64 - 8*bytes) >> (64 - 8*bytes)
			s := wide.Num(n, bytes)
			if len(s) != bytes || wide.Val(s) != want {
				t.Errorf("%d in %d bytes: Val is %d", n, bytes, wide.Val(s))
			}
			c := wide.On(s)
			if got := c.Num(bytes); got != want || c.Rest() != "" || c.Err() != api.OK {
				t.Errorf("%d in %d bytes: Num is %d, Err %d", n, bytes, got, int(c.Err()))
			}
		}
	}
}

func TestTextsComeBack(t *testing.T) {
	l := texts()
	c := wide.On(wide.Texts(l...))
	for i, want := range l {
		if got := c.Text(); got != want {
			t.Errorf("text %d has %d bytes, not %d", i, len(got), len(want))
		}
	}
	if c.Rest() != "" || c.Err() != api.OK {
		t.Errorf("%d bytes are left, Err %d", len(c.Rest()), int(c.Err()))
	}
}

func TestAllKindsComeBackInOrder(t *testing.T) {
	var laid string
	for i, n := range numbers() {
		s := texts()[i%len(texts())]
		laid += wide.Num(n, i%8+1) + wide.Texts(s) + s
	}
	c := wide.On(laid + "rest")
	for i, n := range numbers() {
		s := texts()[i%len(texts())]
		drop := 64 - 8*(i%8+1)
		if got := c.Num(i%8 + 1); got != n<<drop>>drop {
			t.Errorf("number %d is %d", i, got)
		}
		if got := c.Text(); got != s {
			t.Errorf("text %d has %d bytes, not %d", i, len(got), len(s))
		}
		if got := c.Take(len(s)); got != s {
			t.Errorf("bytes %d are %d, not %d", i, len(got), len(s))
		}
	}
	if c.Rest() != "rest" || c.Err() != api.OK {
		t.Errorf("%d bytes are left, Err %d", len(c.Rest()), int(c.Err()))
	}
}
