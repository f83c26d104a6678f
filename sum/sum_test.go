package sum_test

import (
	"bytes"
	"crypto/sha256"
	"slices"
	"strings"
	"sync"
	"testing"

	"dormouse/api"
	"dormouse/sum"
	"dormouse/wide"
)

// mixed is a text of so many bytes, all in a muddle, that is another one of each seed.
func mixed(n int, seed uint32) string {
	b := make([]byte, n)
	for i := range b {
		seed = seed*1664525 + 1013904223
		b[i] = byte(seed >> 24)
	}
	return string(b)
}

// sums are those of one byte all along, of one byte alone at each place, and of all unlike ones.
func sums() []api.Sum {
	var l []api.Sum
	for b := range 256 {
		var all, one, steps api.Sum
		for i := range all {
			all[i], steps[i] = byte(b), byte(b+i*37)
		}
		one[b%len(one)] = byte(b)
		l = append(l, all, one, steps)
	}
	return l
}

// isStandard holds a text's sum against that of the language's library.
func isStandard(t *testing.T, s, what string) {
	t.Helper()
	if got, want := sum.Of(s), api.Sum(sha256.Sum256([]byte(s))); got != want {
		t.Errorf("of %s, %d bytes: %x, not %x", what, len(s), got, want)
	}
}

// P3.1

func TestOfTheStandardsExamples(t *testing.T) {
	for _, x := range []struct{ s, want string }{
		{"", "e3b0c44298fc1c149afbf4c8996fb92427ae41e4649b934ca495991b7852b855"},
		{"abc", "ba7816bf8f01cfea414140de5dae2223b00361a396177a9cb410ff61f20015ad"},
		{"abcdbcdecdefdefgefghfghighijhijkijkljklmklmnlmnomnopnopq", "248d6a61d20638b8e5c026930c3e6039a33ce45964ff2167f6ecedd419db06c1"},
		{"abcdefghbcdefghicdefghijdefghijkefghijklfghijklmghijklmnhijklmnoijklmnopjklmnopqklmnopqrlmnopqrsmnopqrstnopqrstu", "cf5b16a778af8380036ce59e7b0492370b249b11e8f07a51afac45037afee9d1"},
		{strings.Repeat("a", 1000000), "cdc76e5c9914fb9281a1c7e284d73e67f1809a48a497200e046d39ccc7112cd0"},
		{"\xbd", "68325720aabd7c82f30f554b313d0570c95accbb7dc4b5aae11204c08ffe732b"},
	} {
		if got := sum.Hex(sum.Of(x.s)); got != x.want {
			t.Errorf("of %d bytes: %s", len(x.s), got)
		}
	}
}

func TestOfEachLength(t *testing.T) {
	for n := range 4*64 + 2 {
		for _, s := range []string{strings.Repeat("\x00", n), strings.Repeat("\xff", n), strings.Repeat("\x80", n), mixed(n, uint32(n))} {
			isStandard(t, s, "each length")
		}
	}
}

func TestOfLongTexts(t *testing.T) {
	// The length in bits needs a second, a third and a fourth byte.
	for _, n := range []int{api.MaxValue - 1, api.MaxValue, api.MaxValue + 1, 1<<21 - 1, 1 << 21, 1<<21 + 63, api.MaxText - 9, api.MaxText - 8, api.MaxText, api.MaxText + 1} {
		isStandard(t, mixed(n, 7), "a long text")
	}
}

func TestOfAPieceOfAText(t *testing.T) {
	s := mixed(400, 3)
	for from := range 70 {
		for _, to := range []int{from, from + 1, 128, 192, 311, 400} {
			isStandard(t, s[from:max(from, to)], "a piece")
		}
	}
}

func TestOfHangsOnEachBit(t *testing.T) {
	for _, n := range []int{1, 55, 56, 64, 119, 130} {
		s := mixed(n, 11)
		all := map[api.Sum]bool{sum.Of(s): true}
		for bit := range 8 * n {
			b := []byte(s)
			b[bit/8] ^= 1 << (bit % 8)
			isStandard(t, string(b), "a turned bit")
			all[sum.Of(string(b))] = true
		}
		if len(all) != 8*n+1 {
			t.Errorf("of %d bytes: %d sums", n, len(all))
		}
	}
}

func TestOfTextsThatLookLikeTheEndOfOne(t *testing.T) {
	// What stands behind a text goes by how long it is: no text has the sum of one that has its end laid out already.
	s := "abc"
	padded := s + "\x80" + strings.Repeat("\x00", 59) + "\x18"
	for _, l := range []string{padded, s + "\x80", s + "\x00", padded + padded} {
		if sum.Of(l) == sum.Of(s) {
			t.Errorf("%q has the sum of %q", l, s)
		}
		isStandard(t, l, "a text that is laid out")
	}
}

func TestOfHangsOnTheTextAlone(t *testing.T) {
	want := sum.Of("abc")
	for _, other := range []string{"", "abd", mixed(64, 1), mixed(1000, 2)} {
		sum.Of(other)
		if sum.Of("abc") != want {
			t.Errorf("behind the one of %d bytes it is another", len(other))
		}
	}
	var all sync.WaitGroup
	for i := range 8 {
		all.Go(func() {
			for n := range 200 {
				isStandard(t, mixed(n, uint32(i)), "one at a time with others")
			}
		})
	}
	all.Wait()
}

func TestParts(t *testing.T) {
	for _, x := range []struct {
		l    []string
		laid string
	}{
		{nil, ""},
		{[]string{}, ""},
		{[]string{""}, "\x00\x00\x00\x00"},
		{[]string{"", ""}, "\x00\x00\x00\x00\x00\x00\x00\x00"},
		{[]string{"a"}, "\x01\x00\x00\x00a"},
		{[]string{"abc", "", "de"}, "\x03\x00\x00\x00abc\x00\x00\x00\x00\x02\x00\x00\x00de"},
		{[]string{strings.Repeat("x", 258)}, "\x02\x01\x00\x00" + strings.Repeat("x", 258)},
		{[]string{strings.Repeat("\xff", 65536), "☃"}, "\x00\x00\x01\x00" + strings.Repeat("\xff", 65536) + "\x03\x00\x00\x00☃"},
	} {
		if got := sum.Parts(x.l...); got != sha256.Sum256([]byte(x.laid)) {
			t.Errorf("of %d texts: %x", len(x.l), got)
		}
	}
}

func TestPartsOfManyTexts(t *testing.T) {
	var l []string
	for n := range 300 {
		if got := sum.Parts(l...); got != sum.Of(wide.Texts(l...)) {
			t.Errorf("of %d texts: %x", n, got)
		}
		l = append(l, mixed(n%90, uint32(n)))
	}
}

func TestPartsTellsWhereATextEnds(t *testing.T) {
	all := map[api.Sum]int{}
	for i, l := range [][]string{
		nil, {""}, {"", ""}, {"abc"}, {"ab", "c"}, {"a", "bc"}, {"a", "b", "c"}, {"", "abc"}, {"abc", ""}, {"c", "ab"}, {"bc", "a"},
		{wide.Texts("a", "bc")}, {"\x01\x00\x00\x00a"},
	} {
		x := sum.Parts(l...)
		if was, there := all[x]; there {
			t.Errorf("list %d has the sum of list %d", i, was)
		}
		all[x] = i
	}
	if sum.Parts("abc") == sum.Of("abc") {
		t.Error("a text within a text has the sum of the text")
	}
}

func TestPartsLeavesWhatIsHandedIn(t *testing.T) {
	room := []string{"a", "b", "c", "d"}
	sum.Parts(room[:2]...)
	if !slices.Equal(room, []string{"a", "b", "c", "d"}) {
		t.Errorf("%q", room)
	}
}

// P3.2

func TestHex(t *testing.T) {
	x := api.Sum{0x01, 0x23, 0x45, 0x67, 0x89, 0xab, 0xcd, 0xef, 0x10, 0x0f}
	x[31] = 0xf1
	for _, c := range []struct {
		x    api.Sum
		want string
	}{
		{x, "0123456789abcdef100f" + strings.Repeat("00", 21) + "f1"},
		{api.Sum{}, strings.Repeat("0", 64)},
		{sum.Of("abc"), "ba7816bf8f01cfea414140de5dae2223b00361a396177a9cb410ff61f20015ad"},
	} {
		if got := sum.Hex(c.x); got != c.want {
			t.Errorf("of %x: %s", c.x, got)
		}
		if got, e := sum.Read(c.want); got != c.x || e != api.OK {
			t.Errorf("of %s: %x, %d", c.want, got, int(e))
		}
	}
}

func TestHexTellsTheUpperDigitFirst(t *testing.T) {
	const digits = "0123456789abcdef"
	for _, x := range sums() {
		s := sum.Hex(x)
		if len(s) != 64 {
			t.Fatalf("of %x: %d digits", x, len(s))
		}
		for i, b := range x {
			if s[2*i] != digits[b/16] || s[2*i+1] != digits[b%16] {
				t.Errorf("of %x: at byte %d %s", x, i, s[2*i:2*i+2])
			}
		}
	}
}

func TestSumsComeBackOfTheirHex(t *testing.T) {
	for _, x := range sums() {
		if got, e := sum.Read(sum.Hex(x)); got != x || e != api.OK {
			t.Errorf("%x is %x, %d", x, got, int(e))
		}
	}
}

func isNoHex(t *testing.T, s string) {
	t.Helper()
	if x, e := sum.Read(s); x != (api.Sum{}) || e != api.ErrForm {
		t.Errorf("of %d bytes, %q: %x, %d", len(s), s[:min(len(s), 140)], x, int(e))
	}
}

func TestReadOfOtherThan64Digits(t *testing.T) {
	digits := strings.Repeat("0123456789abcdef", 5)
	for n := range len(digits) + 1 {
		if n != 64 {
			isNoHex(t, digits[:n])
		}
	}
	hex := sum.Hex(sum.Of("abc"))
	for _, s := range []string{hex + hex, hex + " ", " " + hex, hex + "\n", hex + "\x00", hex[1:], hex[:63], "0x" + hex, "0x" + hex[:62], strings.Repeat("0", 1<<20)} {
		isNoHex(t, s)
	}
}

func TestReadOfWhatIsNoDigit(t *testing.T) {
	hex := sum.Hex(sum.Of("abc"))
	for i := range hex {
		for b := range 256 {
			s := hex[:i] + string([]byte{byte(b)}) + hex[i+1:]
			if !strings.Contains("0123456789abcdef", string([]byte{byte(b)})) {
				isNoHex(t, s)
			} else if x, e := sum.Read(s); e != api.OK || sum.Hex(x) != s {
				t.Errorf("of %s: %x, %d", s, x, int(e))
			}
		}
	}
	for _, s := range []string{strings.ToUpper(hex), strings.Repeat("A", 64), strings.Repeat(" ", 64), strings.Repeat("\x00", 64), strings.Repeat("é", 32), hex[:62] + "é", "+" + hex[1:], "-" + hex[1:], hex[:31] + "_" + hex[32:]} {
		isNoHex(t, s)
	}
}

// P3.3

func TestTextIsTheBytes(t *testing.T) {
	for _, x := range sums() {
		s := sum.Text(x)
		if s != string(x[:]) || len(s) != 32 {
			t.Errorf("of %x: %x", x, s)
		}
		if got, e := sum.From(s); got != x || e != api.OK {
			t.Errorf("%x is %x, %d", x, got, int(e))
		}
	}
	if s := sum.Text(sum.Of("")); !strings.HasPrefix(s, "\xe3\xb0\xc4\x42") || !strings.HasSuffix(s, "\x78\x52\xb8\x55") {
		t.Errorf("%x", s)
	}
}

func TestFromOfOtherThan32Bytes(t *testing.T) {
	for n := range 100 {
		for _, s := range []string{strings.Repeat("\x00", n), mixed(n, 5)} {
			x, e := sum.From(s)
			switch {
			case n < 32 && (e != api.ErrShort || x != api.Sum{}),
				n > 32 && (e != api.ErrForm || x != api.Sum{}),
				n == 32 && (e != api.OK || string(x[:]) != s):
				t.Errorf("of %d bytes: %x, %d", n, x, int(e))
			}
		}
	}
	for _, s := range []string{sum.Hex(sum.Of("abc")), mixed(1<<20, 5)} {
		if x, e := sum.From(s); x != (api.Sum{}) || e != api.ErrForm {
			t.Errorf("of %d bytes: %x, %d", len(s), x, int(e))
		}
	}
}

func TestLessAtEachPlace(t *testing.T) {
	base := api.Sum(bytes.Repeat([]byte{0x7f}, 32))
	for i := range base {
		less, more := base, base
		less[i], more[i] = 0x7e, 0x80
		// Whatever stands behind the first that is another one doesn't count.
		for j := i + 1; j < len(base); j++ {
			less[j], more[j] = 0xff, 0
		}
		for _, p := range [][2]api.Sum{{less, base}, {base, more}, {less, more}} {
			if !sum.Less(p[0], p[1]) || sum.Less(p[1], p[0]) {
				t.Errorf("at byte %d: %x and %x", i, p[0], p[1])
			}
		}
	}
}

func TestLessOfEachTwoBytes(t *testing.T) {
	for a := range 256 {
		for b := range 256 {
			var x, y api.Sum
			x[17], y[17] = byte(a), byte(b)
			if got := sum.Less(x, y); got != (a < b) {
				t.Errorf("%d and %d: %t", a, b, got)
			}
		}
	}
}

func TestLessOrdersAsBytesDo(t *testing.T) {
	l := sums()
	for _, x := range l {
		for _, y := range l[:100] {
			if got := sum.Less(x, y); got != (string(x[:]) < string(y[:])) {
				t.Errorf("%x and %x: %t", x, y, got)
			}
		}
		if sum.Less(x, x) {
			t.Errorf("%x is ahead of itself", x)
		}
	}
}
