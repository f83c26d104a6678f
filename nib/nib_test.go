package nib_test

import (
	"bytes"
	"slices"
	"strings"
	"testing"

	"dormouse/api"
	"dormouse/nib"
)

// keys are such that each byte, and each place of it, comes in: of one byte all along, of one byte alone, and of all unlike ones.
func keys() []api.Key {
	var l []api.Key
	for b := range 256 {
		var all, one, steps api.Key
		for i := range all {
			all[i], steps[i] = byte(b), byte(b+i*37)
		}
		one[b%api.KeySize] = byte(b)
		l = append(l, all, one, steps)
	}
	return l
}

// path is one of so many nibbles, in which neighbours are unlike, and each nibble comes in.
func path(n, from int) []byte {
	p := make([]byte, n)
	for i := range p {
		p[i] = byte((from + i*7) % 16)
	}
	return p
}

// paths are of each length that may be, with the lowest nibbles alone, the highest ones alone, and all.
func paths() [][]byte {
	var l [][]byte
	for n := range api.Nibbles + 1 {
		l = append(l, make([]byte, n), bytes.Repeat([]byte{15}, n))
		for from := range 16 {
			l = append(l, path(n, from))
		}
	}
	return l
}

// wrong are lists of bytes that are no path: at each place of some lengths a byte that is no nibble.
func wrong() [][]byte {
	var l [][]byte
	for _, n := range []int{1, 2, 3, 4, 63, 64} {
		for i := range n {
			for _, b := range []byte{16, 17, 0x1f, 0x80, 0xf0, 255} {
				p := path(n, i)
				p[i] = b
				l = append(l, p)
			}
		}
	}
	return l
}

// roomy is a path with spare room behind it, and all of that room.
func roomy(p []byte) (short, all []byte) {
	all = append(slices.Clone(p), bytes.Repeat([]byte{0xee}, 80)...)
	return all[:len(p)], all
}

// P2.1

func TestPathOfAKey(t *testing.T) {
	var k api.Key
	k[0], k[1], k[31] = 0xab, 0x0f, 0xf1
	want := make([]byte, 64)
	want[0], want[1], want[3], want[62], want[63] = 10, 11, 15, 15, 1
	if got := nib.Path(k); !bytes.Equal(got, want) {
		t.Errorf("%v", got)
	}
}

func TestPathTellsTheUpperBitsFirst(t *testing.T) {
	for _, k := range keys() {
		p := nib.Path(k)
		if len(p) != 64 {
			t.Fatalf("of %x: %d nibbles", k, len(p))
		}
		for i, b := range k {
			if p[2*i] != b/16 || p[2*i+1] != b%16 {
				t.Errorf("of %x: at byte %d %d, %d", k, i, p[2*i], p[2*i+1])
			}
		}
	}
}

func TestPathIsNewEachTime(t *testing.T) {
	k := keys()[100]
	a, b := nib.Path(k), nib.Path(k)
	a[0]++
	if bytes.Equal(a, b) || !bytes.Equal(b, nib.Path(k)) {
		t.Error("two paths of a key share what they have")
	}
}

func TestRight(t *testing.T) {
	for _, p := range append(paths(), nil, []byte{}, path(65, 0), path(1000, 3)) {
		if !nib.Right(p) {
			t.Errorf("%v is a path", p)
		}
	}
	for b := range 256 {
		if got := nib.Right([]byte{0, byte(b), 15}); got != (b < 16) {
			t.Errorf("with byte %d: %t", b, got)
		}
	}
	for _, p := range append(wrong(), append(path(1000, 0), 16)) {
		if nib.Right(p) {
			t.Errorf("%v is no path", p)
		}
	}
}

func TestKeyOfAPath(t *testing.T) {
	p := make([]byte, 64)
	p[0], p[1], p[3], p[62], p[63] = 10, 11, 15, 15, 1
	var want api.Key
	want[0], want[1], want[31] = 0xab, 0x0f, 0xf1
	if k, e := nib.Key(p); k != want || e != api.OK {
		t.Errorf("%x, %d", k, int(e))
	}
}

func TestKeyOfOtherThan64Nibbles(t *testing.T) {
	for _, n := range []int{0, 1, 2, 31, 32, 33, 62, 63, 65, 66, 128, 4096} {
		if k, e := nib.Key(path(n, 5)); k != (api.Key{}) || e != api.ErrArg {
			t.Errorf("of %d nibbles: %x, %d", n, k, int(e))
		}
	}
	if k, e := nib.Key(nil); k != (api.Key{}) || e != api.ErrArg {
		t.Errorf("of nil: %x, %d", k, int(e))
	}
}

func TestKeyOfWhatIsNoPath(t *testing.T) {
	for i := range 64 {
		for _, b := range []byte{16, 17, 0x80, 255} {
			p := path(64, 5)
			p[i] = b
			if k, e := nib.Key(p); k != (api.Key{}) || e != api.ErrArg {
				t.Errorf("with byte %d at %d: %x, %d", b, i, k, int(e))
			}
		}
	}
}

func TestKeyLeavesThePath(t *testing.T) {
	p, all := roomy(path(64, 9))
	was := slices.Clone(all)
	k, _ := nib.Key(p)
	if !bytes.Equal(all, was) {
		t.Errorf("%v", all)
	}
	p[0]++
	if again, _ := nib.Key(path(64, 9)); k != again {
		t.Error("the key goes with the path")
	}
}

// P2.2

func TestPack(t *testing.T) {
	for _, x := range []struct {
		p    []byte
		leaf bool
		want string
	}{
		{[]byte{1, 2, 3}, true, "\x31\x23"},
		{[]byte{1, 2, 3}, false, "\x11\x23"},
		{nil, false, "\x00"},
		{nil, true, "\x20"},
		{[]byte{}, true, "\x20"},
		{[]byte{0}, false, "\x10"},
		{[]byte{15}, true, "\x3f"},
		{[]byte{0, 0}, false, "\x00\x00"},
		{[]byte{15, 14}, false, "\x00\xfe"},
		{[]byte{15, 14}, true, "\x20\xfe"},
		{[]byte{1, 2, 3, 4, 5}, false, "\x11\x23\x45"},
		{[]byte{0, 1, 2, 3, 4, 5}, false, "\x00\x01\x23\x45"},
		{[]byte{0, 15, 1, 12, 11, 8}, true, "\x20\x0f\x1c\xb8"},
		{[]byte{15, 1, 12, 11, 8}, true, "\x3f\x1c\xb8"},
		{make([]byte, 64), true, "\x20" + strings.Repeat("\x00", 32)},
		{bytes.Repeat([]byte{15}, 63), true, "\x3f" + strings.Repeat("\xff", 31)},
		{bytes.Repeat([]byte{15}, 64), false, "\x00" + strings.Repeat("\xff", 32)},
	} {
		if got, e := nib.Pack(x.p, x.leaf); got != x.want || e != api.OK {
			t.Errorf("Pack of %v, %t is %x, %d", x.p, x.leaf, got, int(e))
		}
	}
}

func TestPackOfAllLengths(t *testing.T) {
	for _, p := range paths() {
		for _, leaf := range []bool{false, true} {
			// The text's digits, two of each byte, told without what is tried here.
			want := map[bool]string{false: "0", true: "2"}[leaf] + "0"
			if len(p)%2 == 1 {
				want = map[bool]string{false: "1", true: "3"}[leaf]
			}
			for _, n := range p {
				want += string("0123456789abcdef"[n])
			}
			s, e := nib.Pack(p, leaf)
			got := ""
			for i := range len(s) {
				got += string("0123456789abcdef"[s[i]/16]) + string("0123456789abcdef"[s[i]%16])
			}
			if got != want || e != api.OK {
				t.Errorf("Pack of %v, %t is %s, %d", p, leaf, got, int(e))
			}
		}
	}
}

func TestPackOfWhatMayNotBe(t *testing.T) {
	for _, leaf := range []bool{false, true} {
		for _, p := range wrong() {
			if s, e := nib.Pack(p, leaf); s != "" || e != api.ErrArg {
				t.Errorf("Pack of %v is %x, %d", p, s, int(e))
			}
		}
		for _, n := range []int{65, 66, 67, 128, 1 << 20} {
			if s, e := nib.Pack(path(n, 1), leaf); s != "" || e != api.ErrArg {
				t.Errorf("Pack of %d nibbles has %d bytes, %d", n, len(s), int(e))
			}
		}
	}
}

func TestPackLeavesThePath(t *testing.T) {
	for n := range api.Nibbles + 1 {
		p, all := roomy(bytes.Repeat([]byte{9}, n))
		was := slices.Clone(all)
		for _, leaf := range []bool{false, true} {
			nib.Pack(p, leaf)
			if !bytes.Equal(all, was) {
				t.Errorf("of %d nibbles: %v", n, all)
			}
		}
	}
}

func TestUnpack(t *testing.T) {
	for _, x := range []struct {
		s    string
		p    []byte
		leaf bool
	}{
		{"\x31\x23", []byte{1, 2, 3}, true},
		{"\x11\x23", []byte{1, 2, 3}, false},
		{"\x00", nil, false},
		{"\x20", nil, true},
		{"\x10", []byte{0}, false},
		{"\x3f", []byte{15}, true},
		{"\x00\xfe", []byte{15, 14}, false},
		{"\x20\xfe", []byte{15, 14}, true},
		{"\x00\x00", []byte{0, 0}, false},
		{"\x20" + strings.Repeat("\x12", 32), bytes.Repeat([]byte{1, 2}, 32), true},
		{"\x11" + strings.Repeat("\x21", 31), append(bytes.Repeat([]byte{1, 2}, 31), 1), false},
	} {
		p, leaf, e := nib.Unpack(x.s)
		if !bytes.Equal(p, x.p) || leaf != x.leaf || e != api.OK {
			t.Errorf("Unpack of %x is %v, %t, %d", x.s, p, leaf, int(e))
		}
	}
}

func isRefused(t *testing.T, s string, want api.Errno) {
	t.Helper()
	p, leaf, e := nib.Unpack(s)
	if len(p) != 0 || leaf || e != want {
		t.Errorf("Unpack of %x, %d bytes, is %v, %t, %d", s[:min(len(s), 40)], len(s), p, leaf, int(e))
	}
}

func TestUnpackOfNothing(t *testing.T) {
	isRefused(t, "", api.ErrShort)
}

func TestUnpackOfEachFirstByte(t *testing.T) {
	for first := range 256 {
		for _, tail := range []string{"", "\x00", "\xab", strings.Repeat("\xff", 31)} {
			s := string([]byte{byte(first)}) + tail
			mark, low := first/16, byte(first%16)
			if mark > 3 || mark%2 == 0 && low != 0 {
				isRefused(t, s, api.ErrForm)
				continue
			}
			var want []byte
			if mark%2 == 1 {
				want = append(want, low)
			}
			for i := range len(tail) {
				want = append(want, tail[i]/16, tail[i]%16)
			}
			p, leaf, e := nib.Unpack(s)
			if !bytes.Equal(p, want) || leaf != (mark > 1) || e != api.OK {
				t.Errorf("Unpack of %x is %v, %t, %d", s, p, leaf, int(e))
			}
		}
	}
}

func TestUnpackOfMoreThan64Nibbles(t *testing.T) {
	for _, x := range []struct {
		first string
		most  int // bytes behind the first one that may be
	}{{"\x00", 32}, {"\x20", 32}, {"\x15", 31}, {"\x35", 31}} {
		for _, n := range []int{30, 31, 32, 33, 34, 64, 1 << 20} {
			s := x.first + strings.Repeat("\x12", n)
			if n > x.most {
				isRefused(t, s, api.ErrForm)
			} else if p, _, e := nib.Unpack(s); e != api.OK || len(p) != 2*n+int(x.first[0]/16%2) {
				t.Errorf("%x and %d bytes: %d nibbles, %d", x.first, n, len(p), int(e))
			}
		}
	}
}

func TestUnpackIsNewEachTime(t *testing.T) {
	const s = "\x31\x23\x45"
	a, _, _ := nib.Unpack(s)
	b, _, _ := nib.Unpack(s)
	a[0] = 9
	_ = append(a, 9)
	if !bytes.Equal(b, []byte{1, 2, 3, 4, 5}) {
		t.Errorf("%v", b)
	}
	if c, _, _ := nib.Unpack(s); !bytes.Equal(c, b) {
		t.Errorf("%v", c)
	}
}

// P2.3

func TestCommon(t *testing.T) {
	for _, x := range []struct {
		a, b []byte
		want int
	}{
		{nil, nil, 0},
		{nil, []byte{0}, 0},
		{[]byte{}, nil, 0},
		{[]byte{1}, []byte{1}, 1},
		{[]byte{1}, []byte{2}, 0},
		{[]byte{0}, []byte{0, 0}, 1},
		{[]byte{1, 2, 3}, []byte{1, 2, 4}, 2},
		{[]byte{1, 2, 3}, []byte{1, 2, 3}, 3},
		{[]byte{1, 2, 3}, []byte{1, 2, 3, 4}, 3},
		{[]byte{1, 2, 3}, []byte{1, 9, 3}, 1},
		{[]byte{9, 2, 3}, []byte{1, 2, 3}, 0},
		{[]byte{255, 200, 16}, []byte{255, 200, 17}, 2},
	} {
		if got := nib.Common(x.a, x.b); got != x.want {
			t.Errorf("%v and %v: %d", x.a, x.b, got)
		}
		if got := nib.Common(x.b, x.a); got != x.want {
			t.Errorf("%v and %v: %d", x.b, x.a, got)
		}
	}
}

func TestCommonEndsWhereTheyAreUnlike(t *testing.T) {
	a := path(64, 2)
	for i := range a {
		b := slices.Clone(a)
		b[i] ^= 1
		if got := nib.Common(a, b); got != i {
			t.Errorf("unlike at %d: %d", i, got)
		}
		if got := nib.Common(a, a[:i]); got != i {
			t.Errorf("of %d nibbles: %d", i, got)
		}
	}
	if got := nib.Common(a, a); got != 64 {
		t.Errorf("with itself: %d", got)
	}
}

func TestJoin(t *testing.T) {
	for _, x := range []struct {
		parts [][]byte
		want  []byte
	}{
		{nil, nil},
		{[][]byte{nil}, nil},
		{[][]byte{{}, nil, {}}, nil},
		{[][]byte{{1, 2}}, []byte{1, 2}},
		{[][]byte{{1}, {2, 3}}, []byte{1, 2, 3}},
		{[][]byte{{3, 2}, nil, {1}, {}, {0, 15}}, []byte{3, 2, 1, 0, 15}},
		{[][]byte{nil, {7}}, []byte{7}},
		{[][]byte{{16, 255}, {128}}, []byte{16, 255, 128}},
		{[][]byte{path(64, 0), path(64, 3), path(1, 1)}, []byte(string(path(64, 0)) + string(path(64, 3)) + string(path(1, 1)))},
	} {
		if got := nib.Join(x.parts...); !bytes.Equal(got, x.want) {
			t.Errorf("%v: %v", x.parts, got)
		}
	}
}

func TestJoinIsNewAndLeavesItsParts(t *testing.T) {
	for _, n := range []int{0, 1, 2, 3, 64} {
		for _, others := range [][][]byte{{}, {nil}, {{5}}, {{5, 6}, {7}}} {
			p, all := roomy(path(n, 4))
			was := slices.Clone(all)
			for _, parts := range [][][]byte{append([][]byte{p}, others...), append([][]byte{nil}, append(others, p)...)} {
				got := nib.Join(parts...)
				_ = append(got, 1, 2, 3)
				for i := range got {
					got[i] = 0xaa
				}
				if !bytes.Equal(all, was) {
					t.Errorf("%d nibbles and %v: %v", n, others, all)
				}
			}
		}
	}
}

func TestJoinLeavesTheListOfParts(t *testing.T) {
	list := [][]byte{{1}, {2}, {3}}
	nib.Join(list[:2]...)
	if !slices.EqualFunc(list, [][]byte{{1}, {2}, {3}}, bytes.Equal) {
		t.Errorf("%v", list)
	}
}

func TestText(t *testing.T) {
	for _, x := range []struct {
		p    []byte
		want string
	}{
		{nil, ""},
		{[]byte{}, ""},
		{[]byte{0}, "0"},
		{[]byte{0, 1, 2, 3, 4, 5, 6, 7, 8, 9, 10, 11, 12, 13, 14, 15}, "0123456789abcdef"},
		{[]byte{15, 16, 0}, "f?0"},
		{[]byte{'0', 'a', 'F', 255, 128, 17}, "??????"},
		{path(64, 0), "07e5c3a18f6d4b29" + "07e5c3a18f6d4b29" + "07e5c3a18f6d4b29" + "07e5c3a18f6d4b29"},
		{make([]byte, 100), strings.Repeat("0", 100)},
	} {
		if got := nib.Text(x.p); got != x.want {
			t.Errorf("%v: %q", x.p, got)
		}
	}
	for b := 16; b < 256; b++ {
		if got := nib.Text([]byte{1, byte(b), 2}); got != "1?2" {
			t.Errorf("with byte %d: %q", b, got)
		}
	}
}

func TestLess(t *testing.T) {
	// Rising, each ahead of all behind it.
	l := [][]byte{nil, {0}, {0, 0}, {0, 0, 1}, {0, 15}, {1}, {1, 0}, {1, 0, 0}, {1, 2, 3}, {1, 2, 4}, {1, 3}, {2}, {9, 15, 15}, {10}, {15}, {15, 15}, {16}, {127}, {128}, {255}, {255, 0}, {255, 255}}
	for i, a := range l {
		for j, b := range l {
			if got := nib.Less(a, b); got != (i < j) {
				t.Errorf("%v and %v: %t", a, b, got)
			}
		}
	}
	if nib.Less(nil, []byte{}) || nib.Less([]byte{}, nil) {
		t.Error("nothing is ahead of nothing")
	}
}

func TestLessAtEachPlace(t *testing.T) {
	a := bytes.Repeat([]byte{7}, 64)
	for i := range a {
		b := slices.Clone(a)
		b[i]++
		if !nib.Less(a, b) || nib.Less(b, a) {
			t.Errorf("greater at %d", i)
		}
		if !nib.Less(a[:i], a) || nib.Less(a, a[:i]) {
			t.Errorf("a beginning of %d nibbles", i)
		}
	}
}

func TestAskingLeavesWhatIsHandedIn(t *testing.T) {
	p, all := roomy(path(64, 1))
	q, more := roomy(path(63, 1))
	was, wasMore := slices.Clone(all), slices.Clone(more)
	nib.Right(p)
	nib.Common(p, q)
	nib.Text(p)
	nib.Less(p, q)
	if !bytes.Equal(all, was) || !bytes.Equal(more, wasMore) {
		t.Error("a path was changed")
	}
}

// P2.4

func TestKeysComeBack(t *testing.T) {
	for _, k := range keys() {
		p := nib.Path(k)
		if got, e := nib.Key(p); got != k || e != api.OK {
			t.Errorf("%x is %x, %d", k, got, int(e))
		}
		if !nib.Right(p) {
			t.Errorf("of %x: no path", k)
		}
	}
}

func TestPathsComeBack(t *testing.T) {
	for _, p := range paths() {
		if len(p) == api.Nibbles {
			if k, e := nib.Key(p); e != api.OK || !bytes.Equal(nib.Path(k), p) {
				t.Errorf("%v is %v, %d", p, nib.Path(k), int(e))
			}
		}
		for _, leaf := range []bool{false, true} {
			s, e := nib.Pack(p, leaf)
			if e != api.OK {
				t.Errorf("Pack of %v: %d", p, int(e))
			}
			got, was, e := nib.Unpack(s)
			if !bytes.Equal(got, p) || was != leaf || e != api.OK {
				t.Errorf("%v, %t is %v, %t, %d", p, leaf, got, was, int(e))
			}
		}
	}
}

func TestNoTwoTextsAreOfOnePath(t *testing.T) {
	for first := range 256 {
		for second := range 256 {
			s := string([]byte{byte(first), byte(second)})
			p, leaf, e := nib.Unpack(s)
			if e != api.OK {
				continue
			}
			if again, e := nib.Pack(p, leaf); again != s || e != api.OK {
				t.Errorf("%x is %x, %d", s, again, int(e))
			}
		}
	}
}
