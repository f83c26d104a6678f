package bodies_test

import (
	"crypto/sha256"
	"math"
	"slices"
	"strconv"
	"strings"
	"testing"
	"unsafe"

	"dormouse/api"
	"dormouse/bodies"
)

// chance is numbers that look like chance, and are the same each time.
type chance uint64

func (c *chance) below(n int) int {
	*c = *c*6364136223846793005 + 1442695040888963407
	return int(uint64(*c) >> 33 % uint64(n))
}

// of is a text's sum, by the library.
func of(s string) api.Sum { return sha256.Sum256([]byte(s)) }

// long is a text of so many bytes, another one for each name.
func long(name string, n int) string { return name + strings.Repeat(".", n-len(name)) }

// A ledger is a store of bodies by the chapter's words alone: how often each epoch holds each text.
type ledger map[int]map[string]int

func (l ledger) put(epoch int, enc string) api.Errno {
	if epoch < 0 || epoch > 1<<20 {
		return api.ErrRange
	}
	if len(enc) < 32 {
		return api.ErrShort
	}
	if l[epoch] == nil {
		l[epoch] = map[string]int{}
	}
	l[epoch][enc]++
	return api.OK
}

func (l ledger) free(epoch int, enc string) api.Errno {
	if l[epoch][enc] == 0 {
		return api.ErrNone
	}
	l[epoch][enc]--
	return api.OK
}

func (l ledger) drop(epoch int) int {
	ahead := len(l.texts())
	delete(l, epoch)
	return ahead - len(l.texts())
}

// texts is those that an epoch holds.
func (l ledger) texts() map[string]int {
	all := map[string]int{}
	for _, held := range l {
		for enc, n := range held {
			if n > 0 {
				all[enc] += n
			}
		}
	}
	return all
}

func (l ledger) size() (int, int) {
	bytes := 0
	for enc := range l.texts() {
		bytes += len(enc)
	}
	return len(l.texts()), bytes
}

func (l ledger) epochs() []int {
	var all []int
	for epoch, held := range l {
		for _, n := range held {
			if n > 0 {
				all = append(all, epoch)
				break
			}
		}
	}
	slices.Sort(all)
	return all
}

// check holds all that a store tells of some texts against a ledger.
func check(t *testing.T, b *bodies.Bodies, l ledger, some []string) {
	t.Helper()
	n, m := b.Size()
	if x, y := l.size(); n != x || m != y {
		t.Fatalf("size: %d, %d, not %d, %d", n, m, x, y)
	}
	if got, want := b.Epochs(), l.epochs(); !slices.Equal(got, want) {
		t.Fatalf("epochs: %v, not %v", got, want)
	}
	all := l.texts()
	for _, enc := range some {
		x := of(enc)
		want := ""
		if all[enc] > 0 {
			want = enc
		}
		if s, there := b.Get(x); s != want || there != (want != "") {
			t.Fatalf("get of %q: %q, %t", enc, s, there)
		}
		if s, there := b.Find(string(x[:])); s != want || there != (want != "") {
			t.Fatalf("find of %q: %q, %t", enc, s, there)
		}
	}
	if x, y, two := b.Twin(); x != "" || y != "" || two {
		t.Fatalf("twins: %q, %q, %t", x, y, two)
	}
}

// filled is a store in which the epochs hold those texts.
func filled(t *testing.T, l ledger) *bodies.Bodies {
	t.Helper()
	b := bodies.New()
	for epoch, held := range l {
		for enc, n := range held {
			for range n {
				if e := b.Put(epoch, enc); e != api.OK {
					t.Fatalf("put %d, %q: %v", epoch, enc, e)
				}
			}
		}
	}
	return b
}

var (
	one   = long("one", 32)
	two   = long("two", 40)
	three = long("three", 65536)
	some  = []string{one, two, three, long("four", 33), ""}
)

func TestExample(t *testing.T) {
	b, s := bodies.New(), long("a text", 42)
	if b.Put(1, s) != api.OK || b.Put(2, s) != api.OK {
		t.Fatal("put")
	}
	if n := b.Drop(1); n != 0 {
		t.Errorf("%d are gone", n)
	}
	if got, there := b.Get(of(s)); got != s || !there {
		t.Errorf("%q, %t", got, there)
	}
	check(t, b, ledger{2: {s: 1}}, []string{s})
}

func TestNew(t *testing.T) {
	b := bodies.New()
	if b == nil {
		t.Fatal("none")
	}
	check(t, b, ledger{}, some)
	a, c := bodies.New(), bodies.New()
	if a.Put(1, one) != api.OK {
		t.Fatal("put")
	}
	check(t, c, ledger{}, some)
	check(t, a, ledger{1: {one: 1}}, some)
}

func TestNil(t *testing.T) {
	var b *bodies.Bodies
	for _, epoch := range []int{math.MinInt, -1, 0, 1, api.MaxEpoch, api.MaxEpoch + 1} {
		for _, s := range []string{"", "a", one} {
			if e := b.Put(epoch, s); e != api.ErrNil {
				t.Errorf("put %d, %q: %v", epoch, s, e)
			}
			if e := b.Free(epoch, s); e != api.ErrNil {
				t.Errorf("free %d, %q: %v", epoch, s, e)
			}
		}
		if n := b.Drop(epoch); n != 0 {
			t.Errorf("drop %d: %d", epoch, n)
		}
	}
	for _, ref := range []string{"", "a", one[:31], one, two} {
		if s, there := b.Find(ref); s != "" || there {
			t.Errorf("find %q: %q, %t", ref, s, there)
		}
	}
	if s, there := b.Get(of(one)); s != "" || there {
		t.Errorf("get: %q, %t", s, there)
	}
	if n, m := b.Size(); n != 0 || m != 0 {
		t.Errorf("size: %d, %d", n, m)
	}
	if l := b.Epochs(); len(l) != 0 {
		t.Errorf("epochs: %v", l)
	}
	if x, y, there := b.Twin(); x != "" || y != "" || there {
		t.Errorf("twins: %q, %q, %t", x, y, there)
	}
}

func TestPutRefuses(t *testing.T) {
	l := ledger{0: {one: 2}, 7: {one: 1, two: 1}}
	for _, b := range []*bodies.Bodies{bodies.New(), filled(t, l)} {
		was := ledger{}
		if len(b.Epochs()) > 0 {
			was = l
		}
		for _, c := range []struct {
			epoch int
			enc   string
			want  api.Errno
		}{
			{-1, one, api.ErrRange}, {math.MinInt, one, api.ErrRange}, {1<<20 + 1, one, api.ErrRange}, {math.MaxInt, one, api.ErrRange},
			{-1, "", api.ErrRange}, {1<<20 + 1, one[:31], api.ErrRange}, {1<<32 + 7, one, api.ErrRange},
			{0, "", api.ErrShort}, {0, "a", api.ErrShort}, {7, one[:31], api.ErrShort}, {1 << 20, one[1:], api.ErrShort},
		} {
			if e := b.Put(c.epoch, c.enc); e != c.want {
				t.Errorf("put %d, %q: %v, not %v", c.epoch, c.enc, e, c.want)
			}
			check(t, b, was, append([]string{c.enc}, some...))
		}
	}
}

func TestPutAtTheEdges(t *testing.T) {
	for n := range 100 {
		b, enc := bodies.New(), strings.Repeat("x", n)
		l := ledger{}
		for _, epoch := range []int{1 << 20, 0, 1, 1<<20 - 1} {
			if e, want := b.Put(epoch, enc), l.put(epoch, enc); e != want {
				t.Errorf("%d bytes, %d: %v, not %v", n, epoch, e, want)
			}
			check(t, b, l, []string{enc})
		}
	}
}

// TestPutOfAllBytes is told texts that are others in one byte alone, whichever, and of bytes that are no runes.
func TestPutOfAllBytes(t *testing.T) {
	b, l := bodies.New(), ledger{}
	var all []string
	for i := range 33 {
		for c := range 256 {
			s := []byte(long("", 33))
			s[i] = byte(c)
			all = append(all, string(s))
		}
	}
	for i, s := range all {
		if e, want := b.Put(i%3, s), l.put(i%3, s); e != want {
			t.Fatalf("%q: %v, not %v", s, e, want)
		}
	}
	check(t, b, l, all)
}

func TestGetTellsWhatHasThatSum(t *testing.T) {
	b := bodies.New()
	for i := range 300 {
		if b.Put(i%5, long(strconv.Itoa(i), 32+i)) != api.OK {
			t.Fatal("put")
		}
	}
	if b.Put(3, long("great", api.MaxText+1)) != api.OK {
		t.Fatal("put")
	}
	told := 0
	for i := range 400 {
		enc := long(strconv.Itoa(i), 32+i)
		if i == 399 {
			enc = long("great", api.MaxText+1)
		}
		x := of(enc)
		s, there := b.Get(x)
		if there && (of(s) != x || s != enc) || !there && s != "" {
			t.Errorf("%d: %d bytes, %t", i, len(s), there)
		}
		if there {
			told++
		}
		for at := range x {
			y := x
			y[at] ^= 1
			if s, there := b.Get(y); s != "" || there {
				t.Errorf("another sum: %d bytes, %t", len(s), there)
			}
		}
	}
	if told != 301 {
		t.Errorf("%d are told", told)
	}
	if s, there := b.Get(api.Sum{}); s != "" || there {
		t.Errorf("%q, %t", s, there)
	}
}

func TestFind(t *testing.T) {
	x, y := of(one), of(two)
	b := filled(t, ledger{1: {one: 1, three: 1}})
	for _, c := range []struct{ ref, want string }{
		{"", ""}, {"a", "a"}, {"\x00", "\x00"}, {"\x80", "\x80"}, {"\xff\xff", "\xff\xff"}, {"\xc21a", "\xc21a"}, {one[:31], one[:31]},
		{string(x[:]), one}, {string(x[:31]), string(x[:31])}, {string(x[1:]), string(x[1:])}, {string(x[:]) + "a", ""}, {"a" + string(x[:]), ""}, {string(x[:]) + string(x[:]), ""},
		{string(y[:]), ""}, {string(y[:31]), string(y[:31])}, {one, ""}, {two, ""}, {three, ""}, {strings.Repeat("\x00", 32), ""},
	} {
		if s, there := b.Find(c.ref); s != c.want || there != (c.want != "") {
			t.Errorf("%q: %q, %t, not %q", c.ref, s, there, c.want)
		}
	}
	for n := range 100 {
		ref := strings.Repeat("n", n)
		for _, b := range []*bodies.Bodies{b, bodies.New()} {
			s, there := b.Find(ref)
			if own := n > 0 && n < 32; there != own || own && s != ref || !own && s != "" {
				t.Errorf("%d bytes: %q, %t", n, s, there)
			}
		}
	}
}

// TestFindOfABodyWhoseBytesAreASum is told a text that is another one's sum: it is no reference of itself.
func TestFindOfABodyWhoseBytesAreASum(t *testing.T) {
	x := of(one)
	b := filled(t, ledger{1: {string(x[:]): 1}})
	if s, there := b.Find(string(x[:])); s != "" || there {
		t.Errorf("%q, %t", s, there)
	}
	if b.Put(2, one) != api.OK {
		t.Fatal("put")
	}
	if s, there := b.Find(string(x[:])); s != one || !there {
		t.Errorf("%q, %t", s, there)
	}
}

func TestSizeCountsTextsOnce(t *testing.T) {
	b := bodies.New()
	for _, c := range []struct {
		epoch int
		enc   string
		n, m  int
	}{
		{1, one, 1, 32}, {1, one, 1, 32}, {2, one, 1, 32}, {1, two, 2, 72}, {0, two, 2, 72}, {3, three, 3, 65608}, {3, three, 3, 65608},
	} {
		if e := b.Put(c.epoch, c.enc); e != api.OK {
			t.Fatal(e)
		}
		if n, m := b.Size(); n != c.n || m != c.m {
			t.Errorf("%d, %d, not %d, %d", n, m, c.n, c.m)
		}
	}
}

func TestEpochsRise(t *testing.T) {
	b := bodies.New()
	for i, c := range []struct {
		epoch int
		want  []int
	}{
		{9, []int{9}}, {10, []int{9, 10}}, {9, []int{9, 10}}, {0, []int{0, 9, 10}}, {1 << 20, []int{0, 9, 10, 1 << 20}}, {2, []int{0, 2, 9, 10, 1 << 20}}, {100, []int{0, 2, 9, 10, 100, 1 << 20}},
	} {
		if e := b.Put(c.epoch, long(strconv.Itoa(i/2), 32)); e != api.OK {
			t.Fatal(e)
		}
		if l := b.Epochs(); !slices.Equal(l, c.want) {
			t.Errorf("%v, not %v", l, c.want)
		}
	}
}

func TestFree(t *testing.T) {
	b, l := bodies.New(), ledger{}
	put := func(epoch int, enc string) {
		t.Helper()
		if e, want := b.Put(epoch, enc), l.put(epoch, enc); e != want || e != api.OK {
			t.Fatalf("put %d, %q: %v", epoch, enc, e)
		}
	}
	free := func(epoch int, enc string, want api.Errno) {
		t.Helper()
		if e := b.Free(epoch, enc); e != want || e != l.free(epoch, enc) {
			t.Errorf("free %d, %q: %v, not %v", epoch, enc, e, want)
		}
		check(t, b, l, some)
	}
	free(1, one, api.ErrNone)
	put(1, one)
	put(1, one)
	put(2, one)
	put(2, two)
	free(3, one, api.ErrNone)
	free(1, two, api.ErrNone)
	free(1, three, api.ErrNone)
	free(2, one, api.OK)
	free(2, one, api.ErrNone)
	free(1, one, api.OK)
	free(1, one, api.OK)
	free(1, one, api.ErrNone)
	free(2, one, api.ErrNone)
	put(1, one)
	put(3, two)
	free(2, two, api.OK)
	free(2, two, api.ErrNone)
	free(3, two, api.OK)
	free(3, two, api.ErrNone)
	free(1, one, api.OK)
	if n, m := b.Size(); n != 0 || m != 0 || len(b.Epochs()) != 0 {
		t.Errorf("%d, %d", n, m)
	}
}

func TestFreeOfWhatNoneHolds(t *testing.T) {
	x := of(one)
	l := ledger{5: {one: 1}, 6: {two: 1}}
	b := filled(t, l)
	for _, epoch := range []int{math.MinInt, -1, 0, 4, 6, 7, 1 << 20, 1<<20 + 1, 1<<32 + 5, math.MaxInt} {
		for _, enc := range []string{"", "a", one[:31], one, one + "a", three, string(x[:])} {
			if e := b.Free(epoch, enc); e != api.ErrNone {
				t.Errorf("%d, %q: %v", epoch, enc, e)
			}
		}
	}
	for _, enc := range []string{"", "a", one[:31], one + "a", two, three, string(x[:])} {
		if e := b.Free(5, enc); e != api.ErrNone {
			t.Errorf("%q: %v", enc, e)
		}
	}
	check(t, b, l, some)
}

func TestDrop(t *testing.T) {
	l := ledger{0: {one: 3}, 1: {one: 1, two: 2}, 2: {two: 1, three: 5}, 3: {one: 1, two: 1, three: 1}, 1 << 20: {long("four", 33): 2}}
	b := filled(t, l)
	for _, c := range []struct{ epoch, want int }{
		{-1, 0}, {math.MinInt, 0}, {4, 0}, {1<<20 + 1, 0}, {math.MaxInt, 0}, {1<<32 + 1, 0},
		{0, 0}, {0, 0}, {1 << 20, 1}, {1 << 20, 0}, {1, 0}, {3, 1}, {3, 0}, {2, 2}, {2, 0}, {0, 0},
	} {
		if n := b.Drop(c.epoch); n != c.want || n != l.drop(c.epoch) {
			t.Errorf("drop %d: %d, not %d", c.epoch, n, c.want)
		}
		check(t, b, l, some)
	}
	if n, m := b.Size(); n != 0 || m != 0 {
		t.Errorf("%d, %d", n, m)
	}
	if e := b.Free(2, two); e != api.ErrNone {
		t.Error(e)
	}
	if e := b.Put(2, two); e != api.OK {
		t.Error(e)
	}
	check(t, b, ledger{2: {two: 1}}, some)
	if e := b.Free(2, two); e != api.OK {
		t.Error(e)
	}
	check(t, b, ledger{}, some)
}

// TestDropOfOneThatHoldsOften lets go of all at once, however often it is held.
func TestDropOfOneThatHoldsOften(t *testing.T) {
	b := bodies.New()
	for range 1000 {
		if b.Put(1, one) != api.OK || b.Put(1, two) != api.OK {
			t.Fatal("put")
		}
	}
	if b.Put(2, two) != api.OK {
		t.Fatal("put")
	}
	if n := b.Drop(1); n != 1 {
		t.Errorf("%d are gone", n)
	}
	check(t, b, ledger{2: {two: 1}}, some)
	if b.Free(1, one) != api.ErrNone || b.Free(1, two) != api.ErrNone {
		t.Error("free")
	}
}

// TestStepsByChance does many steps of a few epochs and texts, and asks for all after each.
func TestStepsByChance(t *testing.T) {
	epochs := []int{-1, 0, 1, 2, 3, 1 << 20, 1<<20 + 1}
	texts := []string{"", one[:31], one, two, long("four", 33), long("five", 33), long("six", 100)}
	for run := range 60 {
		c := chance(run)
		b, l := bodies.New(), ledger{}
		for range 200 {
			epoch, enc := epochs[c.below(len(epochs))], texts[c.below(len(texts))]
			switch what := c.below(20); {
			case what < 10-run%4:
				if e, want := b.Put(epoch, enc), l.put(epoch, enc); e != want {
					t.Fatalf("put %d, %q: %v, not %v", epoch, enc, e, want)
				}
			case what < 18:
				if e, want := b.Free(epoch, enc), l.free(epoch, enc); e != want {
					t.Fatalf("free %d, %q: %v, not %v", epoch, enc, e, want)
				}
			default:
				if n, want := b.Drop(epoch), l.drop(epoch); n != want {
					t.Fatalf("drop %d: %d, not %d", epoch, n, want)
				}
			}
			check(t, b, l, texts)
		}
	}
}

// TestOrderIsNothing has the same hold in other orders, and tells the same.
func TestOrderIsNothing(t *testing.T) {
	type hold struct {
		epoch int
		enc   string
	}
	var all []hold
	for i := range 200 {
		all = append(all, hold{i * i % 17, long(strconv.Itoa(i%23), 32+i%23)})
	}
	c := chance(1)
	for range 20 {
		b, l := bodies.New(), ledger{}
		for i := range all {
			j := c.below(i + 1)
			all[i], all[j] = all[j], all[i]
		}
		for _, h := range all {
			if e := b.Put(h.epoch, h.enc); e != l.put(h.epoch, h.enc) {
				t.Fatal(e)
			}
		}
		check(t, b, l, some)
		for epoch := range 17 {
			if n, want := b.Drop(epoch), l.drop(epoch); n != want {
				t.Fatalf("drop %d: %d, not %d", epoch, n, want)
			}
		}
	}
}

// TestManyEpochs would take long if each Drop went through all that is held.
func TestManyEpochs(t *testing.T) {
	const many = 1 << 16
	b := bodies.New()
	for epoch := range many {
		if b.Put(epoch, one) != api.OK || b.Put(epoch, long(strconv.Itoa(epoch), 40)) != api.OK {
			t.Fatal("put")
		}
	}
	if l := b.Epochs(); len(l) != many || !slices.IsSorted(l) {
		t.Errorf("%d epochs", len(l))
	}
	if n, m := b.Size(); n != many+1 || m != 40*many+32 {
		t.Errorf("%d, %d", n, m)
	}
	for epoch := range many - 1 {
		if n := b.Drop(epoch); n != 1 {
			t.Fatalf("drop %d: %d", epoch, n)
		}
	}
	check(t, b, ledger{many - 1: {one: 1, long(strconv.Itoa(many-1), 40): 1}}, some)
	if n := b.Drop(many - 1); n != 2 {
		t.Errorf("%d", n)
	}
	check(t, b, ledger{}, some)
}

// TestWhatIsToldIsNew writes over what was told.
func TestWhatIsToldIsNew(t *testing.T) {
	l := ledger{3: {one: 1}, 5: {one: 1}, 9: {two: 1}}
	b := filled(t, l)
	told := b.Epochs()
	for i := range told {
		told[i] = -1
	}
	_ = append(told[:0], 1, 2, 3)
	check(t, b, l, some)
}

// TestWhatIsHandedInIsNotKept cuts a text out of another: that one would be kept with it.
func TestWhatIsHandedInIsNotKept(t *testing.T) {
	whole := strings.Clone(three)
	cut := whole[100:200]
	b := bodies.New()
	if b.Put(1, cut) != api.OK || b.Put(2, cut) != api.OK {
		t.Fatal("put")
	}
	s, there := b.Get(of(cut))
	if s != cut || !there {
		t.Fatalf("%q, %t", s, there)
	}
	if unsafe.StringData(s) == unsafe.StringData(cut) {
		t.Error("it is kept")
	}
}
