package gauge_test

import (
	"math"
	"math/bits"
	"slices"
	"testing"

	"dormouse/gauge"
)

const (
	minusZero = 1 << 63
	infinite  = 0x7ff0000000000000
	minusInf  = 0xfff0000000000000
)

// rising are the bits of numbers of each kind, and of those at its edges, in the order of all.
func rising() []uint64 {
	return []uint64{
		// None, with a minus: those of a signal stand behind the quiet ones.
		0xffffffffffffffff, 0xfffffffffffffffe, 0xfff8000000000001, 0xfff8000000000000, 0xfff7ffffffffffff, 0xfff0000000000002, 0xfff0000000000001,
		minusInf,
		// Below 0: the greatest there are, some, the least that are whole, and those that are less.
		0xffefffffffffffff, 0xffeffffffffffffe, 0xc024000000000000, 0xbff0000000000001, 0xbff0000000000000, 0xbfefffffffffffff, 0xbfe0000000000000,
		0x8010000000000001, 0x8010000000000000, 0x800fffffffffffff, 0x8000000000000002, 0x8000000000000001,
		minusZero, 0,
		0x0000000000000001, 0x0000000000000002, 0x000fffffffffffff, 0x0010000000000000, 0x0010000000000001,
		0x3fe0000000000000, 0x3fefffffffffffff, 0x3ff0000000000000, 0x3ff0000000000001, 0x4024000000000000, 0x7feffffffffffffe, 0x7fefffffffffffff,
		infinite,
		0x7ff0000000000001, 0x7ff0000000000002, 0x7ff7ffffffffffff, 0x7ff8000000000000, 0x7ff8000000000001, 0x7ffffffffffffffe, 0x7fffffffffffffff,
	}
}

// class tells the Class of each of rising, by its place there.
func class(i int) int {
	switch {
	case i < 7 || i > 34:
		return 0
	case i == 7:
		return 1
	case i < 20:
		return 2
	case i == 20:
		return 3
	case i == 21:
		return 4
	case i < 34:
		return 5
	}
	return 6
}

// numbers are those of bits.
func numbers(l []uint64) []float64 {
	var out []float64
	for _, b := range l {
		out = append(out, math.Float64frombits(b))
	}
	return out
}

// bitsOf are the bits of numbers.
func bitsOf(l []float64) []uint64 {
	var out []uint64
	for _, x := range l {
		out = append(out, math.Float64bits(x))
	}
	return out
}

// patterns are bits in a muddle, with each bit alone, and each alone taken out.
func patterns() []uint64 {
	l := rising()
	for i := range 64 {
		l = append(l, 1<<i, ^uint64(1<<i))
	}
	seed := uint64(1)
	for range 2000 {
		seed = seed*6364136223846793005 + 1442695040888963407
		l = append(l, seed^seed>>29)
	}
	return l
}

// isNone tells whether it is no number: which one of them is never asked.
func isNone(x float64) bool { return x != x }

// isSame holds what was answered against what is asked: by all bits, but of what is no number.
func isSame(got, want float64) bool {
	return isNone(got) && isNone(want) || math.Float64bits(got) == math.Float64bits(want)
}

// muddled is a list in another order, one of each seed.
func muddled(l []uint64, seed int) []uint64 {
	out := slices.Clone(l)
	for i := range out {
		seed = (seed*1103515245 + 12345) & 0x7fffffff
		j := i + seed/65536%(len(out)-i)
		out[i], out[j] = out[j], out[i]
	}
	return out
}

// P4.1

func TestBits(t *testing.T) {
	for _, c := range []struct {
		x    float64
		bits uint64
	}{
		{0, 0}, {math.Copysign(0, -1), minusZero}, {1, 0x3ff0000000000000}, {-1, 0xbff0000000000000},
		{0.1, 0x3fb999999999999a}, {10, 0x4024000000000000}, {math.Pi, 0x400921fb54442d18},
		{math.MaxFloat64, 0x7fefffffffffffff}, {-math.MaxFloat64, 0xffefffffffffffff},
		{math.SmallestNonzeroFloat64, 1}, {-math.SmallestNonzeroFloat64, 0x8000000000000001},
		{math.Inf(1), infinite}, {math.Inf(-1), minusInf},
	} {
		if got := gauge.Bits(c.x); got != c.bits {
			t.Errorf("Bits of %g is %x", c.x, got)
		}
		if got := gauge.Of(c.bits); math.Float64bits(got) != c.bits {
			t.Errorf("Of %x is %g", c.bits, got)
		}
	}
}

func TestBitsComeBack(t *testing.T) {
	for _, b := range patterns() {
		x := gauge.Of(b)
		if math.Float64bits(x) != b {
			t.Errorf("Of %x has the bits %x", b, math.Float64bits(x))
		}
		if got := gauge.Bits(math.Float64frombits(b)); got != b {
			t.Errorf("Bits of %x is %x", b, got)
		}
	}
}

func TestKey(t *testing.T) {
	for _, c := range []struct{ bits, key uint64 }{
		{0, 0x8000000000000000}, {minusZero, 0x7fffffffffffffff},
		{0x3ff0000000000000, 0xbff0000000000000}, {0xbff0000000000000, 0x400fffffffffffff},
		{infinite, 0xfff0000000000000}, {minusInf, 0x000fffffffffffff},
		{0x7fffffffffffffff, 0xffffffffffffffff}, {0xffffffffffffffff, 0},
		{0x7ff8000000000001, 0xfff8000000000001}, {0xfff8000000000001, 0x0007fffffffffffe},
		{1, 0x8000000000000001}, {0x8000000000000001, 0x7ffffffffffffffe},
	} {
		if got := gauge.Key(math.Float64frombits(c.bits)); got != c.key {
			t.Errorf("Key of %x is %x", c.bits, got)
		}
	}
	if a, b := gauge.Key(math.Copysign(0, -1)), gauge.Key(0); a+1 != b {
		t.Errorf("Key of -0 is %x, of 0 %x", a, b)
	}
}

func TestKeyOfAllKindsOfBits(t *testing.T) {
	for _, b := range patterns() {
		want := b + 1<<63 // the highest bit is 0: it becomes 1
		if bits.LeadingZeros64(b) == 0 {
			want = math.MaxUint64 - b
		}
		if got := gauge.Key(math.Float64frombits(b)); got != want {
			t.Errorf("Key of %x is %x", b, got)
		}
	}
}

func TestLessAndSame(t *testing.T) {
	l := numbers(rising())
	for i, a := range l {
		for j, b := range l {
			if got := gauge.Less(a, b); got != (i < j) {
				t.Errorf("Less of %x and %x is %t", gauge.Bits(a), gauge.Bits(b), got)
			}
			if got := gauge.Same(a, b); got != (i == j) {
				t.Errorf("Same of %x and %x is %t", gauge.Bits(a), gauge.Bits(b), got)
			}
		}
	}
}

func TestLessGoesByTheKeys(t *testing.T) {
	l := numbers(patterns())
	for i, a := range l {
		b := l[(i*31+7)%len(l)]
		if got := gauge.Less(a, b); got != (gauge.Key(a) < gauge.Key(b)) {
			t.Errorf("Less of %x and %x is %t", gauge.Bits(a), gauge.Bits(b), got)
		}
	}
}

func TestSameHangsOnEachBit(t *testing.T) {
	for _, b := range rising() {
		for i := range 64 {
			if gauge.Same(math.Float64frombits(b), math.Float64frombits(b^1<<i)) {
				t.Errorf("%x with bit %d turned is the same", b, i)
			}
		}
	}
}

// P4.2

func TestSort(t *testing.T) {
	want := rising()
	for seed := range 200 {
		if got := bitsOf(gauge.Sort(numbers(muddled(want, seed)))); !slices.Equal(got, want) {
			t.Fatalf("seed %d: %x", seed, got)
		}
	}
	down := slices.Clone(want)
	slices.Reverse(down)
	if got := bitsOf(gauge.Sort(numbers(down))); !slices.Equal(got, want) {
		t.Errorf("falling ones: %x", got)
	}
	if got := bitsOf(gauge.Sort(numbers(want))); !slices.Equal(got, want) {
		t.Errorf("rising ones: %x", got)
	}
}

func TestSortOfShortLists(t *testing.T) {
	if got := gauge.Sort(nil); len(got) != 0 {
		t.Errorf("of nil: %v", got)
	}
	if got := gauge.Sort([]float64{}); len(got) != 0 {
		t.Errorf("of none: %v", got)
	}
	l := rising()
	for i, a := range l {
		if got := bitsOf(gauge.Sort(numbers([]uint64{a}))); !slices.Equal(got, []uint64{a}) {
			t.Errorf("of %x: %x", a, got)
		}
		for _, b := range l[i:] {
			if got := bitsOf(gauge.Sort(numbers([]uint64{b, a}))); !slices.Equal(got, []uint64{a, b}) {
				t.Errorf("of %x and %x: %x", b, a, got)
			}
		}
	}
}

func TestSortKeepsThoseThatAreTheSame(t *testing.T) {
	var l, want []uint64
	for i, b := range rising() {
		for range 1 + i%4 {
			l, want = append(l, b), append(want, b)
		}
	}
	for seed := range 50 {
		if got := bitsOf(gauge.Sort(numbers(muddled(l, seed)))); !slices.Equal(got, want) {
			t.Fatalf("seed %d: %x", seed, got)
		}
	}
}

func TestSortOfManyNumbers(t *testing.T) {
	l := patterns()
	got := gauge.Sort(numbers(l))
	for i := 1; i < len(got); i++ {
		if gauge.Key(got[i]) < gauge.Key(got[i-1]) {
			t.Errorf("at %d: %x behind %x", i, gauge.Bits(got[i]), gauge.Bits(got[i-1]))
		}
	}
	was := bitsOf(got)
	slices.Sort(was)
	slices.Sort(l)
	if !slices.Equal(was, l) {
		t.Error("what comes out is not what went in")
	}
}

func TestSortLeavesWhatIsHandedIn(t *testing.T) {
	for _, n := range []int{1, 2, 3, 12, 13, 40} {
		room := numbers(muddled(rising(), n))
		was := bitsOf(room)
		got := gauge.Sort(room[:n])
		_ = append(got, 1, 2, 3)
		for i := range got {
			got[i] = 7
		}
		if !slices.Equal(bitsOf(room), was) {
			t.Errorf("of %d: %x, it was %x", n, bitsOf(room), was)
		}
	}
}

func TestSortAnswersNewMemoryWhereItIsSorted(t *testing.T) {
	for _, l := range [][]float64{{1}, {1, 2}, {1, 2, 3}} {
		a, b := gauge.Sort(l), gauge.Sort(l)
		a[0] = 9
		if l[0] != 1 || b[0] != 1 {
			t.Errorf("%v and %v go with %v", l, b, a)
		}
	}
}

func TestLeastAndMost(t *testing.T) {
	l := rising()
	for i, a := range l {
		for j, b := range l {
			x, y := math.Float64frombits(a), math.Float64frombits(b)
			if got := gauge.Bits(gauge.Least(x, y)); got != l[min(i, j)] {
				t.Errorf("Least of %x and %x is %x", a, b, got)
			}
			if got := gauge.Bits(gauge.Most(x, y)); got != l[max(i, j)] {
				t.Errorf("Most of %x and %x is %x", a, b, got)
			}
		}
		if got := gauge.Bits(gauge.Least(math.Float64frombits(a))); got != a {
			t.Errorf("Least of %x is %x", a, got)
		}
		if got := gauge.Bits(gauge.Most(math.Float64frombits(a))); got != a {
			t.Errorf("Most of %x is %x", a, got)
		}
	}
}

func TestLeastAndMostOfMany(t *testing.T) {
	l := rising()
	for from := range l {
		for to := from + 1; to <= len(l); to++ {
			some := numbers(muddled(l[from:to], from+to))
			if got := gauge.Bits(gauge.Least(some...)); got != l[from] {
				t.Errorf("Least of %d from %d on is %x", to-from, from, got)
			}
			if got := gauge.Bits(gauge.Most(some...)); got != l[to-1] {
				t.Errorf("Most of %d from %d on is %x", to-from, from, got)
			}
		}
	}
}

func TestLeastAndMostOfNone(t *testing.T) {
	for _, l := range [][]float64{nil, {}} {
		if a, b := gauge.Bits(gauge.Least(l...)), gauge.Bits(gauge.Most(l...)); a != 0 || b != 0 {
			t.Errorf("Least has the bits %x, Most %x", a, b)
		}
	}
}

func TestLeastAndMostLeaveWhatIsHandedIn(t *testing.T) {
	room := numbers(muddled(rising(), 3))
	was := bitsOf(room)
	gauge.Least(room[:20]...)
	gauge.Most(room[:20]...)
	if !slices.Equal(bitsOf(room), was) {
		t.Errorf("%x, it was %x", bitsOf(room), was)
	}
}

func TestClass(t *testing.T) {
	for _, c := range []struct {
		x    float64
		want int
	}{
		{math.NaN(), 0}, {math.Inf(-1), 1}, {-math.MaxFloat64, 2}, {-1, 2}, {-math.SmallestNonzeroFloat64, 2},
		{math.Copysign(0, -1), 3}, {0, 4}, {math.SmallestNonzeroFloat64, 5}, {1, 5}, {math.MaxFloat64, 5}, {math.Inf(1), 6},
	} {
		if got := gauge.Class(c.x); got != c.want {
			t.Errorf("Class of %g is %d", c.x, got)
		}
	}
	for i, x := range numbers(rising()) {
		if got := gauge.Class(x); got != class(i) {
			t.Errorf("Class of %x is %d, not %d", gauge.Bits(x), got, class(i))
		}
	}
}

// P4.3

func TestShare(t *testing.T) {
	inf, less := math.Inf(1), math.Copysign(0, -1)
	for _, c := range []struct{ part, whole, want float64 }{
		{1, 2, 0.5}, {2, 1, 2}, {1, 3, 1.0 / 3}, {5, 5, 1}, {7, 49, 1.0 / 7}, {0.3, 0.1, 2.9999999999999996},
		{0, 5, 0}, {less, 5, 0}, {0, math.SmallestNonzeroFloat64, 0},
		{0, 0, 0}, {less, 0, 0}, {0, less, 0}, {less, less, 0},
		{1, 0, inf}, {1, less, inf}, {math.SmallestNonzeroFloat64, 0, inf}, {math.SmallestNonzeroFloat64, less, inf},
		{inf, 2, inf}, {inf, 0, inf}, {inf, less, inf}, {inf, math.MaxFloat64, inf},
		{math.MaxFloat64, 0.5, inf}, {math.MaxFloat64, math.MaxFloat64, 1},
		{math.SmallestNonzeroFloat64, math.MaxFloat64, 0}, {math.SmallestNonzeroFloat64, 2, 0}, {3 * math.SmallestNonzeroFloat64, 2, 2 * math.SmallestNonzeroFloat64},
	} {
		if got := gauge.Share(c.part, c.whole); math.Float64bits(got) != math.Float64bits(c.want) {
			t.Errorf("Share of %g and %g is %g", c.part, c.whole, got)
		}
	}
}

func TestShareThatIsNoNumber(t *testing.T) {
	inf, none, tiny := math.Inf(1), math.NaN(), math.SmallestNonzeroFloat64
	for _, c := range []struct{ part, whole float64 }{
		{none, 1}, {1, none}, {none, none}, {none, 0}, {0, none}, {none, inf}, {inf, none}, {none, -1}, {-1, none},
		{-1, 2}, {1, -2}, {-1, -2}, {-tiny, 1}, {1, -tiny}, {-tiny, -tiny}, {-1, 0}, {0, -1}, {-tiny, 0}, {0, -tiny},
		{-inf, 1}, {1, -inf}, {-inf, -inf}, {-inf, 0}, {0, -inf}, {-inf, inf}, {inf, -inf}, {inf, -1}, {-1, inf},
		{1, inf}, {0, inf}, {math.Copysign(0, -1), inf}, {inf, inf}, {math.MaxFloat64, inf},
	} {
		if got := gauge.Share(c.part, c.whole); !isNone(got) {
			t.Errorf("Share of %g and %g is %g", c.part, c.whole, got)
		}
	}
}

func TestShareOfAllKinds(t *testing.T) {
	l := numbers(rising())
	for i, part := range l {
		for j, whole := range l {
			a, b := class(i), class(j)
			want := part / whole
			switch {
			case a < 3 || b < 3 || b == 6:
				want = math.NaN()
			case a < 5:
				want = 0
			case b < 5:
				want = math.Inf(1)
			}
			if got := gauge.Share(part, whole); !isSame(got, want) {
				t.Errorf("Share of %x and %x is %g", gauge.Bits(part), gauge.Bits(whole), got)
			}
		}
	}
}

// P4.4

func TestSmooth(t *testing.T) {
	inf, top, tiny := math.Inf(1), math.MaxFloat64, math.SmallestNonzeroFloat64
	for _, c := range []struct{ old, x, share, want float64 }{
		{1, 3, 0.5, 2}, {3, 1, 0.5, 2}, {1, 3, 0.25, 1.5}, {-4, 4, 0.125, -3}, {0, 1, 0.1, 0.1},
		{1, 3, 0, 1}, {1, 3, 1, 3}, {1, 1, 0.3, 1},
		// share is brought between 0 and 1
		{1, 3, -1, 1}, {1, 3, -tiny, 1}, {1, 3, -inf, 1}, {1, 3, -0.5, 1},
		{1, 3, 2, 3}, {1, 3, math.Nextafter(1, 2), 3}, {1, 3, inf, 3}, {1, 3, top, 3},
		// old and the rest, not one share of each
		{1e16, 1, 1, 0}, {0.5, 0.1, 1, 0.09999999999999998}, {0.2, 0.9, 7, 0.8999999999999999}, {1, 3, 0.1, 1.2}, {0.7, 0.7, 0.3, 0.7}, {tiny, 3 * tiny, 0.5, 2 * tiny},
		// beyond all
		{1, inf, 0.5, inf}, {1, -inf, 0.5, -inf}, {inf, inf, 0.5, math.NaN()}, {inf, 1, 0.5, math.NaN()}, {-inf, 1, 0.5, math.NaN()},
		{1, inf, 0, math.NaN()}, {1, inf, -1, math.NaN()}, {1, inf, 2, inf}, {-top, top, 0.5, inf}, {-top, top, 0, math.NaN()},
		{0, math.Copysign(0, -1), 0.5, 0},
	} {
		if got := gauge.Smooth(c.old, c.x, c.share); !isSame(got, c.want) {
			t.Errorf("Smooth of %g, %g, %g is %g", c.old, c.x, c.share, got)
		}
	}
}

func TestSmoothWhereOneIsNoNumber(t *testing.T) {
	l := numbers(rising())
	none := numbers([]uint64{0x7ff8000000000001, 0xfff8000000000000, 0x7ff0000000000001, 0xffffffffffffffff})
	for _, x := range l {
		for _, share := range l {
			for _, old := range none {
				if got := gauge.Smooth(old, x, share); gauge.Bits(got) != gauge.Bits(x) {
					t.Errorf("Smooth of none, %x, %x is %x", gauge.Bits(x), gauge.Bits(share), gauge.Bits(got))
				}
			}
		}
	}
	for i, old := range l {
		if class(i) == 0 {
			continue
		}
		for _, other := range l {
			for _, n := range none {
				if got := gauge.Smooth(old, n, other); gauge.Bits(got) != gauge.Bits(old) {
					t.Errorf("Smooth of %x, none, %x is %x", gauge.Bits(old), gauge.Bits(other), gauge.Bits(got))
				}
				if got := gauge.Smooth(old, other, n); gauge.Bits(got) != gauge.Bits(old) {
					t.Errorf("Smooth of %x, %x, none is %x", gauge.Bits(old), gauge.Bits(other), gauge.Bits(got))
				}
			}
		}
	}
}

func TestSmoothOfAllKinds(t *testing.T) {
	l := numbers(rising())
	for i, old := range l {
		for j, x := range l {
			for k, share := range l {
				// The chapter doesn't tell whether a share of -0 is brought to 0: which it is shows where old is -0, and nowhere else.
				if class(i) == 0 || class(j) == 0 || class(k) == 0 || class(i) == 3 && class(k) == 3 {
					continue
				}
				part := share
				switch {
				case class(k) < 3:
					part = 0
				case share > 1:
					part = 1
				}
				less := float64(x - old)
				rest := float64(less * part)
				if got, want := gauge.Smooth(old, x, share), float64(old+rest); !isSame(got, want) {
					t.Errorf("Smooth of %g, %g, %g is %g, not %g", old, x, share, got, want)
				}
			}
		}
	}
}

func TestSmoothRoundsEachOperationForItself(t *testing.T) {
	apart := 0
	for i := range 2000 {
		old, x, share := 1+float64(i)/7, 3-float64(i)/11, float64(i%101)/103
		rest := float64(float64(x-old) * share)
		want := float64(old + rest)
		if math.FMA(x-old, share, old) != want {
			apart++
		}
		if got := gauge.Smooth(old, x, share); got != want {
			t.Errorf("Smooth of %g, %g, %g is %g, not %g", old, x, share, got, want)
		}
	}
	if apart == 0 {
		t.Error("nothing here tells a product and a sum that are rounded once")
	}
}

func TestMean(t *testing.T) {
	inf, top, tiny := math.Inf(1), math.MaxFloat64, math.SmallestNonzeroFloat64
	for _, c := range []struct {
		l    []float64
		want float64
	}{
		{[]float64{1, 2, 3}, 2}, {[]float64{1, 2}, 1.5}, {[]float64{-1, 1}, 0}, {[]float64{4}, 4}, {[]float64{0}, 0}, {[]float64{0, 0}, 0}, {[]float64{-3, -4}, -3.5},
		// divided, not times a part that was rounded
		{[]float64{5, 0, 0}, 5.0 / 3}, {[]float64{0.1, 0.2, 0.3}, 0.20000000000000004}, {[]float64{0.3, 0.2, 0.1}, 0.19999999999999998},
		// from the left on
		{[]float64{1, 1e16, -1e16}, 0}, {[]float64{1e16, -1e16, 1}, 1.0 / 3}, {[]float64{1e16, 1, 1, -1e16}, 0}, {[]float64{1, 1, 1e16, -1e16}, 0.5},
		// the sum leaves the finite ones, though the mean would not
		{[]float64{top, top}, inf}, {[]float64{-top, -top}, -inf}, {[]float64{top, top, -top, -top}, inf}, {[]float64{top, -top, top, -top}, 0},
		{[]float64{tiny, tiny}, tiny}, {[]float64{tiny, 0}, 0}, {[]float64{tiny, tiny, tiny, 0}, tiny},
		{[]float64{inf}, inf}, {[]float64{-inf, 1, top}, -inf}, {[]float64{1, inf, inf}, inf},
	} {
		if got := gauge.Mean(c.l...); math.Float64bits(got) != math.Float64bits(c.want) {
			t.Errorf("Mean of %v is %g", c.l, got)
		}
	}
}

func TestMeanThatIsNoNumber(t *testing.T) {
	inf, top := math.Inf(1), math.MaxFloat64
	for _, l := range [][]float64{
		nil, {}, {math.NaN()}, {math.NaN(), 1}, {1, math.NaN()}, {1, math.NaN(), 2, 3}, {inf, math.NaN()}, {math.NaN(), math.NaN()},
		{inf, -inf}, {-inf, inf}, {inf, 1, -inf, 2}, {top, top, -inf}, {-top, -top, inf},
	} {
		if got := gauge.Mean(l...); !isNone(got) {
			t.Errorf("Mean of %v is %g", l, got)
		}
	}
}

func TestMeanOfManyNumbers(t *testing.T) {
	var l []float64
	total := 0.0
	for i := range 3000 {
		x := float64(i*i%977)/13 - float64(i%31)*1e9
		l = append(l, x)
		total += x
		if got, want := gauge.Mean(l...), total/float64(i+1); got != want {
			t.Errorf("of %d: %g, not %g", i+1, got, want)
		}
	}
}

func TestMeanLeavesWhatIsHandedIn(t *testing.T) {
	room := numbers(muddled(rising(), 5))
	was := bitsOf(room)
	gauge.Mean(room[:20]...)
	if !slices.Equal(bitsOf(room), was) {
		t.Errorf("%x, it was %x", bitsOf(room), was)
	}
}
