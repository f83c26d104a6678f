package bodies

import (
	"slices"
	"strings"
	"testing"
	"unsafe"

	"dormouse/api"
)

// weak is a sum that many texts have: it tells nothing but how long a text is.
func weak(s string) api.Sum { return api.Sum{31: byte(len(s))} }

const (
	first  = "the first text of thirty-five bytes"
	second = "another one, of thirty-five as well"
	third  = "one more that has thirty-five bytes"
	other  = "a text that is longer than the three before"
)

func expectTwin(t *testing.T, b *Bodies, was, came string, twin bool) {
	t.Helper()
	if x, y, two := b.Twin(); x != was || y != came || two != twin {
		t.Errorf("twins: %q, %q, %t, not %q, %q, %t", x, y, two, was, came, twin)
	}
}

func expectHeld(t *testing.T, b *Bodies, bytes int, texts []string, epochs ...int) {
	t.Helper()
	if n, m := b.Size(); n != len(texts) || m != bytes {
		t.Errorf("size: %d, %d, not %d, %d", n, m, len(texts), bytes)
	}
	if l := b.Epochs(); !slices.Equal(l, epochs) {
		t.Errorf("epochs: %v, not %v", l, epochs)
	}
	for _, s := range texts {
		if got, there := b.Get(weak(s)); got != s || !there {
			t.Errorf("%q, %t, not %q", got, there, s)
		}
	}
}

func TestClash(t *testing.T) {
	b := New()
	put := func(epoch int, enc string, want api.Errno) {
		t.Helper()
		if e := b.put(epoch, enc, weak(enc)); e != want {
			t.Errorf("put %d, %q: %v, not %v", epoch, enc, e, want)
		}
	}
	free := func(epoch int, enc string, want api.Errno) {
		t.Helper()
		if e := b.free(epoch, enc, weak(enc)); e != want {
			t.Errorf("free %d, %q: %v, not %v", epoch, enc, e, want)
		}
	}
	put(1, first, api.OK)
	put(1, first, api.OK)
	put(2, other, api.OK)
	expectTwin(t, b, "", "", false)
	put(1, second, api.ErrClash)
	expectTwin(t, b, first, second, true)
	expectHeld(t, b, 78, []string{first, other}, 1, 2)
	put(3, third, api.ErrClash)
	expectTwin(t, b, first, third, true)
	expectHeld(t, b, 78, []string{first, other}, 1, 2)
	put(3, first, api.OK)
	expectTwin(t, b, first, third, true)
	free(1, second, api.ErrNone)
	free(1, third, api.ErrNone)
	free(3, third, api.ErrNone)
	expectHeld(t, b, 78, []string{first, other}, 1, 2, 3)
	free(3, first, api.OK)
	free(1, first, api.OK)
	put(1, second, api.ErrClash)
	free(1, first, api.OK)
	free(1, first, api.ErrNone)
	expectTwin(t, b, first, second, true)
	expectHeld(t, b, 43, []string{other}, 2)
	put(1, second, api.OK)
	expectTwin(t, b, first, second, true)
	expectHeld(t, b, 78, []string{second, other}, 1, 2)
	put(2, first, api.ErrClash)
	expectTwin(t, b, second, first, true)
	if n := b.Drop(1); n != 1 {
		t.Errorf("%d are gone", n)
	}
	put(2, first, api.OK)
	expectHeld(t, b, 78, []string{first, other}, 2)
	if n := b.Drop(2); n != 2 {
		t.Errorf("%d are gone", n)
	}
	expectHeld(t, b, 0, nil)
	expectTwin(t, b, second, first, true)
}

// TestClashesByChance holds steps of texts that clash against what each epoch holds, by the chapter's words.
func TestClashesByChance(t *testing.T) {
	texts := []string{first, second, third, other, strings.ToUpper(other)}
	seed := uint64(12)
	below := func(n int) int {
		seed = seed*6364136223846793005 + 1442695040888963407
		return int(seed >> 33 % uint64(n))
	}
	clashes := 0
	for range 100 {
		b, held := New(), [3][5]int{}
		was, came, twin := "", "", false
		// there is the text of that sum that an epoch holds.
		there := func(x api.Sum) string {
			for i, s := range texts {
				if weak(s) == x && held[0][i]+held[1][i]+held[2][i] > 0 {
					return s
				}
			}
			return ""
		}
		for range 100 {
			epoch, i := below(3), below(5)
			x, want := weak(texts[i]), api.OK
			old := there(x)
			switch {
			case below(2) == 0:
				if old != "" && old != texts[i] {
					was, came, twin, want = old, texts[i], true, api.ErrClash
					clashes++
				} else {
					held[epoch][i]++
				}
				if e := b.put(epoch, texts[i], x); e != want {
					t.Fatalf("put %d, %q: %v, not %v", epoch, texts[i], e, want)
				}
			case held[epoch][i] == 0:
				if e := b.free(epoch, texts[i], x); e != api.ErrNone {
					t.Fatalf("free %d, %q: %v", epoch, texts[i], e)
				}
			default:
				held[epoch][i]--
				if e := b.free(epoch, texts[i], x); e != api.OK {
					t.Fatalf("free %d, %q: %v", epoch, texts[i], e)
				}
			}
			expectTwin(t, b, was, came, twin)
			if s, is := b.Get(x); s != there(x) || is != (s != "") {
				t.Fatalf("%q, %t, not %q", s, is, there(x))
			}
		}
	}
	if clashes < 1000 {
		t.Errorf("%d clashes", clashes)
	}
}

// TestTwinsAreNotKeptAsTheyCame cuts a text out of another: that one would be kept with it.
func TestTwinsAreNotKeptAsTheyCame(t *testing.T) {
	b := New()
	whole := strings.Repeat(second, 100)
	cut := whole[35:70]
	if b.put(1, first, weak(first)) != api.OK || b.put(1, cut, weak(cut)) != api.ErrClash {
		t.Fatal("put")
	}
	if _, came, _ := b.Twin(); came != cut || unsafe.StringData(came) == unsafe.StringData(cut) {
		t.Error("it is kept")
	}
}

// TestTwinOfNone is told errors that are no ErrClash.
func TestTwinOfNone(t *testing.T) {
	b := New()
	if b.Put(-1, first) != api.ErrRange || b.Put(1, "short") != api.ErrShort || b.Put(1, first) != api.OK || b.Put(1, first) != api.OK || b.Free(2, first) != api.ErrNone {
		t.Fatal("put")
	}
	expectTwin(t, b, "", "", false)
	if b.put(1, second, weak(second)) != api.OK {
		t.Fatal("put")
	}
	if b.put(1, third, weak(third)) != api.ErrClash {
		t.Fatal("no clash")
	}
	if b.Put(-1, second) != api.ErrRange || b.Put(1, "short") != api.ErrShort || b.Put(1, first) != api.OK || b.Free(2, first) != api.ErrNone {
		t.Fatal("put")
	}
	expectTwin(t, b, second, third, true)
}
