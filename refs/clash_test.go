package refs

import (
	"slices"
	"testing"

	"dormouse/api"
)

// weak is a sum that many texts have: it tells nothing but how long a text is.
func weak(s string) api.Sum { return api.Sum{31: byte(len(s))} }

// clashOf asks all twos, in the order of the chapter's words.
func clashOf(l []string) (int, int, bool) {
	for j := range l {
		for i := range j {
			if len(l[i]) == len(l[j]) && l[i] != l[j] {
				return i, j, true
			}
		}
	}
	return 0, 0, false
}

func TestClashOfExamples(t *testing.T) {
	for _, c := range []struct {
		l    []string
		i, j int
		ok   bool
	}{
		{nil, 0, 0, false}, {[]string{""}, 0, 0, false}, {[]string{"a", "a"}, 0, 0, false}, {[]string{"", "a", "ab"}, 0, 0, false}, {[]string{"a", "ab", "a", "ab", ""}, 0, 0, false},
		{[]string{"a", "b"}, 0, 1, true}, {[]string{"ab", "a", "b"}, 1, 2, true}, {[]string{"a", "ab", "b", "cd"}, 0, 2, true}, {[]string{"a", "ab", "cd", "b"}, 1, 2, true},
		{[]string{"a", "a", "b"}, 0, 2, true}, {[]string{"", "a", "a", "b", "c"}, 1, 3, true}, {[]string{"a", "b", "a", "b"}, 0, 1, true}, {[]string{"ab", "", "cd", ""}, 0, 2, true},
	} {
		if i, j, ok := clash(c.l, weak); i != c.i || j != c.j || ok != c.ok {
			t.Errorf("of %q: %d, %d, %t", c.l, i, j, ok)
		}
	}
}

// TestClashOfAllLists is told all lists of up to seven texts, of six.
func TestClashOfAllLists(t *testing.T) {
	some := []string{"", "a", "b", "aa", "ab", "abc"}
	lists := [][]string{nil}
	found := 0
	for range 7 {
		var longer [][]string
		for _, l := range lists {
			for _, s := range some {
				longer = append(longer, append(slices.Clip(l), s))
			}
		}
		lists = longer
		for _, l := range lists {
			i, j, ok := clash(l, weak)
			if x, y, there := clashOf(l); i != x || j != y || ok != there {
				t.Fatalf("of %q: %d, %d, %t, not %d, %d, %t", l, i, j, ok, x, y, there)
			}
			if ok {
				found++
			}
		}
	}
	if found < 100000 {
		t.Errorf("%d have two", found)
	}
}

func TestClashOfOneSumForAll(t *testing.T) {
	none := func(string) api.Sum { return api.Sum{} }
	if i, j, ok := clash([]string{"a", "a", "", "b"}, none); i != 0 || j != 2 || !ok {
		t.Errorf("%d, %d, %t", i, j, ok)
	}
	if i, j, ok := clash([]string{"a", "a", "a"}, none); i != 0 || j != 0 || ok {
		t.Errorf("%d, %d, %t", i, j, ok)
	}
}

// TestClashHangsOnAllBytesOfASum is told sums that are others in one byte alone.
func TestClashHangsOnAllBytesOfASum(t *testing.T) {
	for at := range len(api.Sum{}) {
		of := func(s string) api.Sum {
			var x api.Sum
			x[at] = s[0]
			return x
		}
		if i, j, ok := clash([]string{"a", "b", "c", "a"}, of); ok || i != 0 || j != 0 {
			t.Errorf("at byte %d: %d, %d, %t", at, i, j, ok)
		}
		if i, j, ok := clash([]string{"a", "b", "c", "b", "cc"}, of); !ok || i != 2 || j != 4 {
			t.Errorf("at byte %d: %d, %d, %t", at, i, j, ok)
		}
	}
}
