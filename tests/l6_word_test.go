package tests

import (
	"math/big"
	"slices"
	"strings"
	"testing"

	"loop.example/g01003/impl"
)

func TestWordLimits(t *testing.T) {
	if impl.MaxWord != 20 || impl.MaxWords != 200 {
		t.Error(impl.MaxWord, impl.MaxWords)
	}
}

func TestIsLapMap(t *testing.T) {
	cases := []struct {
		f  []impl.Point
		is bool
	}{
		{tentMap(), true}, {zigzagMap(), true}, {steepMap(), true},
		{pts(0, 1, 0, 1, 1, 1, 1, 1), true}, // one lap
		{pts(0, 1, 1, 1, 1, 1, 0, 1), true},
		{pts(0, 1, 0, 1, 1, 2, 1, 4, 1, 1, 1, 1), true}, // of two pieces
		{pts(0, 1, 1, 100, 1, 1, 0, 1), true},
		{pts(0, 1, 0, 1, 1, 1, 0, 1), false}, // a slope 0 alone
		{pts(0, 1, 1, 2, 1, 2, 1, 2, 1, 1, 1, 1), false},
		{pts(0, 1, 0, 1, 1, 2, 1, 1, 1, 1, 1, 1), false},
		{pts(0, 1, 0, 1, 1, 3, 1, 2, 2, 3, 1, 2, 1, 1, 1, 1), false},
		{pts(0, 1, 0, 1, 1, 3, 1, 1, 2, 3, 1, 1, 1, 1, 0, 1), false},
	}
	for _, c := range cases {
		if is := impl.IsLapMap(c.f); is != c.is {
			t.Errorf("IsLapMap(%v) is %v", c.f, is)
		}
	}
	for _, f := range mixedMaps(200) {
		if is := impl.IsLapMap(f); is != wantedLapMap(f) {
			t.Errorf("IsLapMap(%v) is %v", f, is)
		}
	}
	for _, f := range invalidMaps() {
		if impl.IsLapMap(f) {
			t.Errorf("IsLapMap(%v) is true", f[:min(len(f), 13)])
		}
	}
}

func TestAddressOf(t *testing.T) {
	bent := pts(0, 1, 0, 1, 1, 4, 1, 8, 1, 2, 1, 1, 3, 4, 1, 2, 1, 1, 0, 1) // two laps of two pieces
	cases := []struct {
		f    []impl.Point
		x    impl.Rat
		want int
	}{
		{tentMap(), rat(0, 1), 0}, {tentMap(), rat(1, 2), 0}, {tentMap(), rat(500000001, most), 1}, {tentMap(), rat(1, 1), 1},
		{bent, rat(1, 4), 0}, {bent, rat(1, 3), 0}, {bent, rat(1, 2), 0}, {bent, rat(51, 100), 1}, {bent, rat(3, 4), 1}, {bent, rat(4, 5), 1},
		{zigzagMap(), rat(1, 11), 0}, {zigzagMap(), rat(2, 11), 1}, {zigzagMap(), rat(10, 11), 9}, {zigzagMap(), rat(21, 22), 10}, {zigzagMap(), rat(1, 1), 10},
		{pts(0, 1, 1, 3, 1, 1, 2, 3), rat(1, 1), 0}, {pts(0, 1, 1, 1, 1, 1, 0, 1), rat(1, 7), 0},
	}
	for _, c := range cases {
		if k, ok := impl.AddressOf(c.f, c.x); k != c.want || !ok {
			t.Errorf("AddressOf(%v, %v) is %v, %v, not %v", c.f, c.x, k, ok, c.want)
		}
	}
	for _, f := range lapMaps() {
		list := units()
		for _, p := range f {
			list = append(list, p.X)
		}
		for _, x := range list {
			if k, ok := impl.AddressOf(f, x); k != wantedAddress(f, x) || !ok {
				t.Fatalf("AddressOf(%v, %v) is %v, %v, not %v", f, x, k, ok, wantedAddress(f, x))
			}
		}
	}
}

func TestItineraryOf(t *testing.T) {
	cases := []struct {
		f    []impl.Point
		x    impl.Rat
		n    int
		want string
		ok   bool
	}{
		{tentMap(), rat(1, 7), 1, "a", true},
		{tentMap(), rat(1, 7), 3, "aab", true},
		{tentMap(), rat(1, 7), impl.MaxWord, "aabbabbabbabbabbabba", true},
		{tentMap(), rat(1, 2), 4, "abaa", true}, // a fraction that two laps share
		{tentMap(), rat(1, 4), 4, "aaba", true},
		{tentMap(), rat(3, 4), 4, "baba", true},
		{tentMap(), rat(2, 3), impl.MaxWord, strings.Repeat("b", 20), true},
		{tentMap(), rat(0, 1), impl.MaxWord, strings.Repeat("a", 20), true},
		{tentMap(), rat(1, 1), 3, "baa", true},
		{tentMap(), rat(1, most), impl.MaxWord, strings.Repeat("a", 20), true},
		{pts(0, 1, 1, 1, 1, 1, 0, 1), rat(1, 7), impl.MaxWord, strings.Repeat("a", 20), true},
		{tentMap(), rat(1, 7), 0, "", false},
		{tentMap(), rat(1, 7), impl.MaxWord + 1, "", false},
		{tentMap(), rat(1, 7), -1, "", false},
		{tentMap(), rat(1, 7), smallest(), "", false},
		{tentMap(), rat(1, 7), smallest() + 1, "", false},
		{tentMap(), rat(1, 7), -1 - smallest(), "", false},
		{pts(0, 1, 0, 1, 1, 2, 1, 1, 1, 1, 1, 1), rat(1, 7), 1, "", false}, // a slope 0
		{growing(), rat(11, most), 1, "a", true},                           // the value is too large, but not a part of the word
		{growing(), rat(11, most), 2, "", false},
	}
	for _, c := range cases {
		want, _ := impl.ParseWord(c.want)
		if word, ok := impl.ItineraryOf(c.f, c.x, c.n); !slices.Equal(word, want) || ok != c.ok {
			t.Errorf("ItineraryOf(%v, %v, %d) is %v, %v, not %v, %v", c.f, c.x, c.n, word, ok, want, c.ok)
		}
	}
}

func TestItinerariesHaveTheAddressesOfOrbits(t *testing.T) {
	made, failed := 0, 0
	for i, f := range lapMaps() {
		for _, x := range orbitStarts(f, i) {
			for _, n := range []int{1, 2, 3, 5, 8, impl.MaxWord - 1, impl.MaxWord} {
				want, wantOK := wantedItinerary(f, x, n)
				word, ok := impl.ItineraryOf(f, x, n)
				if !slices.Equal(word, want) || ok != wantOK {
					t.Fatalf("ItineraryOf(%v, %v, %d) is %v, %v, not %v, %v", f, x, n, word, ok, want, wantOK)
				}
				if ok {
					made++
				} else {
					failed++
				}
			}
		}
	}
	if made < 5000 || failed < 1000 {
		t.Error(made, "words made and", failed, "that are too large: both are to be tested")
	}
}

// Orbits of ordered fractions have words in the twisted order.
func TestOrderedFractionsHaveOrderedWords(t *testing.T) {
	before, same := 0, 0
	for i, f := range lapMaps() {
		list := append(orbitStarts(f, i), rat(1, 3), rat(33333, 100000), rat(33334, 100000), rat(2, 3), rat(66667, 100000))
		for k, x := range list {
			y := list[(7*k+3)%len(list)]
			if bigOf(x).Cmp(bigOf(y)) > 0 {
				x, y = y, x
			}
			for _, n := range []int{1, 2, 3, 4, 7, 12, impl.MaxWord} {
				a, aOK := impl.ItineraryOf(f, x, n)
				b, bOK := impl.ItineraryOf(f, y, n)
				if !aOK || !bOK {
					continue
				}
				order, ok := impl.CompareWords(f, a, b)
				if order > 0 || !ok {
					t.Fatalf("the words of %v and %v for %v, of length %d, have the order %d, %v", x, y, f, n, order, ok)
				}
				back, ok := impl.CompareWords(f, b, a)
				if back != -order || !ok {
					t.Fatalf("the words of %v and %v for %v, of length %d, have the order %d, %v", y, x, f, n, back, ok)
				}
				before -= order
				same += 1 + order
			}
		}
	}
	if before < 3000 || same < 1000 {
		t.Error(before, "different words and", same, "equal ones: both are to be tested")
	}
}

func TestWordSign(t *testing.T) {
	falling := pts(0, 1, 1, 1, 1, 1, 0, 1)
	cases := []struct {
		f    []impl.Point
		word []int
		want int
		ok   bool
	}{
		{tentMap(), nil, 1, true},
		{tentMap(), []int{}, 1, true},
		{tentMap(), []int{0}, 1, true},
		{tentMap(), []int{1}, -1, true},
		{tentMap(), []int{1, 1}, 1, true},
		{tentMap(), []int{0, 1, 0, 0, 1, 1}, -1, true},
		{tentMap(), slices.Repeat([]int{1}, 19), -1, true},
		{tentMap(), slices.Repeat([]int{1}, 20), 1, true},
		{tentMap(), append(slices.Repeat([]int{1}, 19), 0), -1, true},
		{tentMap(), slices.Repeat([]int{1}, 21), 0, false},
		{falling, nil, 1, true},
		{falling, []int{0}, -1, true},
		{falling, []int{0, 0}, 1, true},
		{falling, []int{1}, 0, false},
		{zigzagMap(), []int{10}, 1, true},
		{zigzagMap(), []int{9, 10}, -1, true},
		{zigzagMap(), []int{11}, 0, false},
		{touchingMap(), []int{2, 2}, 1, true},
		{touchingMap(), []int{1, 3}, 0, false},
		{pts(0, 1, 0, 1, 1, 2, 1, 1, 1, 1, 1, 1), nil, 0, false}, // a slope 0
		{pts(0, 1, 0, 1, 1, 2, 1, 1, 1, 1, 1, 1), []int{0}, 0, false},
	}
	for _, c := range cases {
		if sign, ok := impl.WordSign(c.f, c.word); sign != c.want || ok != c.ok {
			t.Errorf("WordSign(%v, %v) is %v, %v, not %v, %v", c.f, c.word, sign, ok, c.want, c.ok)
		}
	}
	for i, f := range lapMaps() {
		for _, word := range someWords(f, i) {
			if sign, ok := impl.WordSign(f, word); sign != wantedSign(f, word) || !ok {
				t.Fatalf("WordSign(%v, %v) is %v, %v", f, word, sign, ok)
			}
		}
	}
}

func TestCompareWords(t *testing.T) {
	cases := []struct {
		a, b string
		want int
		ok   bool
	}{
		{"", "", 0, true},
		{"a", "a", 0, true},
		{"a", "b", -1, true},
		{"b", "a", 1, true},
		{"ab", "ba", -1, true},
		{"ba", "bb", 1, true}, // a sign -1 in front of the place where they differ
		{"bb", "ba", -1, true},
		{"baa", "aba", 1, true},
		{"aba", "abb", 1, true},
		{"bba", "bbb", -1, true}, // two signs -1
		{"bab", "bba", 1, true},  // what comes behind does not count
		{"baa", "bbb", 1, true},
		{strings.Repeat("b", 19) + "a", strings.Repeat("b", 20), 1, true},
		{strings.Repeat("a", 19) + "b", strings.Repeat("a", 20), 1, true},
		{strings.Repeat("b", 20), strings.Repeat("b", 20), 0, true},
		{"", "a", 0, false}, // different lengths
		{"a", "", 0, false},
		{"a", "aa", 0, false},
		{"ab", "b", 0, false},
		{"b", "ab", 0, false},
		{"c", "a", 0, false}, // no lap
		{"a", "c", 0, false},
		{"c", "c", 0, false},
		{"ac", "ac", 0, false},
		{"ca", "b", 0, false},
	}
	for _, c := range cases {
		a, _ := impl.ParseWord(c.a)
		b, _ := impl.ParseWord(c.b)
		if order, ok := impl.CompareWords(tentMap(), a, b); order != c.want || ok != c.ok {
			t.Errorf("CompareWords of %q and %q is %v, %v, not %v, %v", c.a, c.b, order, ok, c.want, c.ok)
		}
	}
	for i, f := range lapMaps() {
		list := append(someWords(f, i), nil)
		for k, a := range list {
			for _, b := range list[:k+1] {
				want, wantOK := 0, len(a) == len(b)
				if wantOK {
					want = wantedOrder(f, a, b)
				}
				if order, ok := impl.CompareWords(f, a, b); order != want || ok != wantOK {
					t.Fatalf("CompareWords(%v, %v, %v) is %v, %v, not %v, %v", f, a, b, order, ok, want, wantOK)
				}
			}
		}
	}
}

// checkCylinder compares CylinderOf and IsAdmissible with what is wanted, and returns whether the word is admissible.
func checkCylinder(t *testing.T, f []impl.Point, word []int) (bool, bool) {
	t.Helper()
	want, wantOK := wantedCylinder(f, word)
	if c, ok := impl.CylinderOf(f, word); c != want || ok != wantOK {
		t.Fatalf("CylinderOf(%v, %v) is %v, %v, not %v, %v", f, word, c, ok, want, wantOK)
	}
	wantIs, wantIsOK := wantedAdmissible(f, word)
	is, ok := impl.IsAdmissible(f, word)
	if is != wantIs || ok != wantIsOK {
		t.Fatalf("IsAdmissible(%v, %v) is %v, %v, not %v, %v", f, word, is, ok, wantIs, wantIsOK)
	}
	return is, ok
}

func TestCylindersAreAsWanted(t *testing.T) {
	wide, single, none, large := 0, 0, 0, 0
	for i, f := range lapMaps() {
		for _, word := range someWords(f, i) {
			is, ok := checkCylinder(t, f, word)
			ends, _ := wantedEnds(f, word)
			switch {
			case !ok:
				large++
			case is:
				wide++
			case len(ends) == 0:
				none++
			default:
				single++
			}
		}
	}
	if wide < 1000 || single < 100 || none < 500 || large < 400 {
		t.Error(wide, "admissible words,", single, "with one fraction,", none, "with none,", large, "too large: all are to be tested")
	}
}

// The fractions of a cylinder, and no others, run through the laps of its word.
func TestFractionsOfCylindersRunThroughTheirLaps(t *testing.T) {
	met := 0
	tiny := big.NewRat(1, 1000000000000)
	for i, f := range lapMaps() {
		for _, word := range someWords(f, i) {
			c, ok := impl.CylinderOf(f, word)
			if !ok {
				continue
			}
			met++
			a, b := bigOf(c.A), bigOf(c.B)
			length := new(big.Rat).Sub(b, a)
			for _, share := range []*big.Rat{new(big.Rat), big.NewRat(1, 7), big.NewRat(1, 2), big.NewRat(96, 97), big.NewRat(1, 1)} {
				x := new(big.Rat).Mul(length, share)
				if x.Add(x, a); !runsThrough(f, word, x) {
					t.Fatalf("CylinderOf(%v, %v) is %v, but %v does not run through the laps", f, word, c, x)
				}
			}
			for _, x := range []*big.Rat{new(big.Rat).Sub(a, tiny), new(big.Rat).Add(b, tiny)} {
				if runsThrough(f, word, x) {
					t.Fatalf("CylinderOf(%v, %v) is %v, but %v runs through the laps", f, word, c, x)
				}
			}
		}
	}
	if met < 1000 {
		t.Error("only", met, "cylinders")
	}
}

func TestCylinderOf(t *testing.T) {
	line := pts(0, 1, 1, 3, 1, 1, 2, 3)
	bent := pts(0, 1, 1, 1, 1, 8, 1, 2, 1, 2, 0, 1, 1, 1, 1, 1) // its first lap has two pieces
	cases := []struct {
		f    []impl.Point
		word string
		want impl.Interval
		is   bool
		ok   bool
	}{
		{tentMap(), "a", interval(0, 1, 1, 2), true, true},
		{tentMap(), "b", interval(1, 2, 1, 1), true, true},
		{tentMap(), "ab", interval(1, 4, 1, 2), true, true},
		{tentMap(), "ba", interval(3, 4, 1, 1), true, true},
		{tentMap(), "bb", interval(1, 2, 3, 4), true, true},
		{tentMap(), strings.Repeat("a", 20), interval(0, 1, 1, 1048576), true, true},
		{tentMap(), "", impl.Interval{}, false, false},
		{tentMap(), "c", impl.Interval{}, false, false},
		{line, "a", interval(0, 1, 1, 1), true, true}, // one lap
		{line, "aa", interval(0, 1, 1, 1), true, true},
		{line, strings.Repeat("a", 20), interval(0, 1, 1, 1), true, true},
		{bent, "a", interval(0, 1, 1, 2), true, true},
		{bent, "ab", interval(0, 1, 1, 8), true, true}, // the end of a piece within a lap
		{bent, "aa", interval(1, 8, 1, 2), true, true},
		{bent, "aba", interval(1, 16, 1, 8), true, true},
		{touchingMap(), "aa", interval(0, 1, 1, 3), true, true},
		{touchingMap(), "ab", impl.Interval{}, false, true}, // 1/3 alone
		{touchingMap(), "ac", impl.Interval{}, false, true}, // none
		{touchingMap(), "aab", impl.Interval{}, false, true},
		{touchingMap(), "bc", impl.Interval{}, false, true},
		{touchingMap(), "ba", interval(1, 3, 2, 3), true, true},
		{touchingMap(), "bb", impl.Interval{}, false, true}, // 1/3 alone, in a lap that falls
		{touchingMap(), "cc", interval(8, 9, 1, 1), true, true},
		{touchingMap(), "cac", impl.Interval{}, false, true}, // none of a word within it
		{steepMap(), strings.Repeat("a", 9), interval(0, 1, 1, most), true, true},
		{steepMap(), strings.Repeat("a", 10), impl.Interval{}, false, false}, // the last cylinder is too large
		{steepMap(), strings.Repeat("a", 20), impl.Interval{}, false, false},
		{smallerElsewhere(), "aaaa", interval(0, 1, 1, 100000000), true, true},
		{smallerElsewhere(), "aaaaa", impl.Interval{}, false, false},
		{smallerElsewhere(), "caaaa", interval(1, 2, 50000001, 100000000), true, true}, // what is too large in another lap does not count
		{smallerElsewhere(), "baaaa", impl.Interval{}, false, false},                   // another lap has smaller ones
		{singleTooLarge(), "cb", impl.Interval{}, false, true},                         // 87/98 alone
		{singleTooLarge(), "acb", impl.Interval{}, false, false},                       // in the first lap, what is before it is too large
		{singleTooLarge(), "ccb", impl.Interval{}, false, true},                        // and in the last one it is not
	}
	for _, c := range cases {
		word, _ := impl.ParseWord(c.word)
		if got, ok := impl.CylinderOf(c.f, word); got != c.want || ok != (c.is && c.ok) {
			t.Errorf("CylinderOf(%v, %q) is %v, %v, not %v", c.f, c.word, got, ok, c.want)
		}
		if is, ok := impl.IsAdmissible(c.f, word); is != c.is || ok != c.ok {
			t.Errorf("IsAdmissible(%v, %q) is %v, %v, not %v, %v", c.f, c.word, is, ok, c.is, c.ok)
		}
	}
}

func interval(a, b, c, d int) impl.Interval {
	return impl.Interval{A: rat(a, b), B: rat(c, d)}
}

func sameWords(a, b [][]int) bool {
	return slices.EqualFunc(a, b, func(a, b []int) bool { return slices.Equal(a, b) })
}

func TestAdmissibleWordsAreAsWanted(t *testing.T) {
	made, failed, large := 0, 0, 0
	for _, f := range lapMaps() {
		total := 1
		for n := 1; n <= 6; n++ {
			total *= len(wantedLaps(f))
			if total > 1500 {
				break
			}
			want, wantOK := wantedWords(f, n)
			list, ok := impl.AdmissibleWords(f, n)
			if !sameWords(list, want) || ok != wantOK {
				t.Fatalf("AdmissibleWords(%v, %d) is %v, %v, not %v, %v", f, n, list, ok, want, wantOK)
			}
			greatest, greatestOK := impl.GreatestWord(f, n)
			if greatestOK != wantOK {
				t.Fatalf("GreatestWord(%v, %d) is %v, %v", f, n, greatest, greatestOK)
			}
			if !ok {
				failed++
				if total <= impl.MaxWords {
					large++
				}
				continue
			}
			made++
			for _, word := range want {
				if wantedOrder(f, word, greatest) > 0 {
					t.Fatalf("GreatestWord(%v, %d) is %v, but %v is greater", f, n, greatest, word)
				}
			}
			if !slices.ContainsFunc(want, func(word []int) bool { return slices.Equal(word, greatest) }) {
				t.Fatalf("GreatestWord(%v, %d) is %v, which is not admissible", f, n, greatest)
			}
		}
	}
	if made < 300 || failed < 50 || large < 25 {
		t.Error(made, "lists,", failed, "that fail,", large, "of them for a part that is too large: all are to be tested")
	}
}

// The cylinders of all admissible words, in the twisted order, follow each other from 0 to 1.
func TestCylindersFollowEachOther(t *testing.T) {
	met := 0
	for _, f := range lapMaps() {
		for n := 1; n <= 6; n++ {
			list, ok := impl.AdmissibleWords(f, n)
			if !ok {
				continue
			}
			met++
			slices.SortFunc(list, func(a, b []int) int {
				order, _ := impl.CompareWords(f, a, b)
				return order
			})
			end := rat(0, 1)
			for _, word := range list {
				c, ok := impl.CylinderOf(f, word)
				if !ok || c.A != end {
					t.Fatalf("CylinderOf(%v, %v) is %v, %v, and does not begin at %v", f, word, c, ok, end)
				}
				end = c.B
			}
			if greatest, ok := impl.GreatestWord(f, n); end != rat(1, 1) || !ok || !slices.Equal(greatest, list[len(list)-1]) {
				t.Fatalf("the cylinders of %v of length %d end at %v, and the greatest word is %v, %v", f, n, end, greatest, ok)
			}
		}
	}
	if met < 300 {
		t.Error("only", met, "lists")
	}
}

func TestNumbersOfAdmissibleWords(t *testing.T) {
	cases := []struct {
		f    string
		n    int
		want int
	}{
		{"0/1 0/1;1/2 1/1;1/1 0/1;", 1, 2},
		{"0/1 0/1;1/2 1/1;1/1 0/1;", 6, 64},
		{"0/1 1/3;1/1 2/3;", 6, 1}, // one lap
		{"0/1 1/1;1/1 0/1;", 1, 1},
		{"0/1 0/1;1/3 1/1;2/3 0/1;1/1 1/1;", 4, 81},
		{"0/1 0/1;1/3 1/1;2/3 0/1;1/1 1/1;", 5, -1}, // 243
		{"0/1 0/1;1/3 1/1;2/3 0/1;1/1 1/1;", 6, -1},
		{"0/1 1/4;1/5 1/1;1/4 1/5;1/3 1/1;2/5 2/5;1/2 1/2;3/5 0/1;2/3 1/1;3/4 3/4;4/5 4/5;1/1 1/1;", 3, 200},
		{"0/1 2/3;1/5 1/1;1/4 1/4;1/3 0/1;2/5 1/1;1/2 2/5;3/5 4/5;3/4 3/4;1/1 1/1;", 4, 200},
		{"0/1 1/4;2/5 1/1;2/3 0/1;1/1 1/1;", 5, 200},
		{"0/1 3/5;2/5 1/4;1/2 1/1;1/1 1/5;", 6, 200},
		{"0/1 3/5;1/5 1/3;1/4 0/1;1/3 1/1;2/5 0/1;1/2 1/1;2/3 0/1;3/4 3/4;1/1 1/1;", 3, -1}, // 201
		{"0/1 0/1;1/5 1/3;1/4 1/4;1/3 1/3;2/5 2/5;1/2 1/2;3/5 1/1;2/3 0/1;3/4 3/4;4/5 1/1;1/1 4/5;", 4, -1},
		{"0/1 1/2;5/7 1/1;7/9 0/1;11/12 1/10;1/1 1/1;", 5, -1},
		{"0/1 0/1;1/4 1/4;1/3 0/1;1/2 1/2;2/3 3/4;3/4 0/1;1/1 1/2;", 6, -1},
		{"0/1 0/1;1/100 1/1;1/2 0/1;1/1 1/2;", 4, 60},
		{"0/1 0/1;1/100 1/1;1/2 0/1;1/1 1/2;", 5, -1}, // a cylinder is too large
	}
	for _, c := range cases {
		f, ok := impl.ParseMap(c.f)
		if !ok {
			t.Fatal(c.f, "is no map")
		}
		list, ok := impl.AdmissibleWords(f, c.n)
		if ok != (c.want >= 0) || len(list) != max(c.want, 0) {
			t.Errorf("AdmissibleWords(%s, %d) has %d words, %v, not %d", c.f, c.n, len(list), ok, c.want)
		}
		if word, ok := impl.GreatestWord(f, c.n); ok != (c.want >= 0) || len(word) != c.n && ok || len(word) != 0 && !ok {
			t.Errorf("GreatestWord(%s, %d) is %v, %v", c.f, c.n, word, ok)
		}
	}
	for n, want := range []int{1: 11, 2: 121, 3: -1, 4: -1, 5: -1, 6: -1} {
		if list, ok := impl.AdmissibleWords(zigzagMap(), n); n > 0 && (ok != (want >= 0) || len(list) != max(want, 0)) {
			t.Errorf("AdmissibleWords(%v, %d) has %d words, %v, not %d", zigzagMap(), n, len(list), ok, want)
		}
	}
}

func TestListsOfWordsInOrder(t *testing.T) {
	list, ok := impl.AdmissibleWords(tentMap(), 3)
	if !sameWords(list, allWords(2, 3)) || !ok {
		t.Error("words of the tent", list, ok)
	}
	list, ok = impl.AdmissibleWords(touchingMap(), 2)
	if want := [][]int{{0, 0}, {1, 0}, {2, 0}, {2, 1}, {2, 2}}; !sameWords(list, want) || !ok {
		t.Error("words", list, ok)
	}
	for n, want := range []string{1: "b", 2: "ba", 3: "baa", 4: "baaa", 5: "baaaa", 6: "baaaaa"} {
		if word, ok := impl.GreatestWord(tentMap(), n); n > 0 {
			if s, textOK := impl.WordText(word); s != want || !ok || !textOK {
				t.Error("the greatest word of the tent of length", n, "is", word, ok)
			}
		}
	}
	for _, c := range []struct {
		f    []impl.Point
		n    int
		want []int
	}{
		{pts(0, 1, 1, 1, 1, 1, 0, 1), 6, []int{0, 0, 0, 0, 0, 0}},
		{pts(0, 1, 1, 1, 1, 2, 0, 1, 1, 1, 1, 1), 4, []int{1, 1, 1, 1}},
		{pts(0, 1, 0, 1, 1, 2, 3, 4, 1, 1, 0, 1), 4, []int{1, 0, 0, 0}},
		{touchingMap(), 3, []int{2, 2, 2}},
		{zigzagMap(), 2, []int{10, 10}},
	} {
		if word, ok := impl.GreatestWord(c.f, c.n); !slices.Equal(word, c.want) || !ok {
			t.Errorf("GreatestWord(%v, %d) is %v, %v, not %v", c.f, c.n, word, ok, c.want)
		}
	}
	for _, n := range []int{0, -1, 7, 8, 20, 200, smallest(), smallest() + 1, -1 - smallest(), 1<<32 + 1} {
		for _, f := range [][]impl.Point{tentMap(), pts(0, 1, 0, 1, 1, 1, 1, 1)} {
			if list, ok := impl.AdmissibleWords(f, n); len(list) != 0 || ok {
				t.Errorf("AdmissibleWords(%v, %d) is %v, %v", f, n, list, ok)
			}
			if word, ok := impl.GreatestWord(f, n); len(word) != 0 || ok {
				t.Errorf("GreatestWord(%v, %d) is %v, %v", f, n, word, ok)
			}
		}
	}
}

func TestWordTextsAreReadBack(t *testing.T) {
	var alphabet []int
	for k := range 26 {
		alphabet = append(alphabet, k)
	}
	for k := range alphabet {
		for n := range impl.MaxWord + 1 {
			for _, word := range [][]int{slices.Repeat(alphabet[k:k+1], n), alphabet[k:min(k+n, 26)]} {
				var want strings.Builder
				for _, number := range word {
					want.WriteByte("abcdefghijklmnopqrstuvwxyz"[number])
				}
				s, ok := impl.WordText(word)
				if s != want.String() || !ok {
					t.Errorf("WordText(%v) is %q, %v", word, s, ok)
				}
				if back, ok := impl.ParseWord(s); !slices.Equal(back, word) || !ok {
					t.Errorf("ParseWord(%q) is %v, %v", s, back, ok)
				}
			}
		}
	}
	for _, bad := range []int{-1, 26, 27, -26, 97, 256, 257, -256, 1 << 32, 1<<32 + 1, smallest(), smallest() + 1, -1 - smallest()} {
		for _, word := range [][]int{{bad}, {0, bad}, {bad, 0}, append(make([]int, 19), bad)} {
			if s, ok := impl.WordText(word); s != "" || ok {
				t.Errorf("WordText(%v) is %q, %v", word, s, ok)
			}
		}
	}
	for _, n := range []int{21, 22, 100000} {
		if s, ok := impl.WordText(make([]int, n)); s != "" || ok {
			t.Errorf("WordText of %d numbers is %q, %v", n, s, ok)
		}
		if word, ok := impl.ParseWord(strings.Repeat("a", n)); len(word) != 0 || ok {
			t.Errorf("ParseWord of %d letters is %v, %v", n, word, ok)
		}
	}
}

func TestTextsOfNoWord(t *testing.T) {
	for b := range 256 {
		letter := string([]byte{byte(b)})
		is := b >= 'a' && b <= 'z'
		for _, s := range []string{letter, "a" + letter, letter + "z", "a" + letter + "z"} {
			if word, ok := impl.ParseWord(s); ok != is || len(word) != len(s) && is || len(word) != 0 && !is {
				t.Errorf("ParseWord(%q) is %v, %v", s, word, ok)
			}
		}
	}
	for _, s := range []string{"A", "aB", " a", "a ", "a b", "a\n", "ä", "š", "aš", "\U00010061", "a\x80", "\xff", "1", "-", "`", "{", "é", "ａ"} {
		if word, ok := impl.ParseWord(s); len(word) != 0 || ok {
			t.Errorf("ParseWord(%q) is %v, %v", s, word, ok)
		}
	}
}

// noWords tests that all functions of a word, a fraction and a length have no results.
func noWords(t *testing.T, f []impl.Point, x impl.Rat, n int, a, b []int) {
	t.Helper()
	wrong := func(name string, result any) {
		t.Errorf("%s of %v, %v, %d, %v and %v is %v", name, f[:min(len(f), 13)], x, n, a[:min(len(a), 21)], b[:min(len(b), 21)], result)
	}
	if k, ok := impl.AddressOf(f, x); k != 0 || ok {
		wrong("AddressOf", k)
	}
	if word, ok := impl.ItineraryOf(f, x, n); len(word) != 0 || ok {
		wrong("ItineraryOf", word)
	}
	if sign, ok := impl.WordSign(f, a); sign != 0 || ok {
		wrong("WordSign", sign)
	}
	if order, ok := impl.CompareWords(f, a, b); order != 0 || ok {
		wrong("CompareWords", order)
	}
	if c, ok := impl.CylinderOf(f, a); c != (impl.Interval{}) || ok {
		wrong("CylinderOf", c)
	}
	if is, ok := impl.IsAdmissible(f, a); is || ok {
		wrong("IsAdmissible", is)
	}
}

func TestInvalidArgumentsHaveNoWords(t *testing.T) {
	flat := [][]impl.Point{pts(0, 1, 0, 1, 1, 1, 0, 1), pts(0, 1, 0, 1, 1, 2, 1, 1, 1, 1, 1, 1), pts(0, 1, 1, 2, 1, 2, 1, 2, 1, 1, 1, 1)}
	for _, f := range append(invalidMaps(), flat...) {
		for _, word := range [][]int{nil, {}, {0}, {0, 0}, {1}, {-1}, make([]int, 21)} {
			for _, n := range []int{-1, 0, 1, 3, 6, 20, 21} {
				noWords(t, f, rat(0, 1), n, word, word)
				noWords(t, f, impl.Rat{}, n, word, nil)
				if list, ok := impl.AdmissibleWords(f, n); len(list) != 0 || ok {
					t.Errorf("AdmissibleWords(%v, %d) is %v, %v", f[:min(len(f), 13)], n, list, ok)
				}
				if word, ok := impl.GreatestWord(f, n); len(word) != 0 || ok {
					t.Errorf("GreatestWord(%v, %d) is %v, %v", f[:min(len(f), 13)], n, word, ok)
				}
			}
		}
	}
	for i, f := range lapMaps() {
		if i%5 != 0 {
			continue
		}
		for _, bad := range invalidWords(len(wantedLaps(f))) {
			for _, x := range invalidUnits() {
				noWords(t, f, x, 1, bad, bad)
			}
			noWords(t, f, rat(2, 1), impl.MaxWord, bad, make([]int, min(len(bad), impl.MaxWord)))
			if order, ok := impl.CompareWords(f, make([]int, len(bad)), bad); order != 0 || ok {
				t.Errorf("CompareWords(%v, zeros, %v) is %v, %v", f, bad[:min(len(bad), 21)], order, ok)
			}
		}
		for _, x := range invalidUnits() {
			for _, n := range []int{-1, 0, 1, 2, 20, 21} {
				if word, ok := impl.ItineraryOf(f, x, n); len(word) != 0 || ok {
					t.Errorf("ItineraryOf(%v, %v, %d) is %v, %v", f, x, n, word, ok)
				}
			}
		}
		for _, empty := range [][]int{nil, {}} {
			if c, ok := impl.CylinderOf(f, empty); c != (impl.Interval{}) || ok {
				t.Errorf("CylinderOf(%v) of the empty word is %v, %v", f, c, ok)
			}
			if is, ok := impl.IsAdmissible(f, empty); is || ok {
				t.Errorf("IsAdmissible(%v) of the empty word is %v, %v", f, is, ok)
			}
		}
	}
}

func overwriteInts(list []int) {
	for i := range list[:cap(list)] {
		list[:cap(list)][i] = -7
	}
}

// No function of words writes to its arguments or behind them, and no result is part of them or of another one.
func TestWordsLeaveArgumentsAsTheyAre(t *testing.T) {
	lists := append(lapMaps(), invalidMaps()...)
	for _, f := range append(lists, plainMaps()...) {
		given := spare(f)
		for _, word := range [][]int{nil, {}, {0}, {1, 0}, {0, 1, 1}, {0, -1, 5}, make([]int, 20), make([]int, 21)} {
			first, second := spareInts(word), spareInts(word)
			impl.IsLapMap(given)
			impl.AddressOf(given, rat(1, 3))
			itinerary, _ := impl.ItineraryOf(given, rat(1, 3), 20)
			overwriteInts(itinerary)
			impl.WordSign(given, first)
			impl.CompareWords(given, first, second)
			impl.CompareWords(given, first, first)
			impl.CylinderOf(given, first)
			impl.IsAdmissible(given, first)
			impl.WordText(first)
			if !sameIntsWithSpare(first, word) || !sameIntsWithSpare(second, word) {
				t.Errorf("%v has become %v and %v", word, first, second)
			}
		}
		for n := range 8 {
			greatest, _ := impl.GreatestWord(given, n)
			overwriteInts(greatest)
			list, _ := impl.AdmissibleWords(given, n)
			for i, word := range list {
				want := slices.Clone(word)
				if i > 0 {
					overwriteInts(list[i-1])
				}
				if !slices.Equal(word, want) {
					t.Fatalf("AdmissibleWords(%v, %d) has words that share memory", f, n)
				}
			}
		}
		if !sameWithSpare(given, f) {
			t.Errorf("%v has become %v", f, given)
		}
	}
	// Two calls give the same result, whatever has been done to the first one.
	first, _ := impl.ParseWord("baa")
	overwriteInts(first)
	if second, ok := impl.ParseWord("baa"); !ok || !slices.Equal(second, []int{1, 0, 0}) {
		t.Error("the second word is", second, ok)
	}
}
