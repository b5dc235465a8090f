package tests

import (
	"cmp"
	"math/big"
	"math/rand"
	"slices"

	"loop.example/g01003/impl"
)

// Laps, words and cylinders, found as the document's chapter 6 tells them, with exact values of any size.

// lapMaps returns lap maps of all kinds: with one lap and with 11, with several pieces in a lap, with few points of small Dens,
// where laps often lead to the end of another one, and with Dens of up to MaxCoord.
func lapMaps() [][]impl.Point {
	r := rand.New(rand.NewSource(6))
	list := mixedMaps(40)
	for i := range 160 {
		list = append(list, mixedMap(r, 2+r.Intn(5), []int{2, 3, 4, 5, 6, 12, impl.MaxCoord, impl.MaxCoord}[i%8]))
	}
	list = append(list, steepMap(), smallerElsewhere(), touchingMap(), singleTooLarge())
	return slices.DeleteFunc(list, func(f []impl.Point) bool { return !wantedLapMap(f) })
}

// smallerElsewhere returns a map whose first lap makes fractions 100 times smaller, and whose last one keeps their size.
func smallerElsewhere() []impl.Point {
	return pts(0, 1, 0, 1, 1, 100, 1, 1, 1, 2, 0, 1, 1, 1, 1, 2)
}

// touchingMap returns a map with three laps, of which the first one leads to the first one, and the others to the other two:
// the end that they share is all that is common to them.
func touchingMap() []impl.Point {
	return pts(0, 1, 0, 1, 1, 3, 1, 3, 2, 3, 0, 1, 1, 1, 1, 1)
}

// singleTooLarge returns a map in which the cylinder of 2, 1 is 87/98 alone, with a fraction before it in the first lap that is too large.
func singleTooLarge() []impl.Point {
	return pts(0, 1, 0, 1, 46, 67, 4, 89, 71, 98, 67, 69, 87, 98, 87, 98, 1, 1, 1, 1)
}

func wantedLapMap(f []impl.Point) bool {
	for i := range f[1:] {
		if f[i].Y == f[i+1].Y {
			return false
		}
	}
	return true
}

// wantedLaps returns the points of each lap of a lap map.
func wantedLaps(f []impl.Point) [][]impl.Point {
	var laps [][]impl.Point
	start := 0
	for i := 1; i < len(f); i++ {
		if i+1 == len(f) || bigSlope(f[i-1], f[i]).Sign() != bigSlope(f[i], f[i+1]).Sign() {
			laps = append(laps, f[start:i+1])
			start = i
		}
	}
	return laps
}

func hasFraction(lap []impl.Point, x *big.Rat) bool {
	return bigOf(lap[0].X).Cmp(x) <= 0 && x.Cmp(bigOf(lap[len(lap)-1].X)) <= 0
}

func wantedAddress(f []impl.Point, x impl.Rat) int {
	return slices.IndexFunc(wantedLaps(f), func(lap []impl.Point) bool { return hasFraction(lap, bigOf(x)) })
}

func wantedItinerary(f []impl.Point, x impl.Rat, n int) ([]int, bool) {
	orbit := slowOrbit(f, x, n-1)
	if len(orbit) < n {
		return nil, false
	}
	var word []int
	for _, y := range orbit {
		word = append(word, wantedAddress(f, y))
	}
	return word, true
}

func wantedSign(f []impl.Point, word []int) int {
	laps := wantedLaps(f)
	sign := 1
	for _, k := range word {
		if bigSlope(laps[k][0], laps[k][1]).Sign() < 0 {
			sign = -sign
		}
	}
	return sign
}

// wantedOrder compares two words of the same length in the twisted order.
func wantedOrder(f []impl.Point, a, b []int) int {
	for i := range a {
		if a[i] != b[i] {
			if wantedSign(f, a[:i]) == 1 {
				return cmp.Compare(a[i], b[i])
			}
			return cmp.Compare(b[i], a[i])
		}
	}
	return 0
}

// wantedEnds returns the ends of the cylinder of a word, or none if it has no fractions. It fails if one on the way is too large.
func wantedEnds(f []impl.Point, word []int) ([]impl.Rat, bool) {
	laps := wantedLaps(f)
	lap := laps[word[0]]
	ends := []impl.Rat{lap[0].X, lap[len(lap)-1].X}
	if len(word) == 1 {
		return ends, true
	}
	values, ok := wantedEnds(f, word[1:])
	if !ok || len(values) == 0 {
		return nil, ok
	}
	low, high := lap[0].Y, lap[len(lap)-1].Y
	if bigOf(low).Cmp(bigOf(high)) > 0 {
		low, high = high, low
	}
	if bigOf(values[0]).Cmp(bigOf(low)) > 0 {
		low = values[0]
	}
	if bigOf(values[1]).Cmp(bigOf(high)) < 0 {
		high = values[1]
	}
	if bigOf(low).Cmp(bigOf(high)) > 0 {
		return nil, true
	}
	first, firstOK := wantedBefore(lap, low)
	second, secondOK := wantedBefore(lap, high)
	if !firstOK || !secondOK {
		return nil, false
	}
	ends = append(first, second...)
	slices.SortFunc(ends, func(a, b impl.Rat) int { return bigOf(a).Cmp(bigOf(b)) })
	return ends, true
}

func wantedCylinder(f []impl.Point, word []int) (impl.Interval, bool) {
	ends, ok := wantedEnds(f, word)
	if !ok || len(ends) == 0 || ends[0] == ends[1] {
		return impl.Interval{}, false
	}
	return impl.Interval{A: ends[0], B: ends[1]}, true
}

func wantedAdmissible(f []impl.Point, word []int) (bool, bool) {
	ends, ok := wantedEnds(f, word)
	return ok && len(ends) > 0 && ends[0] != ends[1], ok
}

// wantedWords looks at all words of a length, in lexicographic order.
func wantedWords(f []impl.Point, n int) ([][]int, bool) {
	var list [][]int
	for _, word := range allWords(len(wantedLaps(f)), n) {
		is, ok := wantedAdmissible(f, word)
		if !ok {
			return nil, false
		}
		if is {
			list = append(list, word)
		}
	}
	if len(list) > impl.MaxWords {
		return nil, false
	}
	return list, true
}

// allWords returns all words of a length, in lexicographic order.
func allWords(laps, n int) [][]int {
	list := [][]int{nil}
	for range n {
		var longer [][]int
		for _, word := range list {
			for k := range laps {
				longer = append(longer, append(slices.Clone(word), k))
			}
		}
		list = longer
	}
	return list
}

// runsThrough reports whether x is in the first lap of a word, its value in the second one, and so on.
func runsThrough(f []impl.Point, word []int, x *big.Rat) bool {
	laps := wantedLaps(f)
	for _, k := range word {
		if x.Sign() < 0 || x.Cmp(big.NewRat(1, 1)) > 0 || !hasFraction(laps[k], x) {
			return false
		}
		x = bigValue(f, x)
	}
	return true
}

// someWords returns words, not empty, of some fractions, others near them, and others of all lengths.
func someWords(f []impl.Point, seed int) [][]int {
	r := rand.New(rand.NewSource(int64(seed)))
	laps := len(wantedLaps(f))
	all := units()
	list := allWords(laps, 1)
	if laps < 5 {
		list = append(list, allWords(laps, 2)...)
		list = append(list, allWords(laps, 3)...)
	}
	for i := range 20 {
		n := 1 + r.Intn(8)
		if i%5 == 0 {
			n = 1 + r.Intn(impl.MaxWord)
		}
		word, ok := wantedItinerary(f, all[r.Intn(len(all))], n)
		if !ok {
			continue
		}
		near := slices.Clone(word)
		near[r.Intn(n)] = r.Intn(laps)
		list = append(list, word, near)
	}
	for range 10 {
		var word []int
		for range 1 + r.Intn(impl.MaxWord) {
			word = append(word, r.Intn(laps))
		}
		list = append(list, word)
	}
	for k := range min(laps, 3) {
		for _, n := range []int{4, 6, 9, 10, impl.MaxWord} {
			list = append(list, slices.Repeat([]int{k}, n), append(slices.Repeat([]int{k}, n-1), laps-1))
		}
	}
	return list
}

// invalidWords returns lists that are no words of a number of laps.
func invalidWords(laps int) [][]int {
	list := [][]int{make([]int, impl.MaxWord+1), make([]int, 22), make([]int, 100000)}
	for _, bad := range []int{-1, -2, laps, laps + 1, 26, -smallest(), smallest(), 1 << 32, 1 << 62} {
		if bad >= 0 && bad < laps {
			continue
		}
		list = append(list, []int{bad}, []int{0, bad}, []int{bad, 0}, []int{0, bad, 0}, []int{bad, bad})
		full := make([]int, impl.MaxWord)
		full[impl.MaxWord-1] = bad
		list = append(list, full)
	}
	return list
}

// smallest returns the int that is its own opposite.
func smallest() int {
	return -1 << 63
}

// spareInts returns the numbers with others behind their length, which no function may touch.
func spareInts(list []int) []int {
	all := append(slices.Clone(list), 77, 0, 1, 0, -1)
	return all[:len(list):len(all)]
}

func sameIntsWithSpare(given, list []int) bool {
	want := spareInts(list)
	return slices.Equal(given, list) && slices.Equal(given[:cap(given)], want[:cap(want)])
}
