package tests

import (
	"math/big"
	"math/rand"
	"slices"
	"strings"

	"loop.example/g01003/impl"
)

// Kneading sequences and words over left, centre and right, found as the document's chapter 7 tells them, with exact values of any size.

// wantedUnimodal reports whether the Y of a map rise up to one point and fall behind it.
func wantedUnimodal(f []impl.Point) bool {
	top := highestPoint(f)
	for i := range f[1:] {
		rise := bigOf(f[i+1].Y).Cmp(bigOf(f[i].Y))
		if i < top && rise <= 0 || i >= top && rise >= 0 {
			return false
		}
	}
	return top > 0 && top < len(f)-1
}

func highestPoint(f []impl.Point) int {
	top := 0
	for i, p := range f {
		if bigOf(p.Y).Cmp(bigOf(f[top].Y)) > 0 {
			top = i
		}
	}
	return top
}

// wantedTurningValues returns the fractions behind 1, ..., n steps from the highest point of a unimodal map on.
func wantedTurningValues(f []impl.Point, n int) ([]impl.Rat, bool) {
	orbit := slowOrbit(f, f[highestPoint(f)].X, n)
	if len(orbit) <= n {
		return nil, false
	}
	return orbit[1:], true
}

func wantedKneading(f []impl.Point, n int) (string, bool) {
	values, ok := wantedTurningValues(f, n)
	word := ""
	for _, x := range values {
		switch bigOf(x).Cmp(bigOf(f[highestPoint(f)].X)) {
		case -1:
			word += "L"
		case 0:
			word += "C"
		case 1:
			word += "R"
		}
	}
	return word, ok
}

// wantedPlace returns for each letter -1, 0 or 1, with the other sign if an odd number of R comes before it:
// words are in the order of these lists.
func wantedPlace(word string) []int {
	var list []int
	sign := 1
	for _, letter := range word {
		switch letter {
		case 'L':
			list = append(list, -sign)
		case 'C':
			list = append(list, 0)
		case 'R':
			list = append(list, sign)
			sign = -sign
		}
	}
	return list
}

func wantedKneadingOrder(s, t string) int {
	return slices.Compare(wantedPlace(s), wantedPlace(t))
}

func wantedMaximal(s string) bool {
	for k := 1; k < len(s); k++ {
		if wantedKneadingOrder(s[k:], s[:len(s)-k]) > 0 {
			return false
		}
	}
	return true
}

// wantedProduct puts a word before each letter, and exchanges the letters if the word has an odd number of R.
func wantedProduct(s, t string) string {
	if strings.Count(s, "R")%2 == 1 {
		t = strings.NewReplacer("L", "R", "R", "L").Replace(t)
	}
	product := ""
	for _, letter := range t {
		product += s + string(letter)
	}
	return product
}

// wantedHeight looks at all heights from the least one on.
func wantedHeight(s string) (impl.Rat, bool) {
	var height impl.Rat
	for k := 51; k <= 100; k++ {
		h, _ := fractionOf(big.NewRat(int64(k), 100))
		word, ok := wantedKneading(pts(0, 1, 0, 1, 1, 2, h.Num, h.Den, 1, 1, 0, 1), len(s))
		if ok && wantedKneadingOrder(word, s) <= 0 {
			height = h
		}
	}
	return height, height != impl.Rat{}
}

// kneadingWords returns all words of a length.
func kneadingWords(n int) []string {
	list := []string{""}
	for range n {
		var longer []string
		for _, word := range list {
			longer = append(longer, word+"L", word+"C", word+"R")
		}
		list = longer
	}
	return list
}

// longWords returns words of all lengths: mixed ones, others that differ from them in one letter, and repeated ones.
func longWords() []string {
	r := rand.New(rand.NewSource(7))
	var list []string
	for n := 1; n <= impl.MaxKneading; n++ {
		for i := range 6 {
			alphabet := []string{"LCR", "LR", "LRRRR", "LCRRR", "LLLCR", "R"}[i]
			word := make([]byte, n)
			for k := range word {
				word[k] = alphabet[r.Intn(len(alphabet))]
			}
			near := slices.Clone(word)
			near[r.Intn(n)] = "LCR"[r.Intn(3)]
			last := slices.Clone(word)
			last[n-1] = "LCR"[r.Intn(3)]
			list = append(list, string(word), string(near), string(last))
		}
		for _, part := range []string{"RL", "RLR", "RLC", "RLLR", "LC"} {
			list = append(list, strings.Repeat(part, n)[:n])
		}
	}
	return list
}

// noKneadingWords returns texts that are no words.
func noKneadingWords() []string {
	list := []string{
		"", " ", "l", "c", "r", "lcr", "Rl", "rL", "RLc", " R", "R ", "R L", "RL\n", "R\x00", "\x00", "R-L", "RL;", "A", "RLA", "1", "0", "RL0",
		"É", "ＲＬ", "R\xff", "\xffL", "Rł", "Ł", "\U0001004C", "R\U0001004CL", "LRÇ", "C\u0301",
		strings.Repeat("R", impl.MaxKneading+1), strings.Repeat("L", impl.MaxKneading+2), strings.Repeat("RLC", 100000),
		strings.Repeat("L", impl.MaxKneading-1) + "l", "x" + strings.Repeat("L", impl.MaxKneading-1), strings.Repeat("C", impl.MaxKneading) + " ",
	}
	for b := range 256 {
		if letter := byte(b); !strings.Contains("LCR", string([]byte{letter})) {
			list = append(list, string([]byte{letter}), string([]byte{'R', letter}), string([]byte{letter, 'L'}), string([]byte{'R', letter, 'C'}))
		}
	}
	return list
}

// unimodalMaps returns unimodal maps of all kinds: tents of all heights, with up to MaxPoints points, with points at all multiples of a
// small fraction, so that no fraction is too large and the centre is often met, and with Dens of up to MaxCoord.
func unimodalMaps() [][]impl.Point {
	r := rand.New(rand.NewSource(70))
	list := slices.DeleteFunc(lapMaps(), func(f []impl.Point) bool { return !wantedUnimodal(f) })
	for k := 1; k <= 100; k++ {
		h, _ := fractionOf(big.NewRat(int64(k), 100))
		list = append(list, pts(0, 1, 0, 1, 1, 2, h.Num, h.Den, 1, 1, 0, 1))
	}
	for i := range 150 {
		list = append(list, steppedMap(r, 2+i%10))
	}
	for i := range 100 {
		list = append(list, roundedMap(r, []int{6, 30, impl.MaxCoord}[i%3]))
	}
	return list
}

// steppedMap returns a unimodal map with points at all multiples of 1 / den, whose Y are such multiples too.
func steppedMap(r *rand.Rand, den int) []impl.Point {
	top := 1 + r.Intn(den-1)
	least := max(top, den-top)
	highest := least + r.Intn(den-least+1)
	rising, falling := r.Perm(highest)[:top], r.Perm(highest)[:den-top]
	slices.Sort(rising)
	slices.SortFunc(falling, func(a, b int) int { return b - a })
	var f []impl.Point
	for i, y := range slices.Concat(rising, []int{highest}, falling) {
		x, _ := fractionOf(big.NewRat(int64(i), int64(den)))
		value, _ := fractionOf(big.NewRat(int64(y), int64(den)))
		f = append(f, impl.Point{X: x, Y: value})
	}
	return f
}

// roundedMap returns a unimodal map with X and Y whose Dens are up to a number.
func roundedMap(r *rand.Rand, den int) []impl.Point {
	f := mixedMap(r, 3+r.Intn(impl.MaxPoints-2), den)
	var ys []impl.Rat
	for len(ys) < len(f) {
		if y := mixedUnit(r, impl.MaxCoord); !slices.Contains(ys, y) {
			ys = append(ys, y)
		}
	}
	slices.SortFunc(ys, func(a, b impl.Rat) int { return bigOf(a).Cmp(bigOf(b)) })
	// Each Y, from the least one on, comes to the next free place at either end, and the greatest one to the last place that is free.
	low, high := 0, len(f)-1
	top := 1 + r.Intn(high-1)
	for _, y := range ys {
		if low < top && (high == top || r.Intn(2) == 0) {
			f[low].Y = y
			low++
		} else {
			f[high].Y = y
			high--
		}
	}
	return f
}

// otherMaps returns maps that are not unimodal.
func otherMaps() [][]impl.Point {
	list := slices.DeleteFunc(mixedMaps(100), wantedUnimodal)
	return append(list,
		pts(0, 1, 0, 1, 1, 1, 1, 1),                                     // no turn
		pts(0, 1, 1, 1, 1, 1, 0, 1),                                     // no turn, falling
		pts(0, 1, 0, 1, 1, 2, 1, 4, 1, 1, 1, 1),                         // no turn, two pieces
		pts(0, 1, 1, 1, 1, 2, 0, 1, 1, 1, 1, 1),                         // falls first
		pts(0, 1, 0, 1, 1, 3, 1, 1, 2, 3, 0, 1, 1, 1, 1, 1),             // two turns
		pts(0, 1, 1, 1, 1, 3, 0, 1, 2, 3, 1, 1, 1, 1, 0, 1),             // two turns, falls first
		pts(0, 1, 0, 1, 1, 3, 1, 1, 2, 3, 1, 1, 1, 1, 0, 1),             // a slope 0 between two laps
		pts(0, 1, 0, 1, 1, 3, 0, 1, 2, 3, 1, 1, 1, 1, 0, 1),             // a slope 0 at the beginning
		pts(0, 1, 0, 1, 1, 3, 1, 1, 2, 3, 0, 1, 1, 1, 0, 1),             // a slope 0 at the end
		pts(0, 1, 0, 1, 1, 4, 1, 2, 1, 2, 1, 2, 3, 4, 1, 1, 1, 1, 0, 1), // a slope 0 within a rise
		pts(0, 1, 1, 2, 1, 1, 1, 2),                                     // one value alone
		pts(0, 1, 0, 1, 1, 4, 1, 1, 1, 2, 0, 1, 3, 4, 1, 1, 1, 1, 0, 1), // three turns
	)
}
