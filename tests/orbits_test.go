package tests

import (
	"math/big"
	"math/rand"
	"slices"

	"loop.example/g01003/impl"
)

// Orbits, periods, multipliers and patterns, found as the document's chapter 4 tells them, with exact values of any size.

// slowOrbit returns x and the fractions behind 1, ..., n steps, as many as have values whose parts are fractions.
func slowOrbit(f []impl.Point, x impl.Rat, n int) []impl.Rat {
	orbit := []impl.Rat{x}
	for range n {
		y, ok := wantedValue(f, orbit[len(orbit)-1])
		if !ok {
			break
		}
		orbit = append(orbit, y)
	}
	return orbit
}

// wantedPeriod takes the least preperiod, and then the least period, for which the same fraction is met again.
func wantedPeriod(orbit []impl.Rat) (int, int, bool) {
	for k := range orbit {
		for p := 1; k+p < len(orbit); p++ {
			if orbit[k] == orbit[k+p] {
				return k, p, true
			}
		}
	}
	return 0, 0, false
}

// wantedCycle returns the cycle of an orbit. It fails if no fraction is met twice.
func wantedCycle(orbit []impl.Rat) ([]impl.Rat, bool) {
	k, p, ok := wantedPeriod(orbit)
	return slices.Clone(orbit[k : k+p]), ok
}

// wantedMultiplier multiplies from the first fraction of a cycle on, and reports whether all products are fractions
// and all fractions of the cycle are in pieces of one slope.
func wantedMultiplier(f []impl.Point, cycle []impl.Rat) (impl.Rat, bool) {
	product := big.NewRat(1, 1)
	for _, x := range cycle {
		var slopes []*big.Rat
		for i := range f[1:] {
			if bigOf(f[i].X).Cmp(bigOf(x)) <= 0 && bigOf(x).Cmp(bigOf(f[i+1].X)) <= 0 {
				slopes = append(slopes, bigSlope(f[i], f[i+1]))
			}
		}
		for _, slope := range slopes {
			if slope.Cmp(slopes[0]) != 0 {
				return impl.Rat{}, false
			}
		}
		product = new(big.Rat).Mul(product, slopes[0])
		if !allFit(product) {
			return impl.Rat{}, false
		}
	}
	return fractionOf(product)
}

// wantedPattern sorts the fractions of a cycle: the element i is the place of what follows the i-th one.
func wantedPattern(cycle []impl.Rat) ([]int, bool) {
	if len(cycle) > impl.MaxPattern {
		return nil, false
	}
	sorted := slices.SortedFunc(slices.Values(cycle), func(a, b impl.Rat) int { return bigOf(a).Cmp(bigOf(b)) })
	var pattern []int
	for _, x := range sorted {
		next := (slices.Index(cycle, x) + 1) % len(cycle)
		pattern = append(pattern, slices.Index(sorted, cycle[next]))
	}
	return pattern, true
}

// wantedIsCycle reports what IsCycle tells of fractions from 0 to 1.
func wantedIsCycle(f []impl.Point, cycle []impl.Rat) (bool, bool) {
	if len(cycle) == 0 || len(cycle) > impl.MaxSteps {
		return false, false
	}
	is := true
	met := map[impl.Rat]bool{}
	for i, x := range cycle {
		met[x] = true
		y, ok := wantedValue(f, x)
		if !ok {
			return false, false
		}
		is = is && y == cycle[(i+1)%len(cycle)]
	}
	return is && len(met) == len(cycle), true
}

// cyclePoints returns fractions that come back behind up to 3 steps, by solving the lines of all words of up to 3 pieces.
func cyclePoints(f []impl.Point) []impl.Rat {
	words := [][]int{nil}
	var list []impl.Rat
	for k := 0; k < len(words) && len(words[k]) < 3; k++ {
		for piece := range len(f) - 1 {
			word := append(slices.Clone(words[k]), piece)
			words = append(words, word)
			if x, ok := solvedWord(f, word); ok && !slices.Contains(list, x) {
				list = append(list, x)
			}
		}
	}
	return list
}

// solvedWord returns the fraction that the lines of the pieces of a word lead to itself, if it is in them, one after the other.
func solvedWord(f []impl.Point, word []int) (impl.Rat, bool) {
	m, b := big.NewRat(1, 1), new(big.Rat)
	for _, piece := range word {
		p, q := f[piece], f[piece+1]
		zero, one := lineValue(p, q, b), lineValue(p, q, new(big.Rat).Add(m, b))
		m, b = new(big.Rat).Sub(one, zero), zero
	}
	rest := new(big.Rat).Sub(big.NewRat(1, 1), m)
	if rest.Sign() == 0 {
		return impl.Rat{}, false
	}
	x := new(big.Rat).Quo(b, rest)
	y := x
	for _, piece := range word {
		if y.Cmp(bigOf(f[piece].X)) < 0 || y.Cmp(bigOf(f[piece+1].X)) > 0 {
			return impl.Rat{}, false
		}
		y = bigValue(f, y)
	}
	return fractionOf(x)
}

// orbitMaps returns maps of all kinds, most of which have few points, so that many fractions come back.
func orbitMaps() [][]impl.Point {
	r := rand.New(rand.NewSource(4))
	list := mixedMaps(12)
	for i := range 60 {
		list = append(list, mixedMap(r, 2+r.Intn(5), []int{2, 3, 4, 6, 8, 10, 24, impl.MaxCoord}[i%8]))
	}
	return append(list, steepMap(), superMap(rat(2, 97)), superMap(rat(20, 97)))
}

// orbitStarts returns fractions to begin at: points of the map, cycles, and some of the fractions from 0 to 1.
func orbitStarts(f []impl.Point, seed int) []impl.Rat {
	list := cyclePoints(f)
	if len(list) > 40 {
		list = list[:40]
	}
	for _, p := range f {
		list = append(list, p.X)
	}
	all := units()
	for i := range 25 {
		list = append(list, all[(seed*41+i*17)%len(all)])
	}
	return append(list, rat(1, 7), rat(2, 143), rat(1, most), rat(most-1, most))
}

// steepMap returns the map with 11 points that goes up and down between 0 and 1, with the slopes 10 and -10.
func steepMap() []impl.Point {
	var f []impl.Point
	for i := range 11 {
		x, _ := fractionOf(big.NewRat(int64(i), 10))
		f = append(f, impl.Point{X: x, Y: rat(i%2, 1)})
	}
	return f
}

// superMap returns the steep map with a last piece of one value, so that cycles through it have a product of 0 in the end.
func superMap(last impl.Rat) []impl.Point {
	f := steepMap()
	f[9].Y = last
	f[10].Y = last
	return f
}

// spareRats returns the fractions with others behind their length, which no function may touch.
func spareRats(list []impl.Rat) []impl.Rat {
	all := append(slices.Clone(list), rat(77, 78), rat(0, 1), rat(1, 2), rat(5, 5))
	return all[:len(list):len(all)]
}

func overwriteRats(list []impl.Rat) {
	for i := range list[:cap(list)] {
		list[:cap(list)][i] = rat(5, 5)
	}
}

func sameRatsWithSpare(given, list []impl.Rat) bool {
	want := spareRats(list)
	return slices.Equal(given, list) && slices.Equal(given[:cap(given)], want[:cap(want)])
}
