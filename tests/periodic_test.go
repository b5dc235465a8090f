package tests

import (
	"math/big"
	"math/rand"
	"slices"

	"loop.example/g01003/impl"
)

// Lines of words, and fractions that are met again, found as the document's chapter 8 tells them, with exact values of any size.

// periodicMaps returns maps of all kinds: with one piece and with 11, with pieces of the slope 0, with few points of small Dens,
// and with Dens of up to MaxCoord.
func periodicMaps() [][]impl.Point {
	r := rand.New(rand.NewSource(8))
	list := mixedMaps(20)
	for i := range 200 {
		list = append(list, mixedMap(r, 2+r.Intn(4), []int{2, 3, 4, 5, 6, 10, 20, impl.MaxCoord}[i%8]))
	}
	return append(list, growing(), smallerElsewhere(), touchingMap(), singleTooLarge(), pts(0, 1, 1, 1, 1, 2, 0, 1, 1, 1, 1, 1))
}

// maxTried is the greatest number of words of a length that the slow functions try.
const maxTried = 1300

// fewWords reports whether the slow functions can try all words of n pieces of a map.
func fewWords(f []impl.Point, n int) bool {
	total := 1
	for range n {
		total *= len(f) - 1
	}
	return total <= maxTried
}

// wantedLine returns m and b of the line of a word, and reports whether all parts of the formula are fractions.
func wantedLine(f []impl.Point, word []int) (*big.Rat, *big.Rat, bool) {
	m, b, ok := big.NewRat(1, 1), new(big.Rat), true
	for _, k := range word {
		slope := bigSlope(f[k], f[k+1])
		rise := new(big.Rat).Mul(slope, bigOf(f[k].X))
		start := new(big.Rat).Sub(bigOf(f[k].Y), rise)
		m = new(big.Rat).Mul(slope, m)
		b = new(big.Rat).Mul(slope, b)
		ok = ok && allFit(slope, rise, start, m, b)
		b.Add(b, start)
		ok = ok && allFit(b)
	}
	return m, b, ok
}

// wantedSolutions returns the fraction that follows a word of pieces with the line m x + b and has itself as its value, if there is one.
// It fails if a part of the formula, or a value of a fraction from 0 to 1, is too large.
func wantedSolutions(f []impl.Point, word []int, m, b *big.Rat) ([]impl.Rat, bool) {
	rest := new(big.Rat).Sub(big.NewRat(1, 1), m)
	if rest.Sign() == 0 || !allFit(rest) {
		return nil, allFit(rest)
	}
	exact := new(big.Rat).Quo(b, rest)
	x, ok := fractionOf(exact)
	if !ok || exact.Sign() < 0 || x.Num > x.Den {
		return nil, ok
	}
	orbit := slowOrbit(f, x, len(word)-1)
	if len(orbit) < len(word) {
		return nil, false
	}
	for i, y := range orbit {
		if bigOf(y).Cmp(bigOf(f[word[i]].X)) < 0 || bigOf(y).Cmp(bigOf(f[word[i]+1].X)) > 0 {
			return nil, true
		}
	}
	return []impl.Rat{x}, true
}

func wantedSolved(f []impl.Point, word []int) (impl.Rat, bool) {
	m, b, ok := wantedLine(f, word)
	if !ok {
		return impl.Rat{}, false
	}
	list, ok := wantedSolutions(f, word, m, b)
	if !ok || len(list) == 0 {
		return impl.Rat{}, false
	}
	return list[0], true
}

// followers is a number of fractions that follow a word.
type followers int

const (
	noFollowers followers = iota
	oneFollower
	manyFollowers
	tooLargeFollowers // the number is not known
)

// wantedFollowers takes the interval of the last piece of a word back to the first one. One fraction is known to follow
// the rest of the word from some piece on, and may follow the whole word or not.
func wantedFollowers(f []impl.Point, word []int) followers {
	last := word[len(word)-1]
	ends := []*big.Rat{bigOf(f[last].X), bigOf(f[last+1].X)}
	for _, k := range slices.Backward(word[:len(word)-1]) {
		p, q := f[k], f[k+1]
		values := []*big.Rat{bigOf(p.Y), bigOf(q.Y)}
		slices.SortFunc(values, (*big.Rat).Cmp)
		isApart := values[1].Cmp(ends[0]) < 0 || ends[1].Cmp(values[0]) < 0
		if isApart {
			return noFollowers
		}
		if p.Y == q.Y {
			ends = []*big.Rat{bigOf(p.X), bigOf(q.X)}
			continue
		}
		low, high := slices.MaxFunc([]*big.Rat{values[0], ends[0]}, (*big.Rat).Cmp), slices.MinFunc([]*big.Rat{values[1], ends[1]}, (*big.Rat).Cmp)
		if low.Cmp(high) == 0 {
			return oneFollower
		}
		for i, y := range []*big.Rat{low, high} {
			rise := new(big.Rat).Sub(y, bigOf(p.Y))
			run := new(big.Rat).Quo(rise, bigSlope(p, q))
			ends[i] = new(big.Rat).Add(bigOf(p.X), run)
			if !allFit(rise, run, ends[i]) {
				return tooLargeFollowers
			}
		}
		slices.SortFunc(ends, (*big.Rat).Cmp)
	}
	return manyFollowers
}

// wantedManyFollowed returns the words of n pieces that more than one fraction follows. It fails if this is not known of one word.
func wantedManyFollowed(f []impl.Point, n int) ([][]int, bool) {
	var list [][]int
	for _, word := range allWords(len(f)-1, n) {
		switch wantedFollowers(f, word) {
		case manyFollowers:
			list = append(list, word)
		case tooLargeFollowers:
			return nil, false
		}
	}
	return list, true
}

func wantedIdentity(f []impl.Point, n int) (bool, bool) {
	words, ok := wantedManyFollowed(f, n)
	is := false
	for _, word := range words {
		m, b, lineOK := wantedLine(f, word)
		ok = ok && lineOK
		is = is || m.Cmp(big.NewRat(1, 1)) == 0 && b.Sign() == 0
	}
	return is && ok, ok
}

func wantedPeriodic(f []impl.Point, n int) ([]impl.Rat, bool) {
	if is, ok := wantedIdentity(f, n); is || !ok {
		return nil, false
	}
	met := map[impl.Rat]bool{}
	words, _ := wantedManyFollowed(f, n)
	for _, word := range words {
		m, b, _ := wantedLine(f, word)
		list, ok := wantedSolutions(f, word, m, b)
		if !ok {
			return nil, false
		}
		for _, x := range list {
			met[x] = true
		}
	}
	if len(met) > impl.MaxFound {
		return nil, false
	}
	return sortedRats(met), true
}

func sortedRats(met map[impl.Rat]bool) []impl.Rat {
	var list []impl.Rat
	for x := range met {
		list = append(list, x)
	}
	slices.SortFunc(list, func(a, b impl.Rat) int { return bigOf(a).Cmp(bigOf(b)) })
	return list
}

// exactSteps returns x and the values behind 1, ..., n steps, of any size.
func exactSteps(f []impl.Point, x *big.Rat, n int) []*big.Rat {
	list := []*big.Rat{x}
	for range n {
		list = append(list, bigValue(f, list[len(list)-1]))
	}
	return list
}

// exactReturns returns all fractions, of any size, that are met again behind n steps, without any word: n steps are linear between
// the points of the map and all that is led to one of them within fewer steps. The second result reports whether there is a piece of such fractions.
func exactReturns(f []impl.Point, n int) ([]*big.Rat, bool) {
	places, isPiece := placesOf(f), false
	var list []*big.Rat
	for steps := 1; steps <= n; steps++ {
		list = nil
		var further []*big.Rat
		for i := range places[1:] {
			p, q := places[i], places[i+1]
			left, right := exactSteps(f, p, steps)[steps], exactSteps(f, q, steps)[steps]
			for _, y := range placesOf(f) {
				if left.Cmp(y)*right.Cmp(y) < 0 {
					further = append(further, between(p, q, new(big.Rat).Sub(y, left), new(big.Rat).Sub(right, y)))
				}
			}
			if left.Cmp(p) == 0 {
				list = append(list, p)
			} else if left.Cmp(p)*right.Cmp(q) < 0 {
				list = append(list, between(p, q, new(big.Rat).Sub(p, left), new(big.Rat).Sub(right, q)))
			}
			isPiece = steps == n && (isPiece || left.Cmp(p) == 0 && right.Cmp(q) == 0)
		}
		if one := places[len(places)-1]; exactSteps(f, one, steps)[steps].Cmp(one) == 0 {
			list = append(list, one)
		}
		places = append(places, further...)
		slices.SortFunc(places, (*big.Rat).Cmp)
	}
	return list, isPiece
}

// between returns what divides the way from p to q as a to b.
func between(p, q, a, b *big.Rat) *big.Rat {
	way := new(big.Rat).Sub(q, p)
	way.Mul(way, a)
	way.Quo(way, new(big.Rat).Add(a, b))
	return way.Add(way, p)
}

// wantedLeast returns the periodic points of n steps that are not met again behind fewer ones.
func wantedLeast(f []impl.Point, n int) ([]impl.Rat, bool) {
	list, ok := wantedPeriodic(f, n)
	return slices.DeleteFunc(list, func(x impl.Rat) bool {
		return slices.ContainsFunc(exactSteps(f, bigOf(x), n-1)[1:], func(y *big.Rat) bool { return y.Cmp(bigOf(x)) == 0 })
	}), ok
}

// wantedCycles takes the least fraction that is left, and all that is met from it on, until none is left.
func wantedCycles(f []impl.Point, n int) ([][]impl.Rat, bool) {
	list, ok := wantedLeast(f, n)
	var cycles [][]impl.Rat
	for len(list) > 0 {
		var cycle []impl.Rat
		for _, y := range exactSteps(f, bigOf(list[0]), n-1) {
			x, _ := fractionOf(y)
			cycle = append(cycle, x)
		}
		cycles = append(cycles, cycle)
		list = slices.DeleteFunc(list, func(x impl.Rat) bool { return slices.Contains(cycle, x) })
	}
	return cycles, ok
}

func wantedPeriods(f []impl.Point, n int) ([]int, bool) {
	var periods []int
	for k := 1; k <= n; k++ {
		list, ok := wantedLeast(f, k)
		if !ok {
			return nil, false
		}
		if len(list) > 0 {
			periods = append(periods, k)
		}
	}
	return periods, true
}

// somePieceWords returns words of pieces of all lengths: those of some fractions, others near them, and mixed ones.
func somePieceWords(f []impl.Point, seed int) [][]int {
	r := rand.New(rand.NewSource(int64(seed)))
	pieces := len(f) - 1
	list := allWords(pieces, 1)
	if pieces < 5 {
		list = append(list, allWords(pieces, 2)...)
		list = append(list, allWords(pieces, 3)...)
	}
	all := units()
	for i := range 30 {
		n := 1 + i%impl.MaxRepeat
		var word, mixed []int
		for _, y := range exactSteps(f, bigOf(all[r.Intn(len(all))]), n-1) {
			word = append(word, pieceWith(f, y))
			mixed = append(mixed, r.Intn(pieces))
		}
		near := slices.Clone(word)
		near[r.Intn(n)] = r.Intn(pieces)
		list = append(list, word, near, mixed, slices.Repeat([]int{r.Intn(pieces)}, n))
	}
	return list
}
