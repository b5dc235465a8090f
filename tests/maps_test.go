package tests

import (
	"math"
	"math/big"
	"math/rand"
	"slices"

	"loop.example/g01003/impl"
)

// The maps, fractions and exact values that the tests of several chapters use.

func rat(num, den int) impl.Rat {
	return impl.Rat{Num: num, Den: den}
}

// pts returns points with the X num / den and the Y num / den of each four numbers.
func pts(numbers ...int) []impl.Point {
	var list []impl.Point
	for i := 0; i+3 < len(numbers); i += 4 {
		list = append(list, impl.Point{X: rat(numbers[i], numbers[i+1]), Y: rat(numbers[i+2], numbers[i+3])})
	}
	return list
}

func tentMap() []impl.Point {
	return pts(0, 1, 0, 1, 1, 2, 1, 1, 1, 1, 0, 1)
}

// zigzagMap returns the map with 12 points that goes up and down between 0 and 1.
func zigzagMap() []impl.Point {
	var f []impl.Point
	for i := range 12 {
		x, _ := fractionOf(big.NewRat(int64(i), 11))
		f = append(f, impl.Point{X: x, Y: rat(i%2, 1)})
	}
	return f
}

// plainMaps returns maps of all kinds: with two and with MaxPoints points, with Dens of MaxCoord,
// with pieces of the slope 0 and of fixed points, and with neighbouring pieces of the same slope.
func plainMaps() [][]impl.Point {
	long := pts(0, 1, 1, 3)
	for i := 1; i < 11; i++ {
		x, _ := fractionOf(big.NewRat(int64(i), 22))
		long = append(long, impl.Point{X: x, Y: rat(1, 3)})
	}
	long = append(long, impl.Point{X: rat(1, 1), Y: rat(99, 100)})
	return [][]impl.Point{
		tentMap(), zigzagMap(), long,
		pts(0, 1, 0, 1, 1, 1, 1, 1),
		pts(0, 1, 1, 1, 1, 1, 0, 1),
		pts(0, 1, 1, 1, 1, 1, 1, 1),
		pts(0, 1, 0, 1, 1, 1, 0, 1),
		pts(0, 1, 37, 100, 1, 1, 37, 100),
		pts(0, 1, 1, 3, 1, 1, 2, 3),
		pts(0, 1, 0, 1, 1, 2, 1, 2, 1, 1, 1, 1),
		pts(0, 1, 0, 1, 1, 4, 1, 4, 1, 2, 1, 2, 3, 4, 1, 2, 1, 1, 1, 1),
		pts(0, 1, 1, 2, 1, 4, 1, 4, 1, 2, 1, 2, 3, 4, 1, 4, 1, 1, 0, 1),
		pts(0, 1, 0, 1, 1, 3, 1, 2, 2, 3, 1, 2, 1, 1, 1, 1),
		pts(0, 1, 0, 1, 1, 3, 1, 1, 2, 3, 1, 1, 1, 1, 0, 1),
		pts(0, 1, 1, 5, 1, 5, 2, 5, 2, 5, 3, 5, 3, 5, 2, 5, 4, 5, 1, 5, 1, 1, 0, 1),
		pts(0, 1, 99, 100, 1, 100, 1, 100, 1, 99, 98, 99, 96, 97, 1, 97, 99, 100, 1, 1, 1, 1, 0, 1),
		pts(0, 1, 1, 100, 99, 100, 1, 100, 1, 1, 1, 1),
		pts(0, 1, 0, 1, 1, 3, 0, 1, 2, 3, 1, 1, 1, 1, 1, 1),
		pts(0, 1, 0, 1, 1, 3, 0, 1, 1, 1, 2, 3),
	}
}

// mixedMaps returns the plain maps and n more, always the same, of points with Dens of up to MaxCoord.
func mixedMaps(n int) [][]impl.Point {
	r := rand.New(rand.NewSource(2))
	list := plainMaps()
	for i := range n {
		list = append(list, mixedMap(r, 2+r.Intn(impl.MaxPoints-1), []int{3, 8, 24, impl.MaxCoord}[i%4]))
	}
	return list
}

// mixedMap returns a map with a number of points, or fewer if there are not as many X, with Dens of at most den.
func mixedMap(r *rand.Rand, points int, den int) []impl.Point {
	met := map[impl.Rat]bool{rat(0, 1): true, rat(1, 1): true}
	list := []impl.Rat{rat(0, 1), rat(1, 1)}
	for range 200 {
		if x := mixedUnit(r, den); len(list) < points && !met[x] {
			met[x] = true
			list = append(list, x)
		}
	}
	slices.SortFunc(list, func(a, b impl.Rat) int { return bigOf(a).Cmp(bigOf(b)) })
	var f []impl.Point
	for _, x := range list {
		y := mixedUnit(r, den)
		switch last := len(f) - 1; {
		case r.Intn(5) == 0:
			y = x
		case last >= 0 && r.Intn(5) == 0:
			y = f[last].Y
		case last >= 1 && r.Intn(4) == 0:
			onLine, ok := fractionOf(lineValue(f[last-1], f[last], bigOf(x)))
			if ok && onLine.Num >= 0 && onLine.Num <= onLine.Den && onLine.Den <= impl.MaxCoord {
				y = onLine
			}
		}
		f = append(f, impl.Point{X: x, Y: y})
	}
	return f
}

func mixedUnit(r *rand.Rand, den int) impl.Rat {
	d := 1 + r.Intn(den)
	if r.Intn(3) == 0 {
		d = den - r.Intn(min(den, 4))
	}
	a, _ := fractionOf(big.NewRat(int64(r.Intn(d+1)), int64(d)))
	return a
}

// lineValue returns the value at x on the line through two points.
func lineValue(p, q impl.Point, x *big.Rat) *big.Rat {
	left := new(big.Rat).Mul(bigOf(p.Y), new(big.Rat).Sub(bigOf(q.X), x))
	right := new(big.Rat).Mul(bigOf(q.Y), new(big.Rat).Sub(x, bigOf(p.X)))
	left.Add(left, right)
	return left.Quo(left, new(big.Rat).Sub(bigOf(q.X), bigOf(p.X)))
}

// bigSlope returns the slope of the line through two points.
func bigSlope(p, q impl.Point) *big.Rat {
	rise := new(big.Rat).Sub(bigOf(q.Y), bigOf(p.Y))
	return rise.Quo(rise, new(big.Rat).Sub(bigOf(q.X), bigOf(p.X)))
}

// pieceWith returns the number of the first piece that has x.
func pieceWith(f []impl.Point, x *big.Rat) int {
	for i := range f[1:] {
		if x.Cmp(bigOf(f[i+1].X)) <= 0 {
			return i
		}
	}
	return len(f) - 2
}

// bigValue returns the value of a map at x, of any size.
func bigValue(f []impl.Point, x *big.Rat) *big.Rat {
	i := pieceWith(f, x)
	return lineValue(f[i], f[i+1], x)
}

// allFit reports whether all parts of a formula are fractions.
func allFit(parts ...*big.Rat) bool {
	for _, part := range parts {
		if _, ok := fractionOf(part); !ok {
			return false
		}
	}
	return true
}

// units returns fractions from 0 to 1: with small Dens, and with Dens at and near the limit.
func units() []impl.Rat {
	met := map[impl.Rat]bool{}
	var list []impl.Rat
	add := func(num, den int) {
		if a, ok := fractionOf(big.NewRat(int64(num), int64(den))); ok && !met[a] {
			met[a] = true
			list = append(list, a)
		}
	}
	for den := 1; den <= 13; den++ {
		for num := 0; num <= den; num++ {
			add(num, den)
		}
	}
	for _, den := range []int{100, 9900, 1000003, 2 * 3 * 5 * 7 * 11 * 13 * 17, 100000000, 333333333, 499999999, 500000000, 970299000, 999999999, most} {
		for _, num := range []int{1, 2, den / 97, den / 3, den/3 + 1, den / 2, den/2 + 1, den - den/100, den - 1} {
			add(num, den)
		}
	}
	return list
}

// invalidUnits returns Rats that are no fractions from 0 to 1.
func invalidUnits() []impl.Rat {
	return append(invalidRats(), rat(-1, 1), rat(-1, 2), rat(-1, most), rat(2, 1), rat(3, 2), rat(most, 1), rat(most, most-1), rat(-most, 1))
}

// invalidMaps returns points that are no map.
func invalidMaps() [][]impl.Point {
	tooMany := pts(0, 1, 0, 1)
	for i := 1; i < 13; i++ {
		x, _ := fractionOf(big.NewRat(int64(i), 12))
		tooMany = append(tooMany, impl.Point{X: x, Y: rat(0, 1)})
	}
	list := [][]impl.Point{
		nil, {}, tooMany, make([]impl.Point, 2), make([]impl.Point, 5), make([]impl.Point, 100000),
		pts(0, 1, 0, 1), pts(1, 1, 1, 1), pts(0, 1, 0, 1, 0, 1, 0, 1), pts(1, 1, 0, 1, 1, 1, 0, 1),
		pts(1, 1, 0, 1, 0, 1, 1, 1),                         // X that decrease
		pts(1, 100, 0, 1, 1, 1, 1, 1),                       // the first X is not 0
		pts(0, 1, 0, 1, 99, 100, 1, 1),                      // the last X is not 1
		pts(-1, 2, 0, 1, 1, 1, 1, 1),                        // an X below 0
		pts(0, 1, 0, 1, 3, 2, 1, 1),                         // an X above 1
		pts(0, 1, 0, 1, 1, 1, 1, 1, 2, 1, 1, 1),             // points behind 1
		pts(0, 1, 0, 1, 1, 2, 1, 1, 1, 2, 0, 1, 1, 1, 0, 1), // the same X twice
		pts(0, 1, 0, 1, 0, 1, 1, 1, 1, 1, 0, 1),             // the same X twice at 0, and at 1
		pts(0, 1, 0, 1, 1, 1, 1, 1, 1, 1, 0, 1),
		pts(0, 1, 0, 1, 2, 3, 1, 1, 1, 2, 0, 1, 1, 1, 0, 1),
		pts(0, 1, 0, 1, 1, 101, 1, 1, 1, 1, 0, 1), // a Den above MaxCoord
		pts(0, 1, 0, 1, 1, 2, 1, 101, 1, 1, 0, 1),
		pts(0, 1, 0, 1, 1, 2, 1, 1, 1, 1, 1, most),
		pts(0, 1, 0, 1, 2, 4, 1, 1, 1, 1, 0, 1), // not in lowest terms
		pts(0, 2, 0, 1, 1, 2, 1, 1, 1, 1, 0, 1),
		pts(0, 1, 0, 1, 1, 2, 1, 1, 2, 2, 0, 1),
		pts(0, 1, 0, 1, 1, 2, 2, 2, 1, 1, 0, 1),
		pts(0, 1, 0, 5, 1, 2, 1, 1, 1, 1, 0, 1),
		pts(0, -1, 0, 1, 1, 2, 1, 1, 1, 1, 0, 1),
		pts(0, 1, -1, 100, 1, 1, 1, 1), // Y outside 0 to 1
		pts(0, 1, 0, 1, 1, 1, 101, 100),
		pts(0, 1, 0, 1, 1, 2, 2, 1, 1, 1, 0, 1),
		pts(0, 1, 0, 1, 1, 2, -1, -2, 1, 1, 0, 1),
		pts(0, 1, 0, 1, 1, 2, math.MaxInt, math.MaxInt, 1, 1, 0, 1),
		pts(0, 1, 0, 1, math.MinInt, math.MinInt, 1, 1, 1, 1, 0, 1),
	}
	for i, bad := range invalidUnits() {
		f := tentMap()
		f[i%3].Y = bad
		g := tentMap()
		g[i%3].X = bad
		list = append(list, f, g)
	}
	return list
}

// spare returns the points with others behind their length, which no function may touch.
func spare(f []impl.Point) []impl.Point {
	all := append(slices.Clone(f), pts(1, 1, 1, 1, 77, 78, 79, 80, 0, 1, 0, 1)...)
	return all[:len(f):len(all)]
}

// sameWithSpare reports whether a slice has the given points, and those that spare laid behind it.
func sameWithSpare(given, f []impl.Point) bool {
	want := spare(f)
	return slices.Equal(given, f) && slices.Equal(given[:cap(given)], want[:cap(want)])
}
