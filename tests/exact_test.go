package tests

import (
	"math/big"
	"slices"

	"loop.example/g01003/impl"
)

// The operations of chapter 5 with exact values of any size, after the document.

// wantedMap returns the simple map through the points at the given places.
// It fails if a coordinate is none of a map, or if the simple map has too many points.
func wantedMap(places []*big.Rat, value func(x *big.Rat) (*big.Rat, bool)) ([]impl.Point, bool) {
	points, ok := wantedPoints(places, value)
	points = withoutLines(points)
	if !ok || len(points) > impl.MaxPoints {
		return nil, false
	}
	return points, true
}

// wantedPoints returns the points at the given places, each one once. It fails if a coordinate is none of a map.
func wantedPoints(places []*big.Rat, value func(x *big.Rat) (*big.Rat, bool)) ([]impl.Point, bool) {
	slices.SortFunc(places, (*big.Rat).Cmp)
	places = slices.CompactFunc(places, func(a, b *big.Rat) bool { return a.Cmp(b) == 0 })
	var points []impl.Point
	for _, place := range places {
		y, ok := value(place)
		if !ok || place.Denom().Cmp(big.NewInt(impl.MaxCoord)) > 0 || y.Denom().Cmp(big.NewInt(impl.MaxCoord)) > 0 {
			return nil, false
		}
		points = append(points, impl.Point{X: rat(int(place.Num().Int64()), int(place.Denom().Int64())), Y: rat(int(y.Num().Int64()), int(y.Denom().Int64()))})
	}
	return points, true
}

// withoutLines leaves out one point on a line with both neighbours after the other.
func withoutLines(points []impl.Point) []impl.Point {
	for i := 1; i+1 < len(points); i++ {
		if lineValue(points[i-1], points[i+1], bigOf(points[i].X)).Cmp(bigOf(points[i].Y)) == 0 {
			return withoutLines(slices.Delete(slices.Clone(points), i, i+1))
		}
	}
	return points
}

func placesOf(f []impl.Point) []*big.Rat {
	var places []*big.Rat
	for _, p := range f {
		places = append(places, bigOf(p.X))
	}
	return places
}

// placesWithin returns the places within pieces, whose ends have other values, with a value.
func placesWithin(f []impl.Point, y *big.Rat) []*big.Rat {
	var places []*big.Rat
	for i := range f[1:] {
		if bigOf(f[i].Y).Cmp(y)*bigOf(f[i+1].Y).Cmp(y) < 0 {
			x := new(big.Rat).Quo(new(big.Rat).Sub(y, bigOf(f[i].Y)), bigSlope(f[i], f[i+1]))
			places = append(places, x.Add(x, bigOf(f[i].X)))
		}
	}
	return places
}

func wantedComposition(f, g []impl.Point) ([]impl.Point, bool) {
	places := placesOf(g)
	for _, p := range f {
		places = append(places, placesWithin(g, bigOf(p.X))...)
	}
	return wantedMap(places, func(x *big.Rat) (*big.Rat, bool) { return bigValue(f, bigValue(g, x)), true })
}

func wantedPower(f []impl.Point, n int) ([]impl.Point, bool) {
	power, ok := pts(0, 1, 0, 1, 1, 1, 1, 1), true
	for ; ok && n > 0; n-- {
		power, ok = wantedComposition(f, power)
	}
	return power, ok
}

func wantedMiddle(f, g []impl.Point) ([]impl.Point, bool) {
	return wantedMap(append(placesOf(f), placesOf(g)...), func(x *big.Rat) (*big.Rat, bool) {
		place, ok := fractionOf(x)
		if !ok {
			return nil, false
		}
		y, yOK := wantedValue(f, place)
		z, zOK := wantedValue(g, place)
		if !yOK || !zOK {
			return nil, false
		}
		sum := new(big.Rat).Add(bigOf(y), bigOf(z))
		return sum.Quo(sum, big.NewRat(2, 1)), true
	})
}

func wantedClamped(f []impl.Point, low, high impl.Rat) ([]impl.Point, bool) {
	places := append(placesOf(f), append(placesWithin(f, bigOf(low)), placesWithin(f, bigOf(high))...)...)
	return wantedMap(places, func(x *big.Rat) (*big.Rat, bool) {
		y := bigValue(f, x)
		if y.Cmp(bigOf(low)) < 0 {
			y = bigOf(low)
		}
		if y.Cmp(bigOf(high)) > 0 {
			y = bigOf(high)
		}
		return y, true
	})
}

// wantedSame reports whether the values at all points are the same.
func wantedSame(f, g []impl.Point) bool {
	return !slices.ContainsFunc(append(placesOf(f), placesOf(g)...), func(x *big.Rat) bool {
		return bigValue(f, x).Cmp(bigValue(g, x)) != 0
	})
}

func wantedRefined(f []impl.Point, xs []impl.Rat) ([]impl.Point, bool) {
	places := placesOf(f)
	for _, x := range xs {
		places = append(places, bigOf(x))
	}
	points, ok := wantedPoints(places, func(x *big.Rat) (*big.Rat, bool) { return bigValue(f, x), true })
	if !ok || len(points) > impl.MaxPoints {
		return nil, false
	}
	return points, true
}

func wantedJoined(f, g []impl.Point, at impl.Rat) ([]impl.Point, bool) {
	place := bigOf(at)
	if bigValue(f, place).Cmp(bigValue(g, place)) != 0 {
		return nil, false
	}
	places := slices.DeleteFunc(placesOf(f), func(x *big.Rat) bool { return x.Cmp(place) > 0 })
	places = append(places, slices.DeleteFunc(placesOf(g), func(x *big.Rat) bool { return x.Cmp(place) < 0 })...)
	return wantedMap(append(places, place), func(x *big.Rat) (*big.Rat, bool) {
		if x.Cmp(place) < 0 {
			return bigValue(f, x), true
		}
		return bigValue(g, x), true
	})
}

// wantedDifferences returns the values of f less those of g at all points. It fails if a part of a value is too large.
func wantedDifferences(f, g []impl.Point) ([]*big.Rat, bool) {
	var list []*big.Rat
	for _, x := range append(placesOf(f), placesOf(g)...) {
		place, _ := fractionOf(x)
		y, yOK := wantedValue(f, place)
		z, zOK := wantedValue(g, place)
		if !yOK || !zOK {
			return nil, false
		}
		list = append(list, new(big.Rat).Sub(bigOf(y), bigOf(z)))
	}
	return list, true
}

func wantedGreatest(f, g []impl.Point) (impl.Rat, bool) {
	list, ok := wantedDifferences(f, g)
	if !ok || !allFit(list...) {
		return impl.Rat{}, false
	}
	greatest := new(big.Rat)
	for _, difference := range list {
		if d := new(big.Rat).Abs(difference); d.Cmp(greatest) > 0 {
			greatest = d
		}
	}
	return fractionOf(greatest)
}

func wantedBelow(f, g []impl.Point) (bool, bool) {
	list, ok := wantedDifferences(f, g)
	if !ok {
		return false, false
	}
	return !slices.ContainsFunc(list, func(difference *big.Rat) bool { return difference.Sign() > 0 }), true
}
