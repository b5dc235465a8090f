package tests

import (
	"math/big"
	"slices"

	"loop.example/g01003/impl"
)

// Compositions, middles and clamped maps with exact values of any size, after the document's chapter 5.

// wantedMap returns the simple map through the points at the given places.
// It fails if a coordinate is none of a map, or if the simple map has too many points.
func wantedMap(places []*big.Rat, value func(x *big.Rat) (*big.Rat, bool)) ([]impl.Point, bool) {
	slices.SortFunc(places, (*big.Rat).Cmp)
	places = slices.CompactFunc(places, func(a, b *big.Rat) bool { return a.Cmp(b) == 0 })
	var points []impl.Point
	for _, place := range places {
		y, ok := value(place)
		if !ok || place.Denom().Cmp(big.NewInt(impl.MaxCoord)) > 0 || y.Denom().Cmp(big.NewInt(impl.MaxCoord)) > 0 {
			return nil, false
		}
		points = append(points, impl.Point{X: rat(int(place.Num().Int64()), int(place.Denom().Int64())), Y: rat(int(y.Num().Int64()), int(y.Denom().Int64()))})
	}
	points = withoutLines(points)
	if len(points) > impl.MaxPoints {
		return nil, false
	}
	return points, true
}

// withoutLines leaves out one point on a line with both neighbours after the other.
func withoutLines(points []impl.Point) []impl.Point {
	for i := 1; i+1 < len(points); i++ {
		if lineValue(points[i-1], points[i+1], bigOf(points[i].X)).Cmp(bigOf(points[i].Y)) == 0 {
			return withoutLines(slices.Delete(slices.Clone(points), i, i+1))
		}
	}
	return points
}

func placesOf(f []impl.Point) []*big.Rat {
	var places []*big.Rat
	for _, p := range f {
		places = append(places, bigOf(p.X))
	}
	return places
}

// placesWithin returns the places within pieces, whose ends have other values, with a value.
func placesWithin(f []impl.Point, y *big.Rat) []*big.Rat {
	var places []*big.Rat
	for i := range f[1:] {
		if bigOf(f[i].Y).Cmp(y)*bigOf(f[i+1].Y).Cmp(y) < 0 {
			x := new(big.Rat).Quo(new(big.Rat).Sub(y, bigOf(f[i].Y)), bigSlope(f[i], f[i+1]))
			places = append(places, x.Add(x, bigOf(f[i].X)))
		}
	}
	return places
}

func wantedComposition(f, g []impl.Point) ([]impl.Point, bool) {
	places := placesOf(g)
	for _, p := range f {
		places = append(places, placesWithin(g, bigOf(p.X))...)
	}
	return wantedMap(places, func(x *big.Rat) (*big.Rat, bool) { return bigValue(f, bigValue(g, x)), true })
}

func wantedPower(f []impl.Point, n int) ([]impl.Point, bool) {
	power, ok := pts(0, 1, 0, 1, 1, 1, 1, 1), true
	for ; ok && n > 0; n-- {
		power, ok = wantedComposition(f, power)
	}
	return power, ok
}

func wantedMiddle(f, g []impl.Point) ([]impl.Point, bool) {
	return wantedMap(append(placesOf(f), placesOf(g)...), func(x *big.Rat) (*big.Rat, bool) {
		place, ok := fractionOf(x)
		if !ok {
			return nil, false
		}
		y, yOK := wantedValue(f, place)
		z, zOK := wantedValue(g, place)
		if !yOK || !zOK {
			return nil, false
		}
		sum := new(big.Rat).Add(bigOf(y), bigOf(z))
		return sum.Quo(sum, big.NewRat(2, 1)), true
	})
}

func wantedClamped(f []impl.Point, low, high impl.Rat) ([]impl.Point, bool) {
	places := append(placesOf(f), append(placesWithin(f, bigOf(low)), placesWithin(f, bigOf(high))...)...)
	return wantedMap(places, func(x *big.Rat) (*big.Rat, bool) {
		y := bigValue(f, x)
		if y.Cmp(bigOf(low)) < 0 {
			y = bigOf(low)
		}
		if y.Cmp(bigOf(high)) > 0 {
			y = bigOf(high)
		}
		return y, true
	})
}
