package tests

import (
	"math/big"
	"slices"
	"strings"
	"testing"

	"loop.example/g01003/impl"
)

func TestMapLimits(t *testing.T) {
	if impl.MaxPoints != 12 || impl.MaxCoord != 100 {
		t.Error("MaxPoints and MaxCoord are", impl.MaxPoints, impl.MaxCoord)
	}
	for _, f := range mixedMaps(400) {
		if !impl.IsMap(f) {
			t.Error(f, "is no map")
		}
		if !impl.IsMap(spare(f)) {
			t.Error(f, "is no map with others behind it")
		}
	}
	for _, f := range invalidMaps() {
		if impl.IsMap(f) {
			t.Error(f, "is a map")
		}
	}
	if full := zigzagMap(); impl.IsMap(full[:11]) || impl.IsMap(full[1:]) || impl.IsMap(append(full, full[11])) {
		t.Error("parts of a map, or more than it, are a map")
	}
}

// wantedValue follows the formula of the document, and reports whether all its parts are fractions.
func wantedValue(f []impl.Point, x impl.Rat) (impl.Rat, bool) {
	i := pieceWith(f, bigOf(x))
	run := new(big.Rat).Sub(bigOf(x), bigOf(f[i].X))
	rise := new(big.Rat).Mul(bigSlope(f[i], f[i+1]), run)
	value := bigValue(f, bigOf(x))
	if !allFit(run, rise, value) {
		return impl.Rat{}, false
	}
	return fractionOf(value)
}

func TestValueAt(t *testing.T) {
	made, failed := 0, 0
	for _, f := range mixedMaps(200) {
		list := units()
		for _, p := range f {
			list = append(list, p.X)
		}
		for _, x := range list {
			want, wantOK := wantedValue(f, x)
			if y, ok := impl.ValueAt(f, x); y != want || ok != wantOK {
				t.Fatalf("ValueAt(%v, %v) is %v, %v, not %v, %v", f, x, y, ok, want, wantOK)
			}
			if wantOK {
				made++
			} else {
				failed++
			}
		}
		for _, p := range f {
			if y, ok := impl.ValueAt(f, p.X); y != p.Y || !ok {
				t.Errorf("ValueAt(%v, %v) is %v, %v", f, p.X, y, ok)
			}
		}
	}
	if made < 1000 || failed < 1000 {
		t.Error(made, "values and", failed, "failures: both are to be tested")
	}
}

func TestValueAtParts(t *testing.T) {
	rising := pts(0, 1, 1, 3, 1, 1, 2, 3)
	flat := pts(0, 1, 0, 1, 1, 3, 1, 2, 1, 1, 1, 2)
	cases := []struct {
		f    []impl.Point
		x    impl.Rat
		want impl.Rat
		ok   bool
	}{
		{tentMap(), rat(1, 4), rat(1, 2), true},
		{tentMap(), rat(1, most), rat(1, most/2), true},
		{tentMap(), rat(most-1, most), rat(1, most/2), true},
		{flat, rat(1, 3), rat(1, 2), true},
		{flat, rat(1, 1), rat(1, 2), true},
		{flat, rat(2, 333333333), rat(1, 111111111), true},
		{flat, rat(most-1, most), impl.Rat{}, false},                              // x - X is too large, the value 1/2 is not
		{rising, rat(11, most), impl.Rat{}, false},                                // s * (x - X) is too large, the value 333333337/1000000000 is not
		{pts(0, 1, 1, 3, 2, 3, 1, 1, 1, 1, 1, 1), rat(1, most), rat(0, 0), false}, // the sum alone is too large
		{pts(0, 1, 1, 3, 1, 1, 1, 3), rat(1, most), rat(1, 3), true},              // no part is too large with the slope 0 from 0 on
		{rising, rat(0, 1), rat(1, 3), true},
		{rising, rat(1, 1), rat(2, 3), true},
	}
	for _, c := range cases {
		if y, ok := impl.ValueAt(c.f, c.x); y != c.want || ok != c.ok {
			t.Errorf("ValueAt(%v, %v) is %v, %v, not %v, %v", c.f, c.x, y, ok, c.want, c.ok)
		}
	}
}

func TestSlopesOf(t *testing.T) {
	for _, f := range mixedMaps(400) {
		var want []impl.Rat
		for i := range f[1:] {
			s, ok := fractionOf(bigSlope(f[i], f[i+1]))
			if !ok {
				t.Fatal("a slope of", f, "is too large")
			}
			want = append(want, s)
		}
		if s, ok := impl.SlopesOf(f); !slices.Equal(s, want) || !ok {
			t.Errorf("SlopesOf(%v) is %v, %v, not %v", f, s, ok, want)
		}
	}
	steep := pts(0, 1, 0, 1, 98, 99, 0, 1, 99, 100, 1, 1, 1, 1, 1, 1)
	if s, ok := impl.SlopesOf(steep); !ok || !slices.Equal(s, []impl.Rat{rat(0, 1), rat(9900, 1), rat(0, 1)}) {
		t.Error("slopes", s, ok)
	}
}

func TestLapsOf(t *testing.T) {
	for _, f := range mixedMaps(400) {
		laps, ok := impl.LapsOf(f)
		if !ok || len(laps) == 0 || laps[0][0] != 0 || laps[len(laps)-1][1] != len(f)-1 {
			t.Fatalf("LapsOf(%v) is %v, %v", f, laps, ok)
		}
		for k, lap := range laps {
			if len(lap) != 3 || lap[0] >= lap[1] {
				t.Fatal("lap", lap, "of", f)
			}
			if k > 0 && (laps[k-1][1] != lap[0] || laps[k-1][2] == lap[2]) {
				t.Errorf("LapsOf(%v) is %v", f, laps)
			}
			for i := lap[0]; i < lap[1]; i++ {
				if bigSlope(f[i], f[i+1]).Sign() != lap[2] {
					t.Errorf("LapsOf(%v) is %v", f, laps)
				}
			}
		}
		turns, ok := impl.TurningPoints(f)
		if !ok || len(turns) != len(laps)-1 {
			t.Fatalf("TurningPoints(%v) is %v, %v", f, turns, ok)
		}
		for k, x := range turns {
			if x != f[laps[k][1]].X {
				t.Errorf("TurningPoints(%v) is %v", f, turns)
			}
		}
	}
}

func TestLapsOfPlainMaps(t *testing.T) {
	cases := []struct {
		f     []impl.Point
		laps  [][]int
		turns []impl.Rat
	}{
		{tentMap(), [][]int{{0, 1, 1}, {1, 2, -1}}, []impl.Rat{rat(1, 2)}},
		{pts(0, 1, 0, 1, 1, 1, 1, 1), [][]int{{0, 1, 1}}, nil},
		{pts(0, 1, 1, 1, 1, 1, 0, 1), [][]int{{0, 1, -1}}, nil},
		{pts(0, 1, 1, 2, 1, 2, 1, 2, 1, 1, 1, 2), [][]int{{0, 2, 0}}, nil},
		{pts(0, 1, 0, 1, 1, 4, 1, 2, 1, 2, 5, 8, 3, 4, 5, 8, 1, 1, 1, 1), [][]int{{0, 2, 1}, {2, 3, 0}, {3, 4, 1}}, []impl.Rat{rat(1, 2), rat(3, 4)}},
		{pts(0, 1, 1, 1, 1, 4, 1, 1, 1, 2, 1, 2, 3, 4, 0, 1, 1, 1, 1, 8), [][]int{{0, 1, 0}, {1, 3, -1}, {3, 4, 1}}, []impl.Rat{rat(1, 4), rat(3, 4)}},
	}
	for _, c := range cases {
		laps, ok := impl.LapsOf(c.f)
		if !ok || !slices.EqualFunc(laps, c.laps, slices.Equal[[]int]) {
			t.Errorf("LapsOf(%v) is %v, %v, not %v", c.f, laps, ok, c.laps)
		}
		if turns, ok := impl.TurningPoints(c.f); !ok || !slices.Equal(turns, c.turns) {
			t.Errorf("TurningPoints(%v) is %v, %v, not %v", c.f, turns, ok, c.turns)
		}
	}
	laps, _ := impl.LapsOf(zigzagMap())
	if len(laps) != 11 {
		t.Fatal(laps)
	}
	for k, lap := range laps { // what is written to one lap, or behind it, stands in no other one
		_ = append(lap, 100, 100, 100)
		lap[0], lap[1], lap[2] = -k, -k, -k
	}
	for k, lap := range laps {
		if !slices.Equal(lap, []int{-k, -k, -k}) {
			t.Error("laps share memory:", laps)
		}
	}
}

func TestImageOf(t *testing.T) {
	made, failed := 0, 0
	for k, f := range mixedMaps(60) {
		list := units()
		for _, p := range f {
			list = append(list, p.X)
		}
		for i, a := range list {
			b := list[(i*31+k)%len(list)]
			if bigOf(a).Cmp(bigOf(b)) > 0 {
				a, b = b, a
			}
			least, greatest, ok := impl.ImageOf(f, a, b)
			wantLeast, wantGreatest, wantOK := wantedImage(f, a, b)
			if least != wantLeast || greatest != wantGreatest || ok != wantOK {
				t.Fatalf("ImageOf(%v, %v, %v) is %v, %v, %v, not %v, %v, %v", f, a, b, least, greatest, ok, wantLeast, wantGreatest, wantOK)
			}
			if ok {
				made++
			} else {
				failed++
			}
			y, valueOK := impl.ValueAt(f, a)
			if least, greatest, ok := impl.ImageOf(f, a, a); least != y || greatest != y || ok != valueOK {
				t.Fatalf("ImageOf(%v, %v, %v) is %v, %v, %v", f, a, a, least, greatest, ok)
			}
		}
	}
	if made < 1000 || failed < 1000 {
		t.Error(made, "images and", failed, "failures: both are to be tested")
	}
}

// wantedImage takes the values at both ends and at all points between. It needs those at both ends, as the map does.
func wantedImage(f []impl.Point, a, b impl.Rat) (impl.Rat, impl.Rat, bool) {
	least, ok := wantedValue(f, a)
	last, lastOK := wantedValue(f, b)
	if !ok || !lastOK {
		return impl.Rat{}, impl.Rat{}, false
	}
	greatest := least
	for _, p := range append(slices.Clone(f), impl.Point{X: b, Y: last}) {
		if bigOf(p.X).Cmp(bigOf(a)) >= 0 && bigOf(p.X).Cmp(bigOf(b)) <= 0 {
			if bigOf(p.Y).Cmp(bigOf(least)) < 0 {
				least = p.Y
			}
			if bigOf(p.Y).Cmp(bigOf(greatest)) > 0 {
				greatest = p.Y
			}
		}
	}
	return least, greatest, true
}

func TestImageOfTentAndZigzag(t *testing.T) {
	third, one, zero := rat(1, 3), rat(1, 1), rat(0, 1)
	cases := []struct {
		f               []impl.Point
		a, b            impl.Rat
		least, greatest impl.Rat
		ok              bool
	}{
		{tentMap(), rat(1, 4), rat(3, 4), rat(1, 2), one, true},
		{tentMap(), third, rat(2, 3), rat(2, 3), one, true},
		{tentMap(), zero, one, zero, one, true},
		{tentMap(), zero, zero, zero, zero, true},
		{tentMap(), one, one, zero, zero, true},
		{tentMap(), rat(1, 2), rat(1, 2), one, one, true},
		{tentMap(), rat(1, 2), rat(3, 4), rat(1, 2), one, true},
		{tentMap(), rat(1, 5), rat(2, 5), rat(2, 5), rat(4, 5), true},
		{tentMap(), rat(4, 5), rat(9, 10), rat(1, 5), rat(2, 5), true},
		{zigzagMap(), rat(1, 11), rat(2, 11), zero, one, true},
		{zigzagMap(), rat(3, 22), rat(5, 22), zero, rat(1, 2), true},
		{tentMap(), rat(1, 2), rat(1, 3), impl.Rat{}, impl.Rat{}, false},
		{tentMap(), one, zero, impl.Rat{}, impl.Rat{}, false},
		{tentMap(), rat(1, most-1), rat(1, most), impl.Rat{}, impl.Rat{}, false},
		{pts(0, 1, 1, 3, 1, 1, 2, 3), rat(11, most), one, impl.Rat{}, impl.Rat{}, false},
		{pts(0, 1, 1, 3, 1, 1, 2, 3), zero, rat(11, most), impl.Rat{}, impl.Rat{}, false},
	}
	for _, c := range cases {
		if least, greatest, ok := impl.ImageOf(c.f, c.a, c.b); least != c.least || greatest != c.greatest || ok != c.ok {
			t.Errorf("ImageOf(%v, %v, %v) is %v, %v, %v", c.f, c.a, c.b, least, greatest, ok)
		}
	}
}

// crossings returns the X at which the values of a map are those of the line from low at 0 to high at 1,
// increasing, of a piece of such values the ends.
func crossings(f []impl.Point, low, high *big.Rat) []*big.Rat {
	line := func(x *big.Rat) *big.Rat {
		y := new(big.Rat).Sub(high, low)
		return y.Add(y.Mul(y, x), low)
	}
	var list []*big.Rat
	add := func(x *big.Rat) {
		if n := len(list); n == 0 || list[n-1].Cmp(x) != 0 {
			list = append(list, x)
		}
	}
	for i := range f[1:] {
		p, q := f[i], f[i+1]
		left := new(big.Rat).Sub(bigOf(p.Y), line(bigOf(p.X)))
		right := new(big.Rat).Sub(bigOf(q.Y), line(bigOf(q.X)))
		if left.Sign() == 0 {
			add(bigOf(p.X))
		}
		if left.Sign()*right.Sign() < 0 { // the difference is linear: it is 0 at the share left / (left - right) of the piece
			share := new(big.Rat).Sub(left, right)
			share.Quo(left, share)
			run := new(big.Rat).Sub(bigOf(q.X), bigOf(p.X))
			add(run.Add(run.Mul(run, share), bigOf(p.X)))
		}
		if right.Sign() == 0 {
			add(bigOf(q.X))
		}
	}
	return list
}

// Fixed points have their own value, and a map has one.
func TestFixedPointsHaveTheirOwnValue(t *testing.T) {
	greatest, checked := 0, 0
	for _, f := range mixedMaps(3000) {
		list, ok := impl.FixedPoints(f)
		if !ok || len(list) == 0 {
			t.Fatalf("FixedPoints(%v) is %v, %v", f, list, ok)
		}
		want := crossings(f, new(big.Rat), big.NewRat(1, 1))
		if !slices.EqualFunc(list, want, func(a impl.Rat, b *big.Rat) bool { return impl.IsRat(a) && bigOf(a).Cmp(b) == 0 }) {
			t.Fatalf("FixedPoints(%v) is %v, not %v", f, list, want)
		}
		for _, x := range list {
			greatest = max(greatest, x.Den)
			if y, ok := impl.ValueAt(f, x); ok {
				checked++
				if y != x {
					t.Errorf("the value of %v at its fixed point %v is %v", f, x, y)
				}
			}
		}
	}
	if greatest < 30000000 || checked < 3000 {
		t.Error("the greatest Den is", greatest, "and the checked points are", checked)
	}
}

func TestFixedPointsOfPlainMaps(t *testing.T) {
	cases := []struct {
		f    []impl.Point
		want []impl.Rat
	}{
		{tentMap(), []impl.Rat{rat(0, 1), rat(2, 3)}},
		{pts(0, 1, 0, 1, 1, 1, 1, 1), []impl.Rat{rat(0, 1), rat(1, 1)}},
		{pts(0, 1, 0, 1, 1, 2, 1, 2, 1, 1, 1, 1), []impl.Rat{rat(0, 1), rat(1, 2), rat(1, 1)}},
		{pts(0, 1, 1, 1, 1, 1, 0, 1), []impl.Rat{rat(1, 2)}},
		{pts(0, 1, 1, 1, 1, 1, 1, 1), []impl.Rat{rat(1, 1)}},
		{pts(0, 1, 0, 1, 1, 1, 0, 1), []impl.Rat{rat(0, 1)}},
		{pts(0, 1, 37, 100, 1, 1, 37, 100), []impl.Rat{rat(37, 100)}},
		{pts(0, 1, 1, 2, 1, 4, 1, 4, 1, 2, 1, 2, 3, 4, 1, 4, 1, 1, 0, 1), []impl.Rat{rat(1, 4), rat(1, 2)}},
		{pts(0, 1, 1, 4, 1, 2, 1, 2, 1, 1, 3, 4), []impl.Rat{rat(1, 2)}},
		{pts(0, 1, 1, 100, 1, 1, 99, 100), []impl.Rat{rat(1, 2)}},
		{pts(0, 1, 1, 2, 1, 2, 1, 1, 1, 1, 1, 4), []impl.Rat{rat(7, 10)}},
		// no two of the Dens 100, 99, 97 and 91 have a common divisor, and the piece falls over nearly all values
		{pts(0, 1, 1, 1, 1, 100, 98, 99, 96, 97, 1, 91, 1, 1, 0, 1), []impl.Rat{rat(85603197, 171156827)}},
	}
	for _, c := range cases {
		if list, ok := impl.FixedPoints(c.f); !ok || !slices.Equal(list, c.want) {
			t.Errorf("FixedPoints(%v) is %v, %v, not %v", c.f, list, ok, c.want)
		}
	}
}

// wantedBefore follows the formula of the document for each piece that needs it.
func wantedBefore(f []impl.Point, y impl.Rat) ([]impl.Rat, bool) {
	for i := range f[1:] {
		rise := new(big.Rat).Sub(bigOf(y), bigOf(f[i].Y))
		if rise.Sign()*new(big.Rat).Sub(bigOf(y), bigOf(f[i+1].Y)).Sign() < 0 {
			run := new(big.Rat).Quo(rise, bigSlope(f[i], f[i+1]))
			if !allFit(rise, run, new(big.Rat).Add(bigOf(f[i].X), run)) {
				return nil, false
			}
		}
	}
	var list []impl.Rat
	for _, x := range crossings(f, bigOf(y), bigOf(y)) {
		a, _ := fractionOf(x)
		list = append(list, a)
	}
	return list, true
}

func TestPointsBefore(t *testing.T) {
	made, failed, none := 0, 0, 0
	for _, f := range mixedMaps(200) {
		list := units()
		for _, p := range f {
			list = append(list, p.Y)
		}
		for _, y := range list {
			want, wantOK := wantedBefore(f, y)
			got, ok := impl.PointsBefore(f, y)
			if !slices.Equal(got, want) || ok != wantOK {
				t.Fatalf("PointsBefore(%v, %v) is %v, %v, not %v, %v", f, y, got, ok, want, wantOK)
			}
			for _, x := range got {
				if back, ok := impl.ValueAt(f, x); ok && back != y {
					t.Fatalf("the value of %v at %v is %v, not %v", f, x, back, y)
				}
			}
			switch {
			case !ok:
				failed++
			case len(got) == 0:
				none++
			default:
				made++
			}
		}
	}
	if made < 1000 || failed < 1000 || none < 1000 {
		t.Error(made, "lists,", failed, "failures and", none, "empty lists: all are to be tested")
	}
}

func TestPointsBeforePlainValues(t *testing.T) {
	flat := pts(0, 1, 0, 1, 1, 4, 1, 2, 1, 2, 1, 2, 3, 4, 1, 2, 1, 1, 0, 1)
	cases := []struct {
		f    []impl.Point
		y    impl.Rat
		want []impl.Rat
		ok   bool
	}{
		{tentMap(), rat(1, 2), []impl.Rat{rat(1, 4), rat(3, 4)}, true},
		{tentMap(), rat(1, 1), []impl.Rat{rat(1, 2)}, true},
		{tentMap(), rat(0, 1), []impl.Rat{rat(0, 1), rat(1, 1)}, true},
		{tentMap(), rat(1, most), nil, false}, // the quotient is too large
		{tentMap(), rat(1, most/2), []impl.Rat{rat(1, most), rat(most-1, most)}, true},
		{flat, rat(1, 2), []impl.Rat{rat(1, 4), rat(1, 2), rat(3, 4)}, true},
		{flat, rat(1, 4), []impl.Rat{rat(1, 8), rat(7, 8)}, true},
		{flat, rat(3, 4), nil, true},
		{flat, rat(most-1, most), nil, true}, // no piece has it: nothing is too large
		{pts(0, 1, 37, 100, 1, 1, 37, 100), rat(37, 100), []impl.Rat{rat(0, 1), rat(1, 1)}, true},
		{pts(0, 1, 37, 100, 1, 1, 37, 100), rat(38, 100), nil, false}, // 38/100 is not in lowest terms
		{pts(0, 1, 37, 100, 1, 1, 37, 100), rat(19, 50), nil, true},
		{pts(0, 1, 1, 3, 1, 1, 2, 3), rat(400000001, most), nil, false},                  // y - Y is too large, 3 y - 1 is not
		{pts(0, 1, 0, 1, 1, 3, 0, 1, 2, 3, 1, 1, 1, 1, 1, 1), rat(11, most), nil, false}, // (y - Y) / s is too large, 333333337/1000000000 is not
		{pts(0, 1, 0, 1, 1, 3, 0, 1, 1, 1, 2, 3), rat(1, most), nil, false},              // the sum alone is too large
		{pts(0, 1, 1, 1, 1, 2, 0, 1, 1, 1, 1, 2), rat(2, 499999999), []impl.Rat{rat(499999997, 999999998), rat(499999999+4, 999999998)}, true},
	}
	for _, c := range cases {
		if list, ok := impl.PointsBefore(c.f, c.y); ok != c.ok || !slices.Equal(list, c.want) {
			t.Errorf("PointsBefore(%v, %v) is %v, %v, not %v, %v", c.f, c.y, list, ok, c.want, c.ok)
		}
	}
}

func TestSimpleMap(t *testing.T) {
	shorter := 0
	for _, f := range mixedMaps(400) {
		simple, ok := impl.SimpleMap(f)
		if !ok || !impl.IsMap(simple) {
			t.Fatalf("SimpleMap(%v) is %v, %v", f, simple, ok)
		}
		for _, p := range f { // both are linear between the points of f
			if bigValue(simple, bigOf(p.X)).Cmp(bigOf(p.Y)) != 0 {
				t.Errorf("SimpleMap(%v) is %v, with another value at %v", f, simple, p.X)
			}
		}
		for i, p := range simple {
			if !slices.Contains(f, p) {
				t.Errorf("SimpleMap(%v) is %v, with another point", f, simple)
			}
			if i > 0 && i+1 < len(simple) && bigSlope(simple[i-1], p).Cmp(bigSlope(p, simple[i+1])) == 0 {
				t.Errorf("SimpleMap(%v) is %v, with a point too many", f, simple)
			}
		}
		if len(simple) < len(f) {
			shorter++
		}
		if again, ok := impl.SimpleMap(simple); !ok || !slices.Equal(again, simple) {
			t.Errorf("SimpleMap(%v) is %v, %v", simple, again, ok)
		}
	}
	if shorter < 20 {
		t.Error("only", shorter, "maps became shorter")
	}
	var line []impl.Point
	for _, p := range zigzagMap() {
		line = append(line, impl.Point{X: p.X, Y: p.X})
	}
	if simple, ok := impl.SimpleMap(line); !ok || !slices.Equal(simple, pts(0, 1, 0, 1, 1, 1, 1, 1)) {
		t.Error("a line becomes", simple, ok)
	}
}

func TestReflectMap(t *testing.T) {
	for _, f := range mixedMaps(400) {
		g, ok := impl.ReflectMap(f)
		if !ok || !impl.IsMap(g) || len(g) != len(f) {
			t.Fatalf("ReflectMap(%v) is %v, %v", f, g, ok)
		}
		for i, p := range f {
			q := g[len(g)-1-i]
			one := big.NewRat(1, 1)
			if new(big.Rat).Add(bigOf(p.X), bigOf(q.X)).Cmp(one) != 0 || new(big.Rat).Add(bigOf(p.Y), bigOf(q.Y)).Cmp(one) != 0 {
				t.Errorf("ReflectMap(%v) is %v", f, g)
			}
		}
		if back, ok := impl.ReflectMap(g); !ok || !slices.Equal(back, f) {
			t.Errorf("ReflectMap(%v) is %v, %v", g, back, ok)
		}
	}
	want := pts(0, 1, 1, 1, 1, 2, 0, 1, 1, 1, 1, 1)
	if g, ok := impl.ReflectMap(tentMap()); !ok || !slices.Equal(g, want) {
		t.Error("the tent is reflected to", g, ok)
	}
}

// parsedSlowly reads a text piece by piece.
func parsedSlowly(s string) ([]impl.Point, bool) {
	pieces := strings.Split(s, ";")
	var f []impl.Point
	for _, piece := range pieces[:len(pieces)-1] {
		words := strings.Split(piece, " ")
		if len(words) != 2 {
			return nil, false
		}
		x, xOK := impl.ParseRat(words[0])
		y, yOK := impl.ParseRat(words[1])
		if !xOK || !yOK {
			return nil, false
		}
		f = append(f, impl.Point{X: x, Y: y})
	}
	if pieces[len(pieces)-1] != "" || !impl.IsMap(f) {
		return nil, false
	}
	return f, true
}

func TestMapTextsAreReadBack(t *testing.T) {
	for _, f := range mixedMaps(400) {
		s, ok := impl.MapText(f)
		if !ok {
			t.Fatal(f, "has no text")
		}
		if want, ok := parsedSlowly(s); !ok || !slices.Equal(want, f) {
			t.Errorf("MapText(%v) is %q", f, s)
		}
		if back, ok := impl.ParseMap(s); !ok || !slices.Equal(back, f) {
			t.Errorf("ParseMap(%q) is %v, %v", s, back, ok)
		}
	}
	if s, ok := impl.MapText(pts(0, 1, 99, 100, 1, 3, 0, 1, 1, 1, 1, 2)); s != "0/1 99/100;1/3 0/1;1/1 1/2;" || !ok {
		t.Error("text", s, ok)
	}
}

// Texts near that of a map are texts of a map only if they look like one.
func TestTextsNearMapTexts(t *testing.T) {
	read := 0
	for _, f := range [][]impl.Point{tentMap(), pts(0, 1, 1, 10, 1, 1, 10, 11), zigzagMap()} {
		s, _ := impl.MapText(f)
		near := []string{s + s, " " + s, s + " ", s + "\n", strings.TrimSuffix(s, ";"), strings.ToUpper(s) + "x"}
		for i := range len(s) + 1 {
			near = append(near, s[:i], s[i:])
			for _, c := range []string{"0", "1", "2", "9", " ", ";", "/", "-", "\x00", "\xff", "\u00a0", "\uff11", ","} {
				near = append(near, s[:i]+c+s[i:])
				if i < len(s) {
					near = append(near, s[:i]+c+s[i+1:])
				}
			}
			if i < len(s) {
				near = append(near, s[:i]+s[i+1:])
			}
		}
		for _, text := range near {
			want, wantOK := parsedSlowly(text)
			if got, ok := impl.ParseMap(text); ok != wantOK || !slices.Equal(got, want) {
				t.Errorf("ParseMap(%q) is %v, %v, not %v, %v", text, got, ok, want, wantOK)
			}
			if wantOK {
				read++
			}
		}
	}
	if read < 20 {
		t.Error("only", read, "texts near those of maps are texts of maps")
	}
}

func TestTextsOfNoMap(t *testing.T) {
	many := "0/1 0/1;" + strings.Repeat("1/2 1/2;", 100000) + "1/1 1/1;"
	thirteen := "0/1 0/1;1/13 0/1;2/13 0/1;3/13 0/1;4/13 0/1;5/13 0/1;6/13 0/1;7/13 0/1;8/13 0/1;9/13 0/1;10/13 0/1;11/13 0/1;1/1 0/1;"
	for _, s := range []string{
		"", ";", " ", ";;", " ;", " ; ;", "0/1 0/1;", "1/1 1/1;", "0/1 0/1;1/1 1/1", "0/1 0/1 1/1 1/1;", "0/1;1/1;",
		"0/1 0/1;1/1;", "0/1 0/1; 1/1;", "0/1 0/1;1/1 ;", "0/1 0/1;1/1 1/1;;", "0/1 0/1;1/1 1/1; ", "0/1 0/1; 1/1 1/1;", "0/1 0/1 ;1/1 1/1;",
		"0/1  0/1;1/1 1/1;", "0/1 0/1 0/1;1/1 1/1;", "0/1,0/1;1/1,1/1;", "0/1\t0/1;1/1 1/1;", "0/1 0/1;1/1 1/1;\n",
		"0 0;1 1;", "0/1 0/1;2/2 1/1;", "0/1 0/1;1/1 2/4;", "0/1 -0/1;1/1 1/1;", "0/1 -1/2;1/1 1/1;", "0/1 0/1;1/1 3/2;", "0/1 0/1;1/1 1/101;",
		"0/1 0/1;1/101 0/1;1/1 0/1;", "1/1 1/1;0/1 0/1;", "0/1 0/1;1/2 0/1;1/2 1/1;1/1 0/1;", "0/1 0/1;1/2 1/1;", "1/2 1/1;1/1 1/1;",
		"0/1\u00a00/1;1/1 1/1;", "0/1 0/1\uff1b1/1 1/1;", "\xff", "0/1 0/1;1/1 1/1;\xff", "\ufeff0/1 0/1;1/1 1/1;",
		many, thirteen, strings.Repeat(";", 1000000), strings.Repeat(" ", 1000000), strings.Repeat("0/1 0/1;", 100000), strings.Repeat("9", 1000000),
	} {
		if f, ok := impl.ParseMap(s); len(f) != 0 || ok {
			t.Errorf("ParseMap(%.60q) is %v, %v", s, f, ok)
		}
	}
	if f, ok := impl.ParseMap(strings.Replace(thirteen, "5/13 0/1;", "", 1)); len(f) != 12 || !ok {
		t.Error("twelve points are read as", f, ok)
	}
}

// callMap calls each function of maps and reports by name which one returns anything but zero values.
func callMap(t *testing.T, f []impl.Point, x, b impl.Rat) {
	zero := impl.Rat{}
	y, ok := impl.ValueAt(f, x)
	noted(t, "ValueAt", f, x, b, ok || y != zero)
	least, greatest, ok := impl.ImageOf(f, x, b)
	noted(t, "ImageOf", f, x, b, ok || least != zero || greatest != zero)
	list, ok := impl.PointsBefore(f, x)
	noted(t, "PointsBefore", f, x, b, ok || len(list) != 0)
}

func noted(t *testing.T, name string, f []impl.Point, x, b impl.Rat, wrong bool) {
	if wrong {
		t.Errorf("%s has a result for %v, %v, %v", name, f[:min(len(f), 13)], x, b)
	}
}

func TestInvalidMapsHaveNoResults(t *testing.T) {
	zero, half, one := rat(0, 1), rat(1, 2), rat(1, 1)
	for _, f := range invalidMaps() {
		callMap(t, f, half, half)
		callMap(t, f, zero, one)
		callMap(t, f, one, impl.Rat{})
		slopes, ok := impl.SlopesOf(f)
		noted(t, "SlopesOf", f, half, half, ok || len(slopes) != 0)
		laps, ok := impl.LapsOf(f)
		noted(t, "LapsOf", f, half, half, ok || len(laps) != 0)
		turns, ok := impl.TurningPoints(f)
		noted(t, "TurningPoints", f, half, half, ok || len(turns) != 0)
		fixed, ok := impl.FixedPoints(f)
		noted(t, "FixedPoints", f, half, half, ok || len(fixed) != 0)
		simple, ok := impl.SimpleMap(f)
		noted(t, "SimpleMap", f, half, half, ok || len(simple) != 0)
		reflected, ok := impl.ReflectMap(f)
		noted(t, "ReflectMap", f, half, half, ok || len(reflected) != 0)
		s, ok := impl.MapText(f)
		noted(t, "MapText", f, half, half, ok || s != "")
	}
	for _, bad := range invalidUnits() {
		for _, f := range plainMaps() {
			callMap(t, f, bad, one)
			if least, greatest, ok := impl.ImageOf(f, zero, bad); ok || least != (impl.Rat{}) || greatest != (impl.Rat{}) {
				t.Errorf("ImageOf(%v, 0, %v) is %v, %v, %v", f, bad, least, greatest, ok)
			}
		}
	}
}

// No function of maps writes to its argument or behind it, and no result is part of it.
func TestMapsAreLeftAsTheyAre(t *testing.T) {
	lists := append(mixedMaps(20), invalidMaps()...)
	for _, f := range lists {
		given := spare(f)
		overwrite := func(points []impl.Point) {
			for i := range points[:cap(points)] {
				points[:cap(points)][i] = impl.Point{X: rat(5, 5), Y: rat(6, 6)}
			}
		}
		impl.IsMap(given)
		for _, x := range []impl.Rat{rat(0, 1), rat(1, 2), rat(1, 3), rat(1, 1), rat(1, most), {}} {
			impl.ValueAt(given, x)
			impl.ImageOf(given, x, rat(1, 1))
			impl.PointsBefore(given, x)
		}
		impl.SlopesOf(given)
		impl.LapsOf(given)
		impl.TurningPoints(given)
		impl.FixedPoints(given)
		impl.MapText(given)
		simple, _ := impl.SimpleMap(given)
		overwrite(simple)
		reflected, _ := impl.ReflectMap(given)
		overwrite(reflected)
		if !sameWithSpare(given, f) {
			t.Errorf("%v has become %v", f, given)
		}
	}
}
