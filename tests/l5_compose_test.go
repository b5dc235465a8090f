package tests

import (
	"math/big"
	"math/rand"
	"slices"
	"testing"

	"loop.example/g01003/impl"
)

// someMaps returns maps whose compositions often are maps: with few points of small Dens.
func someMaps() [][]impl.Point {
	return append([][]impl.Point{
		pts(0, 1, 1, 2, 1, 2, 1, 1, 1, 1, 0, 1),
		pts(0, 1, 0, 1, 1, 4, 1, 4, 1, 2, 1, 2, 1, 1, 1, 1),
		pts(0, 1, 1, 2, 1, 1, 1, 2),
		pts(0, 1, 1, 4, 1, 2, 3, 4, 1, 1, 1, 4),
		pts(0, 1, 0, 1, 1, 4, 1, 1, 1, 2, 0, 1, 3, 4, 1, 1, 1, 1, 0, 1),
		pts(0, 1, 1, 101-2, 1, 1, 1, 97),
		pts(0, 1, 0, 1, 97, 98, 1, 97, 1, 1, 1, 1),
	}, mixedMaps(60)...)
}

func sameResult(t *testing.T, what string, f []impl.Point, ok bool, want []impl.Point, wantOK bool) {
	t.Helper()
	if ok != wantOK || !slices.Equal(f, want) {
		t.Errorf("%s is %v, %v, not %v, %v", what, f, ok, want, wantOK)
	}
}

func TestComposeMaps(t *testing.T) {
	made, failed := 0, 0
	for _, f := range someMaps() {
		for _, g := range someMaps() {
			h, ok := impl.ComposeMaps(f, g)
			want, wantOK := wantedComposition(f, g)
			sameResult(t, text(f)+" after "+text(g), h, ok, want, wantOK)
			if ok {
				made++
			} else {
				failed++
			}
		}
	}
	if made < 500 || failed < 500 {
		t.Error(made, "compositions and", failed, "failures: both are to be tested")
	}
}

func TestPowerOfMap(t *testing.T) {
	for _, f := range someMaps() {
		for n := range 7 {
			h, ok := impl.PowerOfMap(f, n)
			want, wantOK := wantedPower(f, n)
			sameResult(t, "a power of "+text(f), h, ok, want, wantOK)
		}
		for _, n := range []int{-1, 7, 8, most, -most} {
			h, ok := impl.PowerOfMap(f, n)
			sameResult(t, "a power out of range of "+text(f), h, ok, nil, false)
		}
	}
	h, ok := impl.PowerOfMap(tentMap(), 2)
	sameResult(t, "the power 2", h, ok, pts(0, 1, 0, 1, 1, 4, 1, 1, 1, 2, 0, 1, 3, 4, 1, 1, 1, 1, 0, 1), true)
	h, ok = impl.PowerOfMap(tentMap(), 3)
	sameResult(t, "the power 3", h, ok, pts(0, 1, 0, 1, 1, 8, 1, 1, 1, 4, 0, 1, 3, 8, 1, 1, 1, 2, 0, 1, 5, 8, 1, 1, 3, 4, 0, 1, 7, 8, 1, 1, 1, 1, 0, 1), true)
	h, ok = impl.PowerOfMap(tentMap(), 4)
	sameResult(t, "the power 4", h, ok, nil, false)
}

func TestMiddleMap(t *testing.T) {
	made, failed := 0, 0
	for _, f := range someMaps() {
		for _, g := range someMaps() {
			h, ok := impl.MiddleMap(f, g)
			want, wantOK := wantedMiddle(f, g)
			sameResult(t, "the middle of "+text(f)+" and "+text(g), h, ok, want, wantOK)
			if ok {
				made++
			} else {
				failed++
			}
		}
	}
	if made < 500 || failed < 500 {
		t.Error(made, "middles and", failed, "failures: both are to be tested")
	}
}

func TestClampMap(t *testing.T) {
	limits := []impl.Rat{rat(0, 1), rat(1, 1), rat(1, 2), rat(1, 3), rat(1, 4), rat(1, 100), rat(99, 100), rat(1, 101), rat(1, most), rat(most-1, most), rat(2, 3)}
	made, failed := 0, 0
	for _, f := range someMaps() {
		for _, low := range limits {
			for _, high := range limits {
				h, ok := impl.ClampMap(f, low, high)
				if bigOf(low).Cmp(bigOf(high)) > 0 {
					sameResult(t, "clamped with limits in the wrong order", h, ok, nil, false)
					continue
				}
				want, wantOK := wantedClamped(f, low, high)
				sameResult(t, "clamped "+text(f), h, ok, want, wantOK)
				if ok {
					made++
				} else {
					failed++
				}
			}
		}
	}
	if made < 500 || failed < 500 {
		t.Error(made, "clamped maps and", failed, "failures: both are to be tested")
	}
	h, ok := impl.ClampMap(tentMap(), rat(0, 1), rat(1, 2))
	sameResult(t, "the tent below 1/2", h, ok, pts(0, 1, 0, 1, 1, 4, 1, 2, 3, 4, 1, 2, 1, 1, 0, 1), true)
	h, ok = impl.ClampMap(tentMap(), rat(1, 2), rat(1, 2))
	sameResult(t, "the tent at 1/2", h, ok, pts(0, 1, 1, 2, 1, 1, 1, 2), true)
	// The points at which 1/97 is met, that are left out at last, have Dens of 194.
	h, ok = impl.ClampMap(tentMap(), rat(1, 97), rat(1, 97))
	sameResult(t, "the tent at 1/97", h, ok, nil, false)
	// No value is less than 1/101, so that no point has it.
	h, ok = impl.ClampMap(pts(0, 1, 1, 2, 1, 1, 1, 1), rat(1, 101), rat(1, 1))
	sameResult(t, "a map above 1/101", h, ok, pts(0, 1, 1, 2, 1, 1, 1, 1), true)
}

// upAndDown returns the map that goes up and down between 0 and 1 in a number of laps of the same length, and the last part of one more.
func upAndDown(laps int, end *big.Rat) []impl.Point {
	f := pts(0, 1, 0, 1)
	whole := new(big.Rat).Add(big.NewRat(int64(laps), 1), end)
	for i := 1; i <= laps; i++ {
		x, _ := fractionOf(new(big.Rat).Quo(big.NewRat(int64(i), 1), whole))
		f = append(f, impl.Point{X: x, Y: rat(i%2, 1)})
	}
	if end.Sign() > 0 {
		y, _ := fractionOf(new(big.Rat).Abs(new(big.Rat).Sub(big.NewRat(int64(laps%2), 1), end)))
		f = append(f, impl.Point{X: rat(1, 1), Y: y})
	}
	return f
}

func TestMapsMadeAtTheirLimits(t *testing.T) {
	line, half, none := pts(0, 1, 0, 1, 1, 1, 1, 1), pts(0, 1, 0, 1, 1, 1, 1, 2), new(big.Rat)
	bent := pts(0, 1, 0, 1, 1, 2, 1, 2, 1, 1, 1, 1)
	many := pts(0, 1, 0, 1)
	for i := 1; i <= 11; i++ {
		x, _ := fractionOf(big.NewRat(int64(i), 11))
		many = append(many, impl.Point{X: x, Y: x})
	}
	for _, c := range []struct{ f, g, want []impl.Point }{
		{tentMap(), upAndDown(5, big.NewRat(1, 2)), zigzagMap()},             // 12 points
		{tentMap(), upAndDown(6, none), nil},                                 // 13 points
		{many, tentMap(), tentMap()},                                         // 23 points, of which 3 are left
		{bent, pts(0, 1, 0, 1, 1, 1, 50, 99), pts(0, 1, 0, 1, 1, 1, 50, 99)}, // the point 99/100 is left out
		{bent, pts(0, 1, 0, 1, 1, 1, 64, 99), nil},                           // and so would be 99/128
		{pts(0, 1, 0, 1, 1, 1, 1, 50), half, pts(0, 1, 0, 1, 1, 1, 1, 100)},
		{pts(0, 1, 0, 1, 1, 1, 1, 51), half, nil},
	} {
		h, ok := impl.ComposeMaps(c.f, c.g)
		sameResult(t, text(c.f)+" after "+text(c.g), h, ok, c.want, c.want != nil)
	}
	full := zigzagMap()
	for i := range full {
		full[i].Y, _ = fractionOf(new(big.Rat).Quo(new(big.Rat).Add(bigOf(full[i].X), bigOf(full[i].Y)), big.NewRat(2, 1)))
	}
	for _, c := range []struct{ f, g, want []impl.Point }{
		{zigzagMap(), line, full},
		{zigzagMap(), pts(0, 1, 0, 1, 1, 22, 1, 22, 1, 1, 1, 1), full}, // the point 1/22 is left out
		{zigzagMap(), tentMap(), nil},                                  // 13 points
		{line, half, pts(0, 1, 0, 1, 1, 1, 3, 4)},
		{pts(0, 1, 0, 1, 1, 67, 1, 67, 1, 1, 1, 1), half, nil}, // the value 3/268 would be left out
		{pts(0, 1, 1, 100, 1, 1, 1, 100), pts(0, 1, 99, 100, 1, 1, 3, 100), pts(0, 1, 1, 2, 1, 1, 1, 50)},
		{pts(0, 1, 1, 100, 1, 1, 0, 1), pts(0, 1, 0, 1, 1, 1, 0, 1), nil},
		{pts(0, 1, 1, 50, 1, 1, 0, 1), pts(0, 1, 0, 1, 1, 1, 0, 1), pts(0, 1, 1, 100, 1, 1, 0, 1)},
	} {
		h, ok := impl.MiddleMap(c.f, c.g)
		sameResult(t, "the middle of "+text(c.f)+" and "+text(c.g), h, ok, c.want, c.want != nil)
	}
	h, ok := impl.ClampMap(upAndDown(7, none), rat(0, 1), rat(1, 2))
	if !ok || len(h) != impl.MaxPoints {
		t.Error("a clamped map of 12 points is", h, ok)
	}
	h, ok = impl.ClampMap(upAndDown(8, none), rat(0, 1), rat(1, 2))
	sameResult(t, "a clamped map of 13 points", h, ok, nil, false)
	h, ok = impl.ClampMap(half, rat(1, 100), rat(1, 2))
	sameResult(t, "a limit with the Den MaxCoord", h, ok, pts(0, 1, 1, 100, 1, 50, 1, 100, 1, 1, 1, 2), true)
}

func text(f []impl.Point) string {
	s, _ := impl.MapText(f)
	return s
}

// pairedMaps returns pairs of maps: each of some with another one, and with those that are easily near to it.
func pairedMaps() [][2][]impl.Point {
	r := rand.New(rand.NewSource(5))
	var pairs [][2][]impl.Point
	list := someMaps()
	for i, f := range list {
		for _, k := range []int{1, 2, 5, 7, 11, 13, 17, 23} {
			pairs = append(pairs, [2][]impl.Point{f, list[(i+k)%len(list)]})
		}
		pairs = append(pairs, [2][]impl.Point{f, f}, [2][]impl.Point{f, withMore(r, f)}, [2][]impl.Point{withMore(r, f), f})
		moved, touching := slices.Clone(f), slices.Clone(f)
		moved[i%len(f)].Y = mixedUnit(r, 12)
		for k := range touching {
			if r.Intn(2) == 0 {
				touching[k].Y = rat(1, 1)
			}
		}
		pairs = append(pairs, [2][]impl.Point{f, moved}, [2][]impl.Point{f, touching}, [2][]impl.Point{touching, f})
	}
	return pairs
}

// withMore returns a map with further points, as far as there are some, where it is linear.
func withMore(r *rand.Rand, f []impl.Point) []impl.Point {
	f = slices.Clone(f)
	for range 30 {
		i := r.Intn(len(f) - 1)
		x, _ := fractionOf(new(big.Rat).Quo(new(big.Rat).Add(bigOf(f[i].X), bigOf(f[i+1].X)), big.NewRat(2, 1)))
		y, _ := fractionOf(bigValue(f, bigOf(x)))
		if len(f) < impl.MaxPoints && x.Den <= impl.MaxCoord && y.Den <= impl.MaxCoord {
			f = slices.Insert(f, i+1, impl.Point{X: x, Y: y})
		}
	}
	return f
}

func TestAreSameMap(t *testing.T) {
	same, other, large := 0, 0, 0
	for _, pair := range append(pairedMaps(), fineMaps()...) {
		f, g := pair[0], pair[1]
		want := wantedSame(f, g)
		if is, ok := impl.AreSameMap(f, g); is != want || !ok {
			t.Errorf("AreSameMap(%v, %v) is %v, %v, not %v", f, g, is, ok, want)
		}
		_, fits := wantedDifferences(f, g)
		switch {
		case !fits:
			large++
		case want && len(f) != len(g):
			same++
		case !want:
			other++
		}
	}
	if same < 50 || other < 200 || large < 20 {
		t.Error(same, "same maps with different points,", other, "others,", large, "with values that are too large")
	}
	for _, f := range someMaps() {
		simple, _ := impl.SimpleMap(f)
		if is, ok := impl.AreSameMap(simple, f); !is || !ok {
			t.Errorf("the simple map of %v is another one", f)
		}
	}
}

func TestDoCommute(t *testing.T) {
	yes, no, onceFailed := 0, 0, 0
	lists := pairedMaps()
	for _, f := range someMaps() {
		for n := range 4 {
			if h, ok := impl.PowerOfMap(f, n); ok {
				lists = append(lists, [2][]impl.Point{f, h}, [2][]impl.Point{h, f})
			}
		}
	}
	for _, pair := range lists {
		f, g := pair[0], pair[1]
		after, afterOK := wantedComposition(f, g)
		before, beforeOK := wantedComposition(g, f)
		wantOK := afterOK && beforeOK
		want := wantOK && slices.Equal(after, before)
		if is, ok := impl.DoCommute(f, g); is != want || ok != wantOK {
			t.Errorf("DoCommute(%v, %v) is %v, %v, not %v, %v", f, g, is, ok, want, wantOK)
		}
		switch {
		case want:
			yes++
		case wantOK:
			no++
		case afterOK != beforeOK:
			onceFailed++
		}
	}
	if yes < 100 || no < 50 || onceFailed < 50 {
		t.Error(yes, "pairs commute,", no, "do not,", onceFailed, "have one composition alone")
	}
}

func TestDoCommuteOneWayRound(t *testing.T) {
	low := pts(0, 1, 0, 1, 1, 1, 1, 51)
	if _, ok := impl.ComposeMaps(low, tentMap()); !ok {
		t.Error("low values after the tent fail")
	}
	steep := pts(0, 1, 0, 1, 1, 3, 1, 1, 1, 1, 0, 1)
	third := pts(0, 1, 0, 1, 1, 1, 99, 100)
	_, afterOK := impl.ComposeMaps(third, steep)
	_, beforeOK := impl.ComposeMaps(steep, third)
	if !afterOK || beforeOK {
		t.Error("the compositions are", afterOK, "and", beforeOK, "not true and false")
	}
	for _, pair := range [][2][]impl.Point{{third, steep}, {steep, third}} {
		if is, ok := impl.DoCommute(pair[0], pair[1]); is || ok {
			t.Error("maps with one composition alone are told to commute or not:", is, ok)
		}
	}
	for _, c := range []struct {
		f, g []impl.Point
		want bool
	}{
		{tentMap(), pts(0, 1, 0, 1, 1, 1, 1, 1), true},
		{tentMap(), pts(0, 1, 2, 3, 1, 1, 2, 3), true},
		{tentMap(), pts(0, 1, 1, 2, 1, 1, 1, 2), false},
		{tentMap(), pts(0, 1, 1, 1, 1, 1, 0, 1), false},
		{tentMap(), pts(0, 1, 0, 1, 1, 3, 1, 1, 2, 3, 0, 1, 1, 1, 1, 1), true},
	} {
		for _, pair := range [][2][]impl.Point{{c.f, c.g}, {c.g, c.f}} {
			if is, ok := impl.DoCommute(pair[0], pair[1]); is != c.want || !ok {
				t.Errorf("DoCommute(%v, %v) is %v, %v", pair[0], pair[1], is, ok)
			}
		}
	}
}

// furtherLists returns lists of 0 to 20 fractions: small ones, points of the map, and equal ones.
func furtherLists(f []impl.Point) [][]impl.Rat {
	r := rand.New(rand.NewSource(6))
	lists := [][]impl.Rat{nil, {}, {rat(0, 1)}, {rat(1, 1), rat(0, 1)}, {rat(1, 100)}, {rat(1, 101)}, {rat(1, most)}, slices.Repeat([]impl.Rat{rat(1, 2)}, 20)}
	var own []impl.Rat
	for _, p := range f {
		own = append(own, p.X)
	}
	lists = append(lists, own)
	for i := range 21 {
		var list []impl.Rat
		for range i {
			list = append(list, []impl.Rat{mixedUnit(r, 4), f[r.Intn(len(f))].X}[r.Intn(2)])
		}
		lists = append(lists, list, list[:i/4])
	}
	return lists
}

func TestRefineMap(t *testing.T) {
	made, failed, full := 0, 0, 0
	for _, f := range someMaps() {
		for _, list := range furtherLists(f) {
			h, ok := impl.RefineMap(f, list)
			want, wantOK := wantedRefined(f, list)
			sameResult(t, text(f)+" with more points", h, ok, want, wantOK)
			switch {
			case !ok:
				failed++
			case len(h) == impl.MaxPoints:
				full++
			default:
				made++
			}
			if same, _ := impl.AreSameMap(f, h); ok && !same {
				t.Errorf("%v with more points is another map: %v", f, h)
			}
		}
	}
	if made < 500 || failed < 500 || full < 50 {
		t.Error(made, "maps with more points,", full, "with as many as may be, and", failed, "failures")
	}
}

func TestRefineMapAtItsLimits(t *testing.T) {
	line := pts(0, 1, 0, 1, 1, 1, 1, 1)
	h, ok := impl.RefineMap(line, []impl.Rat{rat(2, 3), rat(1, 3), rat(2, 3), rat(1, 1)})
	sameResult(t, "the line with two more points", h, ok, pts(0, 1, 0, 1, 1, 3, 1, 3, 2, 3, 2, 3, 1, 1, 1, 1), true)
	h, ok = impl.RefineMap(line, nil)
	sameResult(t, "the line", h, ok, line, true)
	bent := pts(0, 1, 0, 1, 1, 4, 1, 4, 1, 2, 1, 2, 1, 1, 1, 1)
	h, ok = impl.RefineMap(bent, []impl.Rat{})
	sameResult(t, "a map that is not simple", h, ok, bent, true)
	h, ok = impl.RefineMap(line, []impl.Rat{rat(1, 100), rat(99, 100)})
	sameResult(t, "Dens of MaxCoord", h, ok, pts(0, 1, 0, 1, 1, 100, 1, 100, 99, 100, 99, 100, 1, 1, 1, 1), true)
	h, ok = impl.RefineMap(pts(0, 1, 0, 1, 1, 1, 1, 2), []impl.Rat{rat(1, 50)})
	sameResult(t, "a value with the Den MaxCoord", h, ok, pts(0, 1, 0, 1, 1, 50, 1, 100, 1, 1, 1, 2), true)
	for _, x := range []impl.Rat{rat(1, 101), rat(1, most), rat(most-1, most)} {
		h, ok = impl.RefineMap(line, []impl.Rat{x})
		sameResult(t, "a Den above MaxCoord", h, ok, nil, false)
	}
	h, ok = impl.RefineMap(pts(0, 1, 0, 1, 1, 1, 1, 2), []impl.Rat{rat(1, 51)})
	sameResult(t, "a value with a Den above MaxCoord", h, ok, nil, false)
	var tenths, elevenths []impl.Rat
	for i := 1; i <= 11; i++ {
		tenths, elevenths = append(tenths, rat(i, 11)), append(elevenths, rat(i, 13))
	}
	tenths[10] = rat(1, 1)
	h, ok = impl.RefineMap(line, append(tenths, tenths[:9]...))
	if !ok || len(h) != impl.MaxPoints || h[5] != (impl.Point{X: rat(5, 11), Y: rat(5, 11)}) {
		t.Error("12 points and 20 fractions:", h, ok)
	}
	h, ok = impl.RefineMap(line, elevenths)
	sameResult(t, "13 points", h, ok, nil, false)
	h, ok = impl.RefineMap(line, append(tenths, tenths[:10]...))
	sameResult(t, "21 fractions", h, ok, nil, false)
	h, ok = impl.RefineMap(line, slices.Repeat([]impl.Rat{rat(0, 1)}, 21))
	sameResult(t, "the fraction 0, 21 times", h, ok, nil, false)
}

func TestGreatestDistance(t *testing.T) {
	made, failed, larger := 0, 0, 0
	for _, pair := range append(pairedMaps(), fineMaps()...) {
		f, g := pair[0], pair[1]
		want, wantOK := wantedGreatest(f, g)
		if d, ok := impl.GreatestDistance(f, g); d != want || ok != wantOK {
			t.Errorf("GreatestDistance(%v, %v) is %v, %v, not %v, %v", f, g, d, ok, want, wantOK)
		}
		_, fits := wantedDifferences(f, g)
		switch {
		case wantOK:
			made++
		case fits:
			larger++
		default:
			failed++
		}
	}
	if made < 300 || failed < 20 || larger < 1 {
		t.Error(made, "distances,", failed, "failures by a value,", larger, "by a difference")
	}
	for _, c := range []struct {
		f, g []impl.Point
		want impl.Rat
	}{
		{tentMap(), tentMap(), rat(0, 1)},
		{tentMap(), pts(0, 1, 1, 1, 1, 1, 1, 1), rat(1, 1)},                               // they touch
		{pts(0, 1, 0, 1, 1, 1, 1, 1), pts(0, 1, 1, 1, 1, 1, 0, 1), rat(1, 1)},             // they cross
		{pts(0, 1, 0, 1, 1, 1, 1, 1), pts(0, 1, 1, 3, 1, 1, 1, 2), rat(1, 2)},             // they cross, at most at 1
		{pts(0, 1, 0, 1, 1, 1, 1, 1), pts(0, 1, 0, 1, 1, 3, 2, 3, 1, 1, 1, 1), rat(1, 3)}, // within
		{tentMap(), pts(0, 1, 0, 1, 1, 1, 0, 1), rat(1, 1)},                               // at a point of the first one alone
		{pts(0, 1, 0, 1, 1, 2, 1, 4, 1, 1, 0, 1), pts(0, 1, 0, 1, 1, 2, 1, 3, 1, 1, 0, 1), rat(1, 12)},
	} {
		for _, pair := range [][2][]impl.Point{{c.f, c.g}, {c.g, c.f}} {
			if d, ok := impl.GreatestDistance(pair[0], pair[1]); d != c.want || !ok {
				t.Errorf("GreatestDistance(%v, %v) is %v, %v, not %v", pair[0], pair[1], d, ok, c.want)
			}
		}
	}
}

// fineMaps returns pairs of maps whose Dens are near to MaxCoord. Many have one piece over nearly all fractions,
// in which the values at points of the other map may be too large.
func fineMaps() [][2][]impl.Point {
	r := rand.New(rand.NewSource(7))
	dens := []int{73, 79, 83, 89, 97, 99, 100}
	wide := func() []impl.Point {
		first, second := dens[r.Intn(len(dens))], dens[r.Intn(len(dens))]
		return pts(0, 1, 0, 1, 1, first, 1, dens[r.Intn(len(dens))], second-1, second, dens[r.Intn(2)]-3, 83, 1, 1, 1, 1)
	}
	var pairs [][2][]impl.Point
	for i := range 400 {
		f, g := mixedMap(r, 2+i%4, impl.MaxCoord), mixedMap(r, 2+i%3, impl.MaxCoord)
		if i%2 == 0 {
			f = wide()
		}
		if i%3 == 0 {
			g = wide()
		}
		pairs = append(pairs, [2][]impl.Point{f, g}, [2][]impl.Point{g, f})
	}
	return pairs
}

// placesToJoin returns fractions at which two maps have the same value, and others.
func placesToJoin(f, g []impl.Point) []impl.Rat {
	list := []impl.Rat{rat(0, 1), rat(1, 1), rat(1, 2), rat(1, 3), rat(3, 8), rat(1, 100), rat(1, 101), rat(1, most)}
	for _, x := range append(placesOf(f), placesOf(g)...) {
		place, _ := fractionOf(x)
		list = append(list, place)
	}
	return append(list, crossingsOf(f, g)...)
}

// crossingsOf returns fractions within pieces at which two maps have the same value.
func crossingsOf(f, g []impl.Point) []impl.Rat {
	var list []impl.Rat
	places := append(placesOf(f), placesOf(g)...)
	slices.SortFunc(places, (*big.Rat).Cmp)
	for i := range places[1:] {
		a, b := places[i], places[i+1]
		left := new(big.Rat).Sub(bigValue(f, a), bigValue(g, a))
		right := new(big.Rat).Sub(bigValue(f, b), bigValue(g, b))
		if left.Sign()*right.Sign() < 0 {
			x := new(big.Rat).Mul(new(big.Rat).Sub(b, a), left)
			x.Quo(x, new(big.Rat).Sub(left, right))
			if place, ok := fractionOf(x.Add(x, a)); ok {
				list = append(list, place)
			}
		}
	}
	return list
}

func TestJoinMaps(t *testing.T) {
	made, failed, within, long := 0, 0, 0, 0
	for _, pair := range append(pairedMaps(), fineMaps()...) {
		f, g := pair[0], pair[1]
		for _, at := range placesToJoin(f, g) {
			h, ok := impl.JoinMaps(f, g, at)
			want, wantOK := wantedJoined(f, g, at)
			sameResult(t, text(f)+" up to a fraction and "+text(g), h, ok, want, wantOK)
			switch {
			case !ok:
				failed++
			case slices.Contains(crossingsOf(f, g), at):
				within++
			case len(h) == impl.MaxPoints:
				long++
			default:
				made++
			}
		}
	}
	if made < 500 || failed < 500 || within < 20 || long < 20 {
		t.Error(made+within+long, "joined maps,", within, "where both cross,", long, "with as many points as may be, and", failed, "failures")
	}
}

func TestJoinMapsAtItsLimits(t *testing.T) {
	line, back := pts(0, 1, 0, 1, 1, 1, 1, 1), pts(0, 1, 1, 1, 1, 1, 0, 1)
	bent := pts(0, 1, 0, 1, 1, 4, 1, 4, 1, 1, 1, 1)
	slow := pts(0, 1, 0, 1, 1, 1, 1, 2)
	for _, c := range []struct {
		f, g []impl.Point
		at   impl.Rat
		want []impl.Point
	}{
		{line, back, rat(1, 2), pts(0, 1, 0, 1, 1, 2, 1, 2, 1, 1, 0, 1)}, // within a piece
		{back, line, rat(1, 2), pts(0, 1, 1, 1, 1, 2, 1, 2, 1, 1, 1, 1)},
		{line, tentMap(), rat(0, 1), tentMap()},
		{line, tentMap(), rat(2, 3), pts(0, 1, 0, 1, 2, 3, 2, 3, 1, 1, 0, 1)},
		{tentMap(), line, rat(0, 1), line},
		{tentMap(), back, rat(1, 1), tentMap()},
		{back, tentMap(), rat(1, 1), back},
		{tentMap(), pts(0, 1, 1, 3, 1, 2, 1, 1, 1, 1, 1, 2), rat(1, 2), pts(0, 1, 0, 1, 1, 2, 1, 1, 1, 1, 1, 2)}, // at a point
		{bent, line, rat(1, 3), line},                                                                            // the point 1/4 is left out
		{bent, bent, rat(1, 100), line},                                                                          // the Den of the point 1/100, which is left out, is MaxCoord
		{slow, slow, rat(1, 50), slow},
		{line, back, rat(1, 3), nil}, // different values
		{line, back, rat(0, 1), nil},
		{line, back, rat(1, 1), nil},
		{line, tentMap(), rat(1, 2), nil},
		{line, line, rat(1, 101), nil}, // the point would be left out, but its Den is too large
		{slow, slow, rat(1, 51), nil},
		{line, line, rat(1, most), nil},
	} {
		h, ok := impl.JoinMaps(c.f, c.g, c.at)
		sameResult(t, text(c.f)+" joined to "+text(c.g), h, ok, c.want, c.want != nil)
	}
	first, second := zigzagMap(), zigzagMap()
	first[3].Y, second[8].Y = rat(1, 2), rat(1, 2)
	h, ok := impl.JoinMaps(first, second, rat(5, 11))
	both := slices.Clone(first)
	both[8].Y = rat(1, 2)
	sameResult(t, "12 points", h, ok, both, true)
	h, ok = impl.JoinMaps(zigzagMap(), pts(0, 1, 1, 1, 21, 22, 1, 2, 1, 1, 1, 1), rat(21, 22))
	sameResult(t, "12 points where the last piece stays", h, ok, zigzagMap(), true)
	h, ok = impl.JoinMaps(zigzagMap(), pts(0, 1, 1, 1, 21, 22, 1, 2, 1, 1, 0, 1), rat(21, 22))
	sameResult(t, "13 points", h, ok, nil, false)
}

func TestIsBelow(t *testing.T) {
	yes, no, failed := 0, 0, 0
	for _, pair := range append(pairedMaps(), fineMaps()...) {
		f, g := pair[0], pair[1]
		want, wantOK := wantedBelow(f, g)
		if is, ok := impl.IsBelow(f, g); is != want || ok != wantOK {
			t.Errorf("IsBelow(%v, %v) is %v, %v, not %v, %v", f, g, is, ok, want, wantOK)
		}
		switch {
		case want:
			yes++
		case wantOK:
			no++
		default:
			failed++
		}
	}
	if yes < 100 || no < 100 || failed < 20 {
		t.Error(yes, "maps are below,", no, "are not,", failed, "have values that are too large")
	}
	peak := pts(0, 1, 1, 2, 1, 3, 1, 2, 1, 2, 2, 3, 1, 1, 1, 2)
	for _, c := range []struct {
		f, g []impl.Point
		want bool
	}{
		{tentMap(), tentMap(), true},
		{tentMap(), pts(0, 1, 1, 1, 1, 1, 1, 1), true}, // they touch
		{pts(0, 1, 1, 1, 1, 1, 1, 1), tentMap(), false},
		{pts(0, 1, 0, 1, 1, 1, 0, 1), tentMap(), true},
		{tentMap(), pts(0, 1, 0, 1, 1, 1, 0, 1), false}, // above at one point of f alone
		{peak, pts(0, 1, 2, 3, 1, 1, 2, 3), true},
		{peak, pts(0, 1, 2, 3, 1, 2, 65, 98, 1, 1, 2, 3), false}, // just not
		{pts(0, 1, 2, 3, 1, 1, 2, 3), peak, false},
		{pts(0, 1, 1, 2, 1, 1, 1, 2), peak, true},
		{pts(0, 1, 1, 2, 1, 1, 1, 2), pts(0, 1, 1, 1, 1, 2, 49, 100, 1, 1, 1, 1), false}, // below at a point of g alone
		{pts(0, 1, 0, 1, 1, 1, 1, 1), pts(0, 1, 0, 1, 1, 1, 99, 100), false},             // above at 1 alone
		{pts(0, 1, 1, 100, 1, 1, 0, 1), pts(0, 1, 0, 1, 1, 1, 1, 1), false},              // above at 0
	} {
		if is, ok := impl.IsBelow(c.f, c.g); is != c.want || !ok {
			t.Errorf("IsBelow(%v, %v) is %v, %v, not %v", c.f, c.g, is, ok, c.want)
		}
	}
}

// The values are too large at a point of one map alone, in pieces with coprime Dens.
func TestValuesThatAreTooLarge(t *testing.T) {
	f := pts(0, 1, 0, 1, 1, 97, 1, 89, 88, 89, 82, 83, 1, 1, 1, 1)
	g := pts(0, 1, 1, 1, 50, 79, 1, 1, 1, 1, 1, 1)
	if _, ok := impl.ValueAt(f, rat(50, 79)); ok {
		t.Error("the value at 50/79 is not too large")
	}
	for _, pair := range [][2][]impl.Point{{f, g}, {g, f}} {
		if d, ok := impl.GreatestDistance(pair[0], pair[1]); ok || d != (impl.Rat{}) {
			t.Error("the distance of values that are too large is", d, ok)
		}
		if is, ok := impl.IsBelow(pair[0], pair[1]); ok || is {
			t.Error("values that are too large are compared:", is, ok)
		}
		if is, ok := impl.AreSameMap(pair[0], pair[1]); !ok || is {
			t.Error("maps with values that are too large are not told apart:", is, ok)
		}
		h, ok := impl.JoinMaps(pair[0], pair[1], rat(50, 79))
		sameResult(t, "joined at a value that is too large", h, ok, nil, false)
		h, ok = impl.MiddleMap(pair[0], pair[1])
		sameResult(t, "the middle with a value that is too large", h, ok, nil, false)
	}
	h, ok := impl.RefineMap(f, []impl.Rat{rat(50, 79)})
	sameResult(t, "a point with a value that is too large", h, ok, nil, false)
}

// Compositions have the values of values.
func TestCompositionsHaveValuesOfValues(t *testing.T) {
	met := 0
	for _, f := range someMaps() {
		for _, g := range someMaps() {
			h, ok := impl.ComposeMaps(f, g)
			if !ok {
				continue
			}
			for _, x := range []impl.Rat{rat(0, 1), rat(1, 1), rat(1, 2), rat(1, 3), rat(2, 7), rat(97, 100), rat(1, 1000), rat(998, 999)} {
				inner, innerOK := impl.ValueAt(g, x)
				outer, outerOK := impl.ValueAt(f, inner)
				if y, ok := impl.ValueAt(h, x); ok && innerOK && outerOK {
					met++
					if y != outer {
						t.Errorf("%v after %v has the value %v at %v, not %v", f, g, y, x, outer)
					}
				}
			}
		}
	}
	if met < 3000 {
		t.Error("only", met, "values of values")
	}
}

// Powers add up.
func TestPowersAddUp(t *testing.T) {
	met := 0
	for _, f := range someMaps() {
		var powers [7][]impl.Point
		var made [7]bool
		for n := range powers {
			powers[n], made[n] = impl.PowerOfMap(f, n)
		}
		for m := range powers {
			for n := range 7 - m {
				if h, ok := impl.ComposeMaps(powers[m], powers[n]); ok && made[m] && made[n] && made[m+n] {
					met++
					sameResult(t, "powers of "+text(f)+" that add up", h, ok, powers[m+n], true)
				}
			}
		}
	}
	if met < 300 {
		t.Error("only", met, "powers")
	}
	for _, c := range []struct{ f, want []impl.Point }{
		{pts(0, 1, 0, 1, 1, 1, 1, 2), pts(0, 1, 0, 1, 1, 1, 1, 64)},
		{pts(0, 1, 1, 1, 1, 1, 0, 1), pts(0, 1, 0, 1, 1, 1, 1, 1)},
		{pts(0, 1, 0, 1, 1, 2, 1, 4, 1, 1, 1, 2), pts(0, 1, 0, 1, 1, 1, 1, 64)},
		{pts(0, 1, 0, 1, 1, 2, 0, 1, 1, 1, 1, 1), pts(0, 1, 0, 1, 63, 64, 0, 1, 1, 1, 1, 1)},
	} {
		h, ok := impl.PowerOfMap(c.f, 6)
		sameResult(t, "the power 6 of "+text(c.f), h, ok, c.want, true)
	}
}

func TestInvalidMapsAreNotComposed(t *testing.T) {
	for _, f := range invalidMaps() {
		h, ok := impl.ComposeMaps(f, tentMap())
		sameResult(t, "after", h, ok, nil, false)
		h, ok = impl.ComposeMaps(tentMap(), f)
		sameResult(t, "after", h, ok, nil, false)
		h, ok = impl.PowerOfMap(f, 0)
		sameResult(t, "power", h, ok, nil, false)
		h, ok = impl.MiddleMap(f, tentMap())
		sameResult(t, "middle", h, ok, nil, false)
		h, ok = impl.MiddleMap(tentMap(), f)
		sameResult(t, "middle", h, ok, nil, false)
		h, ok = impl.ClampMap(f, rat(0, 1), rat(1, 1))
		sameResult(t, "clamp", h, ok, nil, false)
	}
	for _, bad := range invalidUnits() {
		h, ok := impl.ClampMap(tentMap(), bad, rat(1, 1))
		sameResult(t, "clamp", h, ok, nil, false)
		h, ok = impl.ClampMap(tentMap(), rat(0, 1), bad)
		sameResult(t, "clamp", h, ok, nil, false)
	}
}

// noneOfTwo tests that two arguments, one of which is no map, have no result.
func noneOfTwo(t *testing.T, f, g []impl.Point) {
	t.Helper()
	if is, ok := impl.AreSameMap(f, g); is || ok {
		t.Errorf("AreSameMap(%v, %v) is %v, %v", f, g, is, ok)
	}
	if is, ok := impl.DoCommute(f, g); is || ok {
		t.Errorf("DoCommute(%v, %v) is %v, %v", f, g, is, ok)
	}
	if d, ok := impl.GreatestDistance(f, g); d != (impl.Rat{}) || ok {
		t.Errorf("GreatestDistance(%v, %v) is %v, %v", f, g, d, ok)
	}
	if is, ok := impl.IsBelow(f, g); is || ok {
		t.Errorf("IsBelow(%v, %v) is %v, %v", f, g, is, ok)
	}
	for _, at := range []impl.Rat{rat(0, 1), rat(1, 1), rat(1, 2)} {
		h, ok := impl.JoinMaps(f, g, at)
		sameResult(t, "joined", h, ok, nil, false)
	}
}

func TestInvalidMapsAreNotCompared(t *testing.T) {
	line := pts(0, 1, 0, 1, 1, 1, 1, 1)
	for _, f := range invalidMaps() {
		noneOfTwo(t, f, f)
		for _, g := range [][]impl.Point{tentMap(), line, zigzagMap(), nil} {
			noneOfTwo(t, f, g)
			noneOfTwo(t, g, f)
		}
		for _, list := range [][]impl.Rat{nil, {}, {rat(1, 2)}} {
			h, ok := impl.RefineMap(f, list)
			sameResult(t, "refined", h, ok, nil, false)
		}
	}
	for _, bad := range append(invalidUnits(), rat(2, 4), rat(0, 2), rat(2, 2), impl.Rat{}) {
		h, ok := impl.JoinMaps(line, line, bad)
		sameResult(t, "joined at no fraction from 0 to 1", h, ok, nil, false)
		for _, list := range [][]impl.Rat{{bad}, {rat(0, 1), bad}, {bad, rat(1, 2)}, {rat(1, 2), bad, rat(1, 2)}, slices.Repeat([]impl.Rat{bad}, 20)} {
			h, ok = impl.RefineMap(line, list)
			sameResult(t, "refined at no fraction from 0 to 1", h, ok, nil, false)
		}
	}
	for _, n := range []int{21, 22, 100000} {
		h, ok := impl.RefineMap(line, make([]impl.Rat, n))
		sameResult(t, "refined at too many", h, ok, nil, false)
	}
	h, ok := impl.RefineMap(line, make([]impl.Rat, 0, 100))
	sameResult(t, "refined at none", h, ok, line, true)
}

func overwrite(points []impl.Point) {
	for i := range points[:cap(points)] {
		points[:cap(points)][i] = impl.Point{X: rat(5, 5), Y: rat(6, 6)}
	}
}

func TestComposedMapsAreLeftAsTheyAre(t *testing.T) {
	lists := append(plainMaps(), invalidMaps()...)
	for i, f := range lists {
		g := lists[(i*7+3)%len(lists)]
		first, second := spare(f), spare(g)
		h, _ := impl.ComposeMaps(first, second)
		overwrite(h)
		for n := -1; n < 8; n++ {
			h, _ = impl.PowerOfMap(first, n)
			overwrite(h)
		}
		h, _ = impl.MiddleMap(first, second)
		overwrite(h)
		h, _ = impl.ClampMap(first, rat(0, 1), rat(1, 1))
		overwrite(h)
		h, _ = impl.ClampMap(first, rat(1, 3), rat(1, 2))
		overwrite(h)
		impl.AreSameMap(first, second)
		impl.DoCommute(first, second)
		impl.GreatestDistance(first, second)
		impl.IsBelow(first, second)
		for _, at := range []impl.Rat{rat(0, 1), rat(1, 2), rat(1, 1), rat(2, 4)} {
			h, _ = impl.JoinMaps(first, second, at)
			overwrite(h)
			h, _ = impl.JoinMaps(first, first, at)
			overwrite(h)
		}
		for _, list := range furtherLists(tentMap()) {
			given := spareRats(list)
			h, _ = impl.RefineMap(first, given)
			overwrite(h)
			if !sameRatsWithSpare(given, list) {
				t.Errorf("%v has become %v", list, given)
			}
		}
		if !sameWithSpare(first, f) || !sameWithSpare(second, g) {
			t.Errorf("%v and %v have become %v and %v", f, g, first, second)
		}
	}
}
