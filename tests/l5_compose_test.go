package tests

import (
	"slices"
	"testing"

	"loop.example/g01003/impl"
)

// someMaps returns maps whose compositions often are maps: with few points of small Dens.
func someMaps() [][]impl.Point {
	return append([][]impl.Point{
		pts(0, 1, 1, 2, 1, 2, 1, 1, 1, 1, 0, 1),
		pts(0, 1, 0, 1, 1, 4, 1, 4, 1, 2, 1, 2, 1, 1, 1, 1),
		pts(0, 1, 1, 2, 1, 1, 1, 2),
		pts(0, 1, 1, 4, 1, 2, 3, 4, 1, 1, 1, 4),
		pts(0, 1, 0, 1, 1, 4, 1, 1, 1, 2, 0, 1, 3, 4, 1, 1, 1, 1, 0, 1),
		pts(0, 1, 1, 101-2, 1, 1, 1, 97),
		pts(0, 1, 0, 1, 97, 98, 1, 97, 1, 1, 1, 1),
	}, mixedMaps(60)...)
}

func sameResult(t *testing.T, what string, f []impl.Point, ok bool, want []impl.Point, wantOK bool) {
	t.Helper()
	if ok != wantOK || !slices.Equal(f, want) {
		t.Errorf("%s is %v, %v, not %v, %v", what, f, ok, want, wantOK)
	}
}

func TestComposeMaps(t *testing.T) {
	made, failed := 0, 0
	for _, f := range someMaps() {
		for _, g := range someMaps() {
			h, ok := impl.ComposeMaps(f, g)
			want, wantOK := wantedComposition(f, g)
			sameResult(t, text(f)+" after "+text(g), h, ok, want, wantOK)
			if ok {
				made++
			} else {
				failed++
			}
		}
	}
	if made < 500 || failed < 500 {
		t.Error(made, "compositions and", failed, "failures: both are to be tested")
	}
}

func TestPowerOfMap(t *testing.T) {
	for _, f := range someMaps() {
		for n := range 7 {
			h, ok := impl.PowerOfMap(f, n)
			want, wantOK := wantedPower(f, n)
			sameResult(t, "a power of "+text(f), h, ok, want, wantOK)
		}
		for _, n := range []int{-1, 7, 8, most, -most} {
			h, ok := impl.PowerOfMap(f, n)
			sameResult(t, "a power out of range of "+text(f), h, ok, nil, false)
		}
	}
	h, ok := impl.PowerOfMap(tentMap(), 2)
	sameResult(t, "the power 2", h, ok, pts(0, 1, 0, 1, 1, 4, 1, 1, 1, 2, 0, 1, 3, 4, 1, 1, 1, 1, 0, 1), true)
	h, ok = impl.PowerOfMap(tentMap(), 3)
	sameResult(t, "the power 3", h, ok, pts(0, 1, 0, 1, 1, 8, 1, 1, 1, 4, 0, 1, 3, 8, 1, 1, 1, 2, 0, 1, 5, 8, 1, 1, 3, 4, 0, 1, 7, 8, 1, 1, 1, 1, 0, 1), true)
	h, ok = impl.PowerOfMap(tentMap(), 4)
	sameResult(t, "the power 4", h, ok, nil, false)
}

func TestMiddleMap(t *testing.T) {
	made, failed := 0, 0
	for _, f := range someMaps() {
		for _, g := range someMaps() {
			h, ok := impl.MiddleMap(f, g)
			want, wantOK := wantedMiddle(f, g)
			sameResult(t, "the middle of "+text(f)+" and "+text(g), h, ok, want, wantOK)
			if ok {
				made++
			} else {
				failed++
			}
		}
	}
	if made < 500 || failed < 500 {
		t.Error(made, "middles and", failed, "failures: both are to be tested")
	}
}

func TestClampMap(t *testing.T) {
	limits := []impl.Rat{rat(0, 1), rat(1, 1), rat(1, 2), rat(1, 3), rat(1, 4), rat(1, 100), rat(99, 100), rat(1, 101), rat(1, most), rat(most-1, most), rat(2, 3)}
	made, failed := 0, 0
	for _, f := range someMaps() {
		for _, low := range limits {
			for _, high := range limits {
				h, ok := impl.ClampMap(f, low, high)
				if bigOf(low).Cmp(bigOf(high)) > 0 {
					sameResult(t, "clamped with limits in the wrong order", h, ok, nil, false)
					continue
				}
				want, wantOK := wantedClamped(f, low, high)
				sameResult(t, "clamped "+text(f), h, ok, want, wantOK)
				if ok {
					made++
				} else {
					failed++
				}
			}
		}
	}
	if made < 500 || failed < 500 {
		t.Error(made, "clamped maps and", failed, "failures: both are to be tested")
	}
	h, ok := impl.ClampMap(tentMap(), rat(0, 1), rat(1, 2))
	sameResult(t, "the tent below 1/2", h, ok, pts(0, 1, 0, 1, 1, 4, 1, 2, 3, 4, 1, 2, 1, 1, 0, 1), true)
	h, ok = impl.ClampMap(tentMap(), rat(1, 2), rat(1, 2))
	sameResult(t, "the tent at 1/2", h, ok, pts(0, 1, 1, 2, 1, 1, 1, 2), true)
	// The points at which 1/97 is met, that are left out at last, have Dens of 194.
	h, ok = impl.ClampMap(tentMap(), rat(1, 97), rat(1, 97))
	sameResult(t, "the tent at 1/97", h, ok, nil, false)
	// No value is less than 1/101, so that no point has it.
	h, ok = impl.ClampMap(pts(0, 1, 1, 2, 1, 1, 1, 1), rat(1, 101), rat(1, 1))
	sameResult(t, "a map above 1/101", h, ok, pts(0, 1, 1, 2, 1, 1, 1, 1), true)
}

func text(f []impl.Point) string {
	s, _ := impl.MapText(f)
	return s
}

func TestInvalidMapsAreNotComposed(t *testing.T) {
	for _, f := range invalidMaps() {
		h, ok := impl.ComposeMaps(f, tentMap())
		sameResult(t, "after", h, ok, nil, false)
		h, ok = impl.ComposeMaps(tentMap(), f)
		sameResult(t, "after", h, ok, nil, false)
		h, ok = impl.PowerOfMap(f, 0)
		sameResult(t, "power", h, ok, nil, false)
		h, ok = impl.MiddleMap(f, tentMap())
		sameResult(t, "middle", h, ok, nil, false)
		h, ok = impl.MiddleMap(tentMap(), f)
		sameResult(t, "middle", h, ok, nil, false)
		h, ok = impl.ClampMap(f, rat(0, 1), rat(1, 1))
		sameResult(t, "clamp", h, ok, nil, false)
	}
	for _, bad := range invalidUnits() {
		h, ok := impl.ClampMap(tentMap(), bad, rat(1, 1))
		sameResult(t, "clamp", h, ok, nil, false)
		h, ok = impl.ClampMap(tentMap(), rat(0, 1), bad)
		sameResult(t, "clamp", h, ok, nil, false)
	}
}

func overwrite(points []impl.Point) {
	for i := range points[:cap(points)] {
		points[:cap(points)][i] = impl.Point{X: rat(5, 5), Y: rat(6, 6)}
	}
}

func TestComposedMapsAreLeftAsTheyAre(t *testing.T) {
	lists := append(plainMaps(), invalidMaps()...)
	for i, f := range lists {
		g := lists[(i*7+3)%len(lists)]
		first, second := spare(f), spare(g)
		h, _ := impl.ComposeMaps(first, second)
		overwrite(h)
		for n := -1; n < 8; n++ {
			h, _ = impl.PowerOfMap(first, n)
			overwrite(h)
		}
		h, _ = impl.MiddleMap(first, second)
		overwrite(h)
		h, _ = impl.ClampMap(first, rat(0, 1), rat(1, 1))
		overwrite(h)
		h, _ = impl.ClampMap(first, rat(1, 3), rat(1, 2))
		overwrite(h)
		if !sameWithSpare(first, f) || !sameWithSpare(second, g) {
			t.Errorf("%v and %v have become %v and %v", f, g, first, second)
		}
	}
}
