package tests

import (
	"math"
	"math/big"
	"slices"
	"testing"

	"loop.example/g01003/impl"
)

// orbitResults are the results of all functions of one orbit.
type orbitResults struct {
	last       impl.Rat
	lastOK     bool
	orbit      []impl.Rat
	orbitOK    bool
	preperiod  int
	period     int
	periodOK   bool
	cycle      []impl.Rat
	cycleOK    bool
	steps      int
	stepsOK    bool
	den        int
	denOK      bool
	product    impl.Rat
	productOK  bool
	pattern    []int
	patternOK  bool
	visits     int
	visitsOK   bool
	distance   impl.Rat
	distanceOK bool
}

// callOrbit calls all functions of one orbit; visits are those from a to b, and the distance is that from the orbit of b.
func callOrbit(f []impl.Point, x impl.Rat, n int, a, b impl.Rat) orbitResults {
	var r orbitResults
	r.last, r.lastOK = impl.IterateMap(f, x, n)
	r.orbit, r.orbitOK = impl.OrbitOf(f, x, n)
	r.preperiod, r.period, r.periodOK = impl.PeriodOf(f, x, n)
	r.cycle, r.cycleOK = impl.LimitCycle(f, x, n)
	r.steps, r.stepsOK = impl.StepsInSize(f, x, n)
	r.den, r.denOK = impl.GreatestDen(f, x, n)
	r.product, r.productOK = impl.MultiplierAt(f, x, n)
	r.pattern, r.patternOK = impl.CyclePattern(f, x, n)
	r.visits, r.visitsOK = impl.VisitsOf(f, x, n, a, b)
	r.distance, r.distanceOK = impl.OrbitDistance(f, x, b, n)
	return r
}

// wantedOrbit finds slowly what callOrbit has to return for valid arguments, a <= b, with the slow orbits of x and of b.
func wantedOrbit(f []impl.Point, orbit, other []impl.Rat, n int, a, b impl.Rat) orbitResults {
	orbit, other = orbit[:min(len(orbit), n+1)], other[:min(len(other), n+1)]
	r := orbitResults{steps: len(orbit) - 1, stepsOK: true}
	if len(orbit) <= n {
		return r
	}
	r.last, r.lastOK = orbit[n], true
	r.orbit, r.orbitOK = orbit, true
	r.denOK, r.visitsOK = true, true
	for _, y := range orbit {
		r.den = max(r.den, y.Den)
		if bigOf(a).Cmp(bigOf(y)) <= 0 && bigOf(y).Cmp(bigOf(b)) <= 0 {
			r.visits++
		}
	}
	r.preperiod, r.period, r.periodOK = wantedPeriod(orbit)
	r.cycle, r.cycleOK = wantedCycle(orbit)
	if r.periodOK && r.preperiod == 0 {
		r.product, r.productOK = wantedMultiplier(f, r.cycle)
		r.pattern, r.patternOK = wantedPattern(r.cycle)
	}
	r.distance, r.distanceOK = wantedDistance(orbit, other)
	return r
}

// wantedDistance returns the greatest distance of two orbits. It fails if one of all distances is no fraction, or one orbit is shorter.
func wantedDistance(first, second []impl.Rat) (impl.Rat, bool) {
	greatest := new(big.Rat)
	for i := range first {
		if len(second) != len(first) {
			return impl.Rat{}, false
		}
		distance := new(big.Rat).Sub(bigOf(first[i]), bigOf(second[i]))
		if !allFit(distance) {
			return impl.Rat{}, false
		}
		if distance.Abs(distance).Cmp(greatest) > 0 {
			greatest = distance
		}
	}
	return fractionOf(greatest)
}

func sameOrbitResults(a, b orbitResults) bool {
	if !slices.Equal(a.orbit, b.orbit) || !slices.Equal(a.cycle, b.cycle) || !slices.Equal(a.pattern, b.pattern) {
		return false
	}
	return a.last == b.last && a.lastOK == b.lastOK && a.orbitOK == b.orbitOK &&
		a.preperiod == b.preperiod && a.period == b.period && a.periodOK == b.periodOK && a.cycleOK == b.cycleOK &&
		a.steps == b.steps && a.stepsOK == b.stepsOK && a.den == b.den && a.denOK == b.denOK &&
		a.product == b.product && a.productOK == b.productOK && a.patternOK == b.patternOK &&
		a.visits == b.visits && a.visitsOK == b.visitsOK && a.distance == b.distance && a.distanceOK == b.distanceOK
}

func TestOrbitsAreAsWanted(t *testing.T) {
	if impl.MaxSteps != 60 {
		t.Error("MaxSteps is", impl.MaxSteps)
	}
	counts := map[string]int{}
	count := func(name string, ok bool) {
		if ok {
			counts[name]++
		} else {
			counts["no "+name]++
		}
	}
	for k, f := range orbitMaps() {
		starts := orbitStarts(f, k)
		for i, x := range starts {
			a, b := starts[(i*7+k)%len(starts)], starts[(i*11+1)%len(starts)]
			if bigOf(a).Cmp(bigOf(b)) > 0 {
				a, b = b, a
			}
			orbit, other := slowOrbit(f, x, impl.MaxSteps), slowOrbit(f, b, impl.MaxSteps)
			for _, n := range []int{0, 1, 2, 3, 5 + i%20, 59, 60} {
				got, want := callOrbit(f, x, n, a, b), wantedOrbit(f, orbit, other, n, a, b)
				if !sameOrbitResults(got, want) {
					t.Fatalf("%s from %v on, %d steps, with %v and %v: %+v, not %+v", text(f), x, n, a, b, got, want)
				}
				count("orbit", got.orbitOK)
				count("period", got.periodOK)
				count("multiplier", got.productOK)
				count("pattern", got.patternOK)
				count("distance", got.distanceOK)
				count("distance of orbits", got.distanceOK || !got.orbitOK)
				count("multiplier of a cycle", got.productOK || !got.patternOK)
			}
		}
	}
	for _, name := range []string{"orbit", "period", "multiplier", "pattern", "distance"} {
		if counts[name] < 1000 || counts["no "+name] < 1000 {
			t.Error(counts[name], "calls with and", counts["no "+name], "without", name)
		}
	}
	if counts["no distance of orbits"] < 100 || counts["no multiplier of a cycle"] < 100 {
		t.Error(counts)
	}
}

// Limit cycles are cycles of the told period.
func TestLimitCyclesAreCycles(t *testing.T) {
	checked, later := 0, 0
	for k, f := range orbitMaps() {
		for _, x := range orbitStarts(f, k) {
			preperiod, period, ok := impl.PeriodOf(f, x, impl.MaxSteps)
			cycle, cycleOK := impl.LimitCycle(f, x, impl.MaxSteps)
			if ok != cycleOK || len(cycle) != period {
				t.Fatalf("PeriodOf(%v, %v) is %d, %d, %v, and the cycle %v, %v", f, x, preperiod, period, ok, cycle, cycleOK)
			}
			if !ok {
				continue
			}
			checked++
			if preperiod > 0 {
				later++
			}
			if is, ok := impl.IsCycle(f, cycle); !is || !ok {
				t.Errorf("IsCycle(%v, %v) is %v, %v", f, cycle, is, ok)
			}
			if first, ok := impl.IterateMap(f, x, preperiod); first != cycle[0] || !ok {
				t.Errorf("%v is met behind %d steps from %v on, and the cycle is %v", first, preperiod, x, cycle)
			}
			if k, p, ok := impl.PeriodOf(f, cycle[0], period); k != 0 || p != period || !ok {
				t.Errorf("PeriodOf(%v, %v, %d) is %d, %d, %v", f, cycle[0], period, k, p, ok)
			}
			if k, p, ok := impl.PeriodOf(f, x, preperiod+period); k != preperiod || p != period || !ok {
				t.Errorf("PeriodOf(%v, %v, %d) is %d, %d, %v", f, x, preperiod+period, k, p, ok)
			}
			if k, p, ok := impl.PeriodOf(f, x, preperiod+period-1); k != 0 || p != 0 || ok {
				t.Errorf("PeriodOf(%v, %v, %d) is %d, %d, %v", f, x, preperiod+period-1, k, p, ok)
			}
			if list, ok := impl.LimitCycle(f, x, preperiod+period-1); len(list) != 0 || ok {
				t.Errorf("LimitCycle(%v, %v, %d) is %v, %v", f, x, preperiod+period-1, list, ok)
			}
		}
	}
	if checked < 1000 || later < 200 {
		t.Error(checked, "cycles, and", later, "with a preperiod")
	}
}

func TestIterateMap(t *testing.T) {
	stairs := pts(0, 1, 1, 5, 1, 5, 2, 5, 2, 5, 3, 5, 3, 5, 2, 5, 4, 5, 1, 5, 1, 1, 0, 1)
	cases := []struct {
		f    []impl.Point
		x    impl.Rat
		n    int
		want impl.Rat
	}{
		{tentMap(), rat(1, 7), 0, rat(1, 7)},
		{tentMap(), rat(1, 7), 1, rat(2, 7)},
		{tentMap(), rat(1, 7), 2, rat(4, 7)},
		{tentMap(), rat(1, 7), 3, rat(6, 7)},
		{tentMap(), rat(1, 7), 4, rat(2, 7)},
		{tentMap(), rat(1, 7), 60, rat(6, 7)},
		{tentMap(), rat(2, 3), 60, rat(2, 3)},
		{tentMap(), rat(1, 1), 60, rat(0, 1)},
		{tentMap(), rat(1, most), 0, rat(1, most)},
		{tentMap(), rat(1, most), 9, rat(1, most/512)},
		{tentMap(), rat(1, 1<<29), 28, rat(1, 2)},
		{tentMap(), rat(1, 1<<29), 60, rat(0, 1)},
		{stairs, rat(0, 1), 3, rat(3, 5)},
		{stairs, rat(0, 1), 59, rat(3, 5)},
		{stairs, rat(0, 1), 60, rat(2, 5)},
	}
	for _, c := range cases {
		if y, ok := impl.IterateMap(c.f, c.x, c.n); y != c.want || !ok {
			t.Errorf("IterateMap(%v, %v, %d) is %v, %v, not %v", c.f, c.x, c.n, y, ok, c.want)
		}
	}
}

func TestOrbitOf(t *testing.T) {
	if list, ok := impl.OrbitOf(tentMap(), rat(1, 7), 0); !ok || !slices.Equal(list, []impl.Rat{rat(1, 7)}) {
		t.Error("no step:", list, ok)
	}
	if list, ok := impl.OrbitOf(tentMap(), rat(3, 8), 5); !ok || !slices.Equal(list, []impl.Rat{rat(3, 8), rat(3, 4), rat(1, 2), rat(1, 1), rat(0, 1), rat(0, 1)}) {
		t.Error("to 0:", list, ok)
	}
	list, ok := impl.OrbitOf(tentMap(), rat(2, 3), impl.MaxSteps)
	if !ok || len(list) != 61 || slices.IndexFunc(list, func(y impl.Rat) bool { return y != rat(2, 3) }) >= 0 {
		t.Error("2/3 stays:", list, ok)
	}
}

// growing returns a map whose orbits have greater and greater Dens: from 0 on, the fraction behind k steps has the Den 3^k.
func growing() []impl.Point {
	return pts(0, 1, 1, 3, 1, 1, 2, 3)
}

func TestOrbitsThatBecomeTooLarge(t *testing.T) {
	flat := pts(0, 1, 0, 1, 1, 3, 1, 2, 1, 1, 1, 2)
	cases := []struct {
		f     []impl.Point
		x     impl.Rat
		steps int // the greatest number of steps within which all values can be computed
		last  impl.Rat
	}{
		{growing(), rat(0, 1), 18, rat(193710244, 387420489)},
		{growing(), rat(1, 1), 18, rat(193710245, 387420489)},
		{growing(), rat(1, 3), 17, rat(193710244, 387420489)},
		{growing(), rat(11, most), 0, rat(11, most)},
		{flat, rat(most-1, most), 0, rat(most-1, most)}, // its value is 1/2, but x - X is too large
		{pts(0, 1, 0, 1, 1, 1, 1, 10), rat(1, 1), 9, rat(1, most)},
		{pts(0, 1, 1, 1, 1, 1, 0, 1), rat(1, most), 60, rat(1, most)},
	}
	for _, c := range cases {
		for n := range impl.MaxSteps + 1 {
			if steps, ok := impl.StepsInSize(c.f, c.x, n); steps != min(n, c.steps) || !ok {
				t.Errorf("StepsInSize(%v, %v, %d) is %d, %v", c.f, c.x, n, steps, ok)
			}
			y, ok := impl.IterateMap(c.f, c.x, n)
			if ok != (n <= c.steps) || (n == c.steps && y != c.last) || (!ok && y != impl.Rat{}) {
				t.Errorf("IterateMap(%v, %v, %d) is %v, %v", c.f, c.x, n, y, ok)
			}
			results := callOrbit(c.f, c.x, n, rat(0, 1), c.x)
			if n > c.steps && !sameOrbitResults(results, orbitResults{steps: c.steps, stepsOK: true}) {
				t.Errorf("%v from %v on, %d steps: %+v", c.f, c.x, n, results)
			}
		}
	}
	// What is met behind one step too large comes too late; the orbit that stays is the other one.
	if d, ok := impl.OrbitDistance(growing(), rat(1, 2), rat(0, 1), 18); d != rat(1, 2) || !ok {
		t.Error("distance", d, ok)
	}
	for _, pair := range [][]impl.Rat{{rat(1, 2), rat(0, 1)}, {rat(0, 1), rat(1, 2)}} {
		if d, ok := impl.OrbitDistance(growing(), pair[0], pair[1], 19); d != (impl.Rat{}) || ok {
			t.Error("distance", d, ok)
		}
	}
}

func TestPeriodOf(t *testing.T) {
	lift := pts(0, 1, 1, 2, 1, 2, 1, 1, 1, 1, 0, 1)
	cases := []struct {
		f         []impl.Point
		x         impl.Rat
		n         int
		preperiod int
		period    int
		ok        bool
	}{
		{tentMap(), rat(1, 7), 12, 1, 3, true},
		{tentMap(), rat(1, 7), 4, 1, 3, true}, // met again with the last step
		{tentMap(), rat(1, 7), 3, 0, 0, false},
		{tentMap(), rat(2, 7), 3, 0, 3, true},
		{tentMap(), rat(2, 7), 2, 0, 0, false},
		{tentMap(), rat(0, 1), 0, 0, 0, false},
		{tentMap(), rat(0, 1), 1, 0, 1, true},
		{tentMap(), rat(2, 3), 1, 0, 1, true},
		{tentMap(), rat(1, 3), 1, 0, 0, false},
		{tentMap(), rat(1, 3), 2, 1, 1, true},
		{tentMap(), rat(1, 2), 2, 0, 0, false},
		{tentMap(), rat(1, 2), 3, 2, 1, true},
		{tentMap(), rat(1, 1<<29), 31, 30, 1, true},
		{tentMap(), rat(1, 1<<29), 30, 0, 0, false},
		{tentMap(), rat(2, 143), 60, 0, 60, true},
		{tentMap(), rat(2, 143), 59, 0, 0, false},
		{tentMap(), rat(1, 143), 60, 0, 0, false}, // the preperiod 1 and the period 60 need 61 steps
		{tentMap(), rat(1, 2*61), 32, 2, 30, true},
		{tentMap(), rat(1, 2*61), 31, 0, 0, false},
		{pts(0, 1, 1, 1, 1, 1, 0, 1), rat(1, most), 2, 0, 2, true},
		{pts(0, 1, 1, 1, 1, 1, 0, 1), rat(1, 2), 2, 0, 1, true},
		{pts(0, 1, 1, 2, 1, 1, 1, 2), rat(0, 1), 2, 1, 1, true},
		{pts(0, 1, 0, 1, 1, 1, 1, 1), rat(most-1, most), 1, 0, 1, true},
		{lift, rat(0, 1), 3, 0, 3, true},
		{growing(), rat(0, 1), 60, 0, 0, false},
	}
	for _, c := range cases {
		k, p, ok := impl.PeriodOf(c.f, c.x, c.n)
		if k != c.preperiod || p != c.period || ok != c.ok {
			t.Errorf("PeriodOf(%v, %v, %d) is %d, %d, %v, not %d, %d, %v", c.f, c.x, c.n, k, p, ok, c.preperiod, c.period, c.ok)
		}
		cycle, ok := impl.LimitCycle(c.f, c.x, c.n)
		orbit, _ := impl.OrbitOf(c.f, c.x, c.preperiod+c.period)
		if ok != c.ok || (c.ok && !slices.Equal(cycle, orbit[c.preperiod:c.preperiod+c.period])) || (!c.ok && len(cycle) != 0) {
			t.Errorf("LimitCycle(%v, %v, %d) is %v, %v", c.f, c.x, c.n, cycle, ok)
		}
	}
}

func TestVisitsOf(t *testing.T) {
	cases := []struct {
		x, a, b impl.Rat
		n       int
		want    int
	}{
		{rat(1, 7), rat(0, 1), rat(1, 2), 3, 2},
		{rat(1, 7), rat(2, 7), rat(2, 7), 3, 1}, // a and b are equal
		{rat(1, 7), rat(2, 7), rat(2, 7), 60, 20},
		{rat(1, 7), rat(1, 7), rat(1, 7), 60, 1},
		{rat(1, 7), rat(1, 7), rat(2, 7), 1, 2}, // both ends belong to it
		{rat(1, 7), rat(1, 7), rat(2, 7), 0, 1},
		{rat(1, 7), rat(2, 7), rat(1, 1), 0, 0},
		{rat(1, 7), rat(0, 1), rat(1, 1), 60, 61},
		{rat(1, 7), rat(2, 13), rat(3, 13), 60, 0},
		{rat(1, 2), rat(0, 1), rat(0, 1), 60, 59},
		{rat(1, 2), rat(1, 1), rat(1, 1), 60, 1},
		{rat(2, 3), rat(2, 3), rat(2, 3), 60, 61},
		{rat(2, 3), rat(666666667, most), rat(1, 1), 60, 0},
		{rat(2, 3), rat(0, 1), rat(333333333, 500000000), 60, 0},
	}
	for _, c := range cases {
		if n, ok := impl.VisitsOf(tentMap(), c.x, c.n, c.a, c.b); n != c.want || !ok {
			t.Errorf("VisitsOf(%v, %d, %v, %v) is %d, %v, not %d", c.x, c.n, c.a, c.b, n, ok, c.want)
		}
	}
	for _, ends := range [][]impl.Rat{{rat(1, 2), rat(1, 3)}, {rat(1, 1), rat(0, 1)}, {rat(1, most-1), rat(1, most)}} {
		if n, ok := impl.VisitsOf(tentMap(), rat(1, 7), 3, ends[0], ends[1]); n != 0 || ok {
			t.Errorf("VisitsOf from %v to %v is %d, %v", ends[0], ends[1], n, ok)
		}
	}
	for _, bad := range invalidUnits() {
		for _, n := range []int{0, 3, 60} {
			if n, ok := impl.VisitsOf(tentMap(), rat(1, 7), n, bad, rat(1, 1)); n != 0 || ok {
				t.Errorf("VisitsOf from %v to 1 is %d, %v", bad, n, ok)
			}
			if n, ok := impl.VisitsOf(tentMap(), rat(1, 7), n, rat(0, 1), bad); n != 0 || ok {
				t.Errorf("VisitsOf from 0 to %v is %d, %v", bad, n, ok)
			}
		}
	}
}

func TestOrbitDistance(t *testing.T) {
	same := pts(0, 1, 0, 1, 1, 1, 1, 1)
	merged := pts(0, 1, 1, 2, 1, 1, 1, 2)
	cases := []struct {
		f    []impl.Point
		x, y impl.Rat
		n    int
		want impl.Rat
		ok   bool
	}{
		{tentMap(), rat(1, 7), rat(2, 7), 1, rat(2, 7), true},
		{tentMap(), rat(2, 7), rat(1, 7), 1, rat(2, 7), true},
		{tentMap(), rat(1, 7), rat(2, 7), 0, rat(1, 7), true},
		{tentMap(), rat(1, 7), rat(2, 7), 60, rat(4, 7), true},
		{tentMap(), rat(2, 5), rat(2, 5), 60, rat(0, 1), true},
		{tentMap(), rat(0, 1), rat(1, 1), 60, rat(1, 1), true},
		{tentMap(), rat(0, 1), rat(1, 4), 1, rat(1, 2), true},
		{tentMap(), rat(0, 1), rat(1, 4), 2, rat(1, 1), true},
		{tentMap(), rat(1, 4), rat(3, 4), 60, rat(1, 2), true}, // the greatest one comes first
		{same, rat(1, 31623), rat(1, 31622), 60, rat(1, 31623*31622), true},
		{same, rat(1, 31627), rat(1, 31626), 60, impl.Rat{}, false}, // the Den of the distance is too large
		{same, rat(1, most), rat(1, most-1), 0, impl.Rat{}, false},
		{same, rat(1, 3), rat(1, most), 0, impl.Rat{}, false},
		{same, rat(1, most), rat(1, most), 60, rat(0, 1), true},
		{same, rat(1, most), rat(most-1, most), 60, rat(499999999, 500000000), true},
		{merged, rat(1, most), rat(1, 3), 5, impl.Rat{}, false}, // the first distance alone is too large
		{pts(0, 1, 1, 10, 1, 2, 1, 1, 1, 1, 0, 1), rat(0, 1), rat(1, 1), 2, rat(1, 1), true},
	}
	for _, c := range cases {
		if d, ok := impl.OrbitDistance(c.f, c.x, c.y, c.n); d != c.want || ok != c.ok {
			t.Errorf("OrbitDistance(%v, %v, %v, %d) is %v, %v, not %v, %v", c.f, c.x, c.y, c.n, d, ok, c.want, c.ok)
		}
		if d, ok := impl.OrbitDistance(c.f, c.y, c.x, c.n); d != c.want || ok != c.ok {
			t.Errorf("OrbitDistance(%v, %v, %v, %d) is %v, %v, not %v, %v", c.f, c.y, c.x, c.n, d, ok, c.want, c.ok)
		}
	}
}

func TestGreatestDen(t *testing.T) {
	cases := []struct {
		f    []impl.Point
		x    impl.Rat
		n    int
		want int
		ok   bool
	}{
		{tentMap(), rat(1, 7), 3, 7, true},
		{tentMap(), rat(1, 28), 60, 28, true}, // the first one
		{tentMap(), rat(1, most), 60, most, true},
		{growing(), rat(0, 1), 0, 1, true},
		{growing(), rat(0, 1), 5, 243, true}, // the last one
		{growing(), rat(0, 1), 18, 387420489, true},
		{growing(), rat(0, 1), 19, 0, false},
		{pts(0, 1, 1, 3, 1, 3, 4, 9, 4, 9, 1, 1, 1, 1, 0, 1), rat(0, 1), 60, 9, true}, // one between: 0, 1/3, 4/9, 1, 0
	}
	for _, c := range cases {
		if den, ok := impl.GreatestDen(c.f, c.x, c.n); den != c.want || ok != c.ok {
			t.Errorf("GreatestDen(%v, %v, %d) is %d, %v, not %d, %v", c.f, c.x, c.n, den, ok, c.want, c.ok)
		}
	}
}

func TestMultiplierAt(t *testing.T) {
	lift := pts(0, 1, 1, 2, 1, 2, 1, 1, 1, 1, 0, 1)
	stairs := pts(0, 1, 0, 1, 1, 4, 1, 4, 1, 2, 1, 2, 3, 4, 1, 2, 1, 1, 1, 1)
	cases := []struct {
		f    []impl.Point
		x    impl.Rat
		n    int
		want impl.Rat
		ok   bool
	}{
		{tentMap(), rat(2, 7), 12, rat(8, 1), true},
		{tentMap(), rat(2, 7), 3, rat(8, 1), true},
		{tentMap(), rat(2, 7), 2, impl.Rat{}, false},
		{tentMap(), rat(1, 7), 60, impl.Rat{}, false}, // the preperiod is 1
		{tentMap(), rat(2, 9), 60, rat(-8, 1), true},
		{tentMap(), rat(0, 1), 1, rat(2, 1), true},
		{tentMap(), rat(0, 1), 0, impl.Rat{}, false},
		{tentMap(), rat(2, 3), 60, rat(-2, 1), true},
		{tentMap(), rat(1, 1), 60, impl.Rat{}, false},
		{tentMap(), rat(1, 2), 60, impl.Rat{}, false},
		{tentMap(), rat(2, 59), 60, rat(-536870912, 1), true},
		{tentMap(), rat(2, 61), 60, impl.Rat{}, false}, // 2^30 is too large
		{lift, rat(0, 1), 60, impl.Rat{}, false},       // 0, 1/2, 1: the second one is a point between different slopes
		{lift, rat(1, 2), 60, impl.Rat{}, false},       // the first one is
		{lift, rat(1, 1), 60, impl.Rat{}, false},       // the last one is
		{lift, rat(2, 3), 1, rat(-2, 1), true},         // a fraction that stays within a piece
		{stairs, rat(1, 4), 1, rat(1, 1), true},        // a point between equal slopes
		{stairs, rat(1, 2), 1, impl.Rat{}, false},      // and between different ones
		{stairs, rat(0, 1), 1, rat(1, 1), true},        // the first point of all
		{stairs, rat(1, 1), 1, rat(2, 1), true},        // and the last one
		{pts(0, 1, 1, 1, 1, 2, 1, 2, 1, 1, 0, 1), rat(1, 2), 1, rat(-1, 1), true},
		{pts(0, 1, 1, 1, 1, 2, 1, 2, 1, 1, 0, 1), rat(0, 1), 2, rat(1, 1), true},
		{pts(0, 1, 1, 2, 1, 2, 1, 2, 1, 1, 1, 2), rat(1, 2), 1, rat(0, 1), true}, // a point between two slopes of 0
		{pts(0, 1, 1, 3, 1, 1, 2, 3), rat(1, 2), 1, rat(1, 3), true},
		{steepMap(), rat(2, 333667), 60, rat(most, 1), true}, // nine slopes of 10 or -10
		{steepMap(), rat(2, 3541), 60, impl.Rat{}, false},    // and ten
		{steepMap(), rat(2, 37), 60, rat(1000, 1), true},
		{superMap(rat(2, 97)), rat(2, 97), 60, impl.Rat{}, false}, // the product of ten slopes is too large, that with the last one, 0, is not
		{superMap(rat(2, 97)), rat(20, 97), 60, rat(0, 1), true},  // nine slopes come before the 0
		{superMap(rat(2, 97)), rat(96, 97), 60, rat(0, 1), true},  // the 0 comes first
		{superMap(rat(20, 97)), rat(20, 97), 60, rat(0, 1), true},
		{growing(), rat(0, 1), 60, impl.Rat{}, false},
	}
	for _, c := range cases {
		if m, ok := impl.MultiplierAt(c.f, c.x, c.n); m != c.want || ok != c.ok {
			t.Errorf("MultiplierAt(%v, %v, %d) is %v, %v, not %v, %v", c.f, c.x, c.n, m, ok, c.want, c.ok)
		}
	}
}

func TestCyclePattern(t *testing.T) {
	cases := []struct {
		x    impl.Rat
		n    int
		want []int
		ok   bool
	}{
		{rat(2, 7), 12, []int{1, 2, 0}, true},
		{rat(4, 7), 3, []int{1, 2, 0}, true}, // wherever the cycle begins
		{rat(6, 7), 3, []int{1, 2, 0}, true},
		{rat(6, 7), 2, nil, false},
		{rat(1, 7), 60, nil, false}, // the preperiod is 1
		{rat(2, 5), 2, []int{1, 0}, true},
		{rat(0, 1), 1, []int{0}, true}, // cycles of one fraction
		{rat(2, 3), 60, []int{0}, true},
		{rat(2, 3), 0, nil, false},
		{rat(2, 9), 60, []int{1, 2, 0}, true},
		{rat(2, 15), 60, []int{1, 2, 3, 0}, true},
		{rat(2, 17), 60, []int{1, 2, 3, 0}, true},
		{rat(6, 17), 60, []int{2, 3, 1, 0}, true},
		{rat(14, 17), 60, []int{2, 3, 1, 0}, true},
		{rat(2, 19), 60, []int{1, 3, 5, 7, 8, 6, 4, 2, 0}, true}, // MaxPattern fractions: the even numbers up to 18
		{rat(2, 25), 60, nil, false},                             // and one more
		{rat(2, 143), 60, nil, false},
	}
	for _, c := range cases {
		if l, ok := impl.CyclePattern(tentMap(), c.x, c.n); ok != c.ok || !slices.Equal(l, c.want) {
			t.Errorf("CyclePattern(%v, %d) is %v, %v, not %v, %v", c.x, c.n, l, ok, c.want, c.ok)
		}
	}
	if l, ok := impl.CyclePattern(pts(0, 1, 1, 1, 1, 1, 0, 1), rat(1, most), 2); !ok || !slices.Equal(l, []int{1, 0}) {
		t.Error("pattern", l, ok)
	}
	if l, ok := impl.CyclePattern(growing(), rat(0, 1), 60); ok || len(l) != 0 {
		t.Error("pattern", l, ok)
	}
}

func checkCycle(t *testing.T, f []impl.Point, cycle []impl.Rat) bool {
	want, wantOK := wantedIsCycle(f, cycle)
	is, ok := impl.IsCycle(f, cycle)
	if is != want || ok != wantOK {
		t.Errorf("IsCycle(%v, %v) is %v, %v, not %v, %v", f, cycle, is, ok, want, wantOK)
	}
	return is
}

func TestListsNearCyclesAreNoCycles(t *testing.T) {
	cycles, others := 0, 0
	count := func(is bool) {
		if is {
			cycles++
		} else {
			others++
		}
	}
	for k, f := range orbitMaps() {
		for _, x := range orbitStarts(f, k) {
			cycle, ok := wantedCycle(slowOrbit(f, x, impl.MaxSteps))
			if !ok {
				continue
			}
			near := [][]impl.Rat{cycle, slices.Concat(cycle, cycle), append(slices.Clone(cycle), cycle[0]), append(slices.Clone(cycle), x), {x}}
			for i := range cycle {
				turned := slices.Concat(cycle[i:], cycle[:i])
				count(checkCycle(t, f, turned))
				near = append(near, turned[1:])
				slices.Reverse(turned)
				near = append(near, turned)
				changed := slices.Clone(cycle)
				changed[i] = x
				near = append(near, changed)
			}
			for _, list := range near {
				count(checkCycle(t, f, list))
			}
		}
	}
	if cycles < 1000 || others < 1000 {
		t.Error(cycles, "cycles and", others, "other lists: both are to be tested")
	}
}

func TestIsCycle(t *testing.T) {
	full, _ := wantedCycle(slowOrbit(tentMap(), rat(2, 143), impl.MaxSteps))
	same := pts(0, 1, 0, 1, 1, 1, 1, 1)
	var zeros, different []impl.Rat
	for i := range impl.MaxSteps + 1 {
		zeros = append(zeros, rat(0, 1))
		different = append(different, rat(1, i+2))
	}
	cases := []struct {
		f     []impl.Point
		cycle []impl.Rat
		is    bool
		ok    bool
	}{
		{tentMap(), []impl.Rat{rat(2, 7), rat(4, 7), rat(6, 7)}, true, true},
		{tentMap(), []impl.Rat{rat(6, 7), rat(2, 7), rat(4, 7)}, true, true},
		{tentMap(), []impl.Rat{rat(6, 7), rat(4, 7), rat(2, 7)}, false, true},
		{tentMap(), []impl.Rat{rat(2, 7), rat(4, 7)}, false, true},
		{tentMap(), []impl.Rat{rat(1, 7), rat(2, 7), rat(4, 7), rat(6, 7)}, false, true}, // the last one does not have the first one as its value
		{tentMap(), []impl.Rat{rat(0, 1)}, true, true},
		{tentMap(), []impl.Rat{rat(2, 3)}, true, true},
		{tentMap(), []impl.Rat{rat(1, 3)}, false, true},
		{tentMap(), []impl.Rat{rat(2, 3), rat(2, 3)}, false, true}, // each one has the next one as its value, but they are equal
		{tentMap(), []impl.Rat{rat(2, 7), rat(4, 7), rat(6, 7), rat(2, 7), rat(4, 7), rat(6, 7)}, false, true},
		{tentMap(), full, true, true},
		{tentMap(), full[:59], false, true},
		{tentMap(), append(slices.Clone(full), full[0]), false, false},
		{tentMap(), nil, false, false},
		{tentMap(), []impl.Rat{}, false, false},
		{same, zeros[:impl.MaxSteps], false, true},
		{same, zeros, false, false},
		{same, different[:impl.MaxSteps], false, true},
		{same, different, false, false},
		{same, make([]impl.Rat, 3), false, false},
		{growing(), []impl.Rat{rat(1, 2)}, true, true},
		{growing(), []impl.Rat{rat(11, most)}, false, false},            // its value is too large
		{growing(), []impl.Rat{rat(0, 1), rat(11, most)}, false, false}, // also if the fractions before it are no cycle
		{growing(), []impl.Rat{rat(11, most), rat(11, most)}, false, false},
	}
	for _, c := range cases {
		if is, ok := impl.IsCycle(c.f, c.cycle); is != c.is || ok != c.ok {
			t.Errorf("IsCycle(%v, %v) is %v, %v, not %v, %v", c.f, c.cycle, is, ok, c.is, c.ok)
		}
	}
	for _, bad := range invalidUnits() {
		for i := range 3 {
			list := []impl.Rat{rat(2, 7), rat(4, 7), rat(6, 7)}
			list[i] = bad
			if is, ok := impl.IsCycle(tentMap(), list); is || ok {
				t.Errorf("IsCycle(%v) is %v, %v", list, is, ok)
			}
		}
		if is, ok := impl.IsCycle(same, []impl.Rat{bad}); is || ok {
			t.Errorf("IsCycle(%v) is %v, %v", bad, is, ok)
		}
	}
	for _, f := range invalidMaps() {
		if is, ok := impl.IsCycle(f, []impl.Rat{rat(0, 1)}); is || ok {
			t.Errorf("IsCycle(%v) is %v, %v", f[:min(len(f), 13)], is, ok)
		}
	}
}

func TestInvalidOrbitsHaveNoResults(t *testing.T) {
	none := func(f []impl.Point, x impl.Rat, n int, b impl.Rat) {
		if got := callOrbit(f, x, n, rat(0, 1), b); !sameOrbitResults(got, orbitResults{}) {
			t.Errorf("%v from %v on, %d steps: %+v", f[:min(len(f), 13)], x, n, got)
		}
	}
	for _, f := range invalidMaps() {
		for _, n := range []int{-1, 0, 1, 12, 60, 61} {
			none(f, rat(0, 1), n, rat(1, 1))
			none(f, rat(1, 7), n, rat(1, 7))
			none(f, impl.Rat{}, n, rat(1, 7))
		}
	}
	for _, f := range plainMaps() {
		for _, n := range []int{-1, -2, -60, 61, 62, 1000, math.MaxInt, math.MinInt, 1<<32 + 1, 1 << 32} {
			none(f, rat(0, 1), n, rat(0, 1))
			none(f, rat(1, 7), n, rat(1, 1))
			none(f, impl.Rat{}, n, rat(1, 1))
		}
		for _, bad := range invalidUnits() {
			for _, n := range []int{-1, 0, 1, 60, 61} {
				none(f, bad, n, rat(1, 1))
				none(f, bad, n, bad)
				if d, ok := impl.OrbitDistance(f, rat(1, 2), bad, n); d != (impl.Rat{}) || ok {
					t.Errorf("OrbitDistance(%v, 1/2, %v, %d) is %v, %v", f, bad, n, d, ok)
				}
			}
		}
	}
}

// No function of orbits writes to its arguments or behind them, and no result is part of them.
func TestOrbitsLeaveArgumentsAsTheyAre(t *testing.T) {
	for _, f := range append(plainMaps(), invalidMaps()...) {
		given := spare(f)
		for _, x := range []impl.Rat{rat(0, 1), rat(1, 2), rat(2, 7), rat(1, most), {}} {
			for _, n := range []int{-1, 0, 3, 60} {
				results := callOrbit(given, x, n, rat(0, 1), rat(2, 7))
				overwriteRats(results.orbit)
				overwriteRats(results.cycle)
				for i := range results.pattern[:cap(results.pattern)] {
					results.pattern[:cap(results.pattern)][i] = -1
				}
			}
			for _, list := range [][]impl.Rat{nil, {}, {x}, {rat(2, 7), rat(4, 7), rat(6, 7)}, {rat(2, 3), x, rat(2, 3)}} {
				cycle := spareRats(list)
				impl.IsCycle(given, cycle)
				if !sameRatsWithSpare(cycle, list) {
					t.Errorf("%v has become %v", list, cycle)
				}
			}
		}
		if !sameWithSpare(given, f) {
			t.Errorf("%v has become %v", f, given)
		}
	}
	// Two calls give the same result, whatever has been done to the first one.
	first, _ := impl.LimitCycle(tentMap(), rat(1, 7), 12)
	overwriteRats(first)
	if second, ok := impl.LimitCycle(tentMap(), rat(1, 7), 12); !ok || !slices.Equal(second, []impl.Rat{rat(2, 7), rat(4, 7), rat(6, 7)}) {
		t.Error("the second cycle is", second, ok)
	}
}
