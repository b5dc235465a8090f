package tests

import (
	"fmt"
	"math/rand"
	"slices"
	"testing"

	"loop.example/g01003/impl"
)

func TestPeriodLimit(t *testing.T) {
	if impl.MaxPeriod != 1000000 {
		t.Error(impl.MaxPeriod)
	}
}

func TestSplitPeriod(t *testing.T) {
	cases := []struct{ n, exponent, odd int }{
		{1, 0, 1}, {2, 1, 1}, {3, 0, 3}, {4, 2, 1}, {6, 1, 3}, {12, 2, 3}, {40, 3, 5}, {999999, 0, 999999},
		{1000000, 6, 15625}, {524288, 19, 1}, {786432, 18, 3}, {999998, 1, 499999},
	}
	for _, c := range cases {
		if exponent, odd, ok := impl.SplitPeriod(c.n); exponent != c.exponent || odd != c.odd || !ok {
			t.Errorf("SplitPeriod(%d) is %d, %d, %v, not %d, %d", c.n, exponent, odd, ok, c.exponent, c.odd)
		}
	}
	for n := 1; n <= impl.MaxPeriod; n++ {
		exponent, odd, ok := impl.SplitPeriod(n)
		if !ok || exponent < 0 || exponent > 19 || odd < 1 || odd%2 != 1 || odd<<exponent != n {
			t.Fatalf("SplitPeriod(%d) is %d, %d, %v", n, exponent, odd, ok)
		}
	}
}

func TestPeriodKind(t *testing.T) {
	cases := []struct {
		n    int
		want string
	}{
		{1, "power"}, {2, "power"}, {3, "odd"}, {4, "power"}, {5, "odd"}, {6, "mixed"}, {8, "power"}, {9, "odd"}, {10, "mixed"}, {12, "mixed"},
		{524287, "odd"}, {524288, "power"}, {524290, "mixed"}, {786432, "mixed"}, {999999, "odd"}, {1000000, "mixed"},
	}
	for _, c := range cases {
		if kind, ok := impl.PeriodKind(c.n); kind != c.want || !ok {
			t.Errorf("PeriodKind(%d) is %q, %v, not %q", c.n, kind, ok, c.want)
		}
	}
	powers := map[int]bool{}
	for power := 1; power <= impl.MaxPeriod; power *= 2 {
		powers[power] = true
	}
	for n := 1; n <= impl.MaxPeriod; n++ {
		want := "mixed"
		switch {
		case powers[n]:
			want = "power"
		case n%2 == 1:
			want = "odd"
		}
		if kind, ok := impl.PeriodKind(n); kind != want || !ok {
			t.Fatalf("PeriodKind(%d) is %q, %v, not %q", n, kind, ok, want)
		}
	}
}

func TestForcesPeriod(t *testing.T) {
	cases := []struct {
		a, b int
		want bool
	}{
		{1, 1, true}, {1, 2, false}, {2, 1, true}, {1, 3, false}, {3, 1, true}, // 1 forces itself alone
		{3, 5, true}, {5, 3, false}, {3, 3, true}, {7, 999999, true}, {999999, 7, false}, // odd numbers
		{999999, 6, true}, {6, 999999, false}, {6, 10, true}, {10, 6, false}, {9, 6, true}, // twice odd numbers
		{10, 12, true}, {12, 10, false}, {12, 20, true}, {999998, 12, true}, {999996, 24, true}, {24, 999996, false}, // four times and more
		{4, 2, true}, {2, 4, false}, {8, 2, true}, {524288, 1, true}, {1, 524288, false}, {262144, 524288, false}, // powers of two
		{786432, 524288, true}, {524288, 786432, false}, {6, 4, true}, {4, 6, false}, {1000000, 2, true}, {2, 1000000, false}, {3, 524288, true},
		{1, 1000000, false}, {1000000, 1, true}, {1000000, 1000000, true}, {3, 1000000, true}, {1000000, 3, false}, {192, 1000000, true},
	}
	for _, c := range cases {
		if is, ok := impl.ForcesPeriod(c.a, c.b); is != c.want || !ok {
			t.Errorf("ForcesPeriod(%d, %d) is %v, %v, not %v", c.a, c.b, is, ok, c.want)
		}
	}
	for n := 1; n <= impl.MaxPeriod; n++ {
		fromOne, _ := impl.ForcesPeriod(1, n)
		toOne, _ := impl.ForcesPeriod(n, 1)
		fromThree, _ := impl.ForcesPeriod(3, n)
		toThree, _ := impl.ForcesPeriod(n, 3)
		if fromOne != (n == 1) || !toOne || !fromThree || toThree != (n == 3) {
			t.Fatalf("of %d, 1 and 3: %v, %v, %v, %v", n, fromOne, toOne, fromThree, toThree)
		}
	}
}

// Of two periods one forces the other one, and both do only if they are the same.
func TestOneOfTwoPeriodsForcesTheOther(t *testing.T) {
	places := placesOfPeriods(impl.MaxPeriod)
	check := func(a int, b int) {
		forces, ok := impl.ForcesPeriod(a, b)
		back, backOK := impl.ForcesPeriod(b, a)
		if !ok || !backOK || !forces && !back || forces && back && a != b {
			t.Fatalf("ForcesPeriod of %d and %d is %v, %v, and the other way round %v, %v", a, b, forces, ok, back, backOK)
		}
		if forces != (places[a] <= places[b]) {
			t.Fatalf("ForcesPeriod(%d, %d) is %v, and their places are %d and %d", a, b, forces, places[a], places[b])
		}
	}
	for a := 1; a <= 260; a++ {
		for b := 1; b <= 260; b++ {
			check(a, b)
		}
	}
	for _, a := range notablePeriods() {
		for _, b := range notablePeriods() {
			check(a, b)
		}
	}
	r := rand.New(rand.NewSource(9))
	for range 200000 {
		check(1+r.Intn(impl.MaxPeriod), 1+r.Intn(impl.MaxPeriod))
	}
}

func TestForcedPeriods(t *testing.T) {
	cases := []struct {
		n, most int
		want    []int
	}{
		{6, 10, []int{1, 2, 4, 6, 8, 10}},
		{1, 1, []int{1}}, {1, 200, []int{1}}, {2, 1, []int{1}}, {2, 200, []int{1, 2}}, {3, 1, []int{1}}, {1000000, 1, []int{1}},
		{8, 7, []int{1, 2, 4}}, {8, 8, []int{1, 2, 4, 8}}, {8, 9, []int{1, 2, 4, 8}},
		{3, 6, []int{1, 2, 3, 4, 5, 6}}, {5, 6, []int{1, 2, 4, 5, 6}}, {7, 6, []int{1, 2, 4, 6}}, {999999, 10, []int{1, 2, 4, 6, 8, 10}},
		{12, 20, []int{1, 2, 4, 8, 12, 16, 20}}, {20, 20, []int{1, 2, 4, 8, 16, 20}}, {10, 12, []int{1, 2, 4, 8, 10, 12}},
		{524288, 200, []int{1, 2, 4, 8, 16, 32, 64, 128}}, {1000000, 200, []int{1, 2, 4, 8, 16, 32, 64, 128}}, {64, 200, []int{1, 2, 4, 8, 16, 32, 64}},
		{192, 200, []int{1, 2, 4, 8, 16, 32, 64, 128, 192}}, {160, 200, []int{1, 2, 4, 8, 16, 32, 64, 128, 160, 192}}, {3, 200, countUp(1, 200)},
	}
	for _, c := range cases {
		if list, ok := impl.ForcedPeriods(c.n, c.most); !slices.Equal(list, c.want) || !ok {
			t.Errorf("ForcedPeriods(%d, %d) is %v, %v, not %v", c.n, c.most, list, ok, c.want)
		}
	}
	places := placesOfPeriods(impl.MaxPeriod)
	for _, n := range append(notablePeriods(), countUp(41, 210)...) {
		for most := 1; most <= 200; most++ {
			want := wantedForced(places, n, most)
			if list, ok := impl.ForcedPeriods(n, most); !slices.Equal(list, want) || !ok {
				t.Fatalf("ForcedPeriods(%d, %d) is %v, %v, not %v", n, most, list, ok, want)
			}
		}
	}
}

func TestNextForced(t *testing.T) {
	cases := []struct{ n, want int }{
		{6, 10}, {8, 4}, {2, 1}, {4, 2}, {3, 5}, {5, 7}, {12, 20}, {24, 40}, {524288, 262144}, {199, 201}, {200, 216},
		{999997, 999999}, {999872, 1000000}, {999994, 999998}, {999988, 999996}, // just below MaxPeriod or at it
		{1, 0}, {999999, 0}, {999998, 0}, {999996, 0}, {1000000, 0}, {786432, 0}, {655360, 917504}, // nothing, or above MaxPeriod
	}
	for _, c := range cases {
		if n, ok := impl.NextForced(c.n); n != c.want || ok != (c.want != 0) {
			t.Errorf("NextForced(%d) is %d, %v, not %d", c.n, n, ok, c.want)
		}
	}
}

// The next period comes directly behind: each period has the one that stands behind it in the order as its next one,
// but for the last one of each row, behind which the row goes on above MaxPeriod.
func TestNextPeriodsComeDirectlyBehind(t *testing.T) {
	list := listedPeriods(impl.MaxPeriod)
	failed := 0
	for i, n := range list {
		next, ok := impl.NextForced(n)
		if !ok {
			failed++
			step := 1
			for n%(2*step) == 0 {
				step *= 2
			}
			if next != 0 || n != 1 && (n == step || n+2*step <= impl.MaxPeriod) {
				t.Fatalf("NextForced(%d) is %d, %v", n, next, ok)
			}
			continue
		}
		if i+1 == len(list) || next != list[i+1] {
			t.Fatalf("NextForced(%d) is %d", n, next)
		}
		forces, _ := impl.ForcesPeriod(n, next)
		back, _ := impl.ForcesPeriod(next, n)
		if !forces || back {
			t.Fatalf("%d forces %d: %v, and the other way round: %v", n, next, forces, back)
		}
	}
	if failed != 20 { // the ends of the rows of 1, 2, ..., 262144 times odd numbers, and 1
		t.Error(failed, "periods have no next one")
	}
	for _, n := range notablePeriods() {
		next, ok := impl.NextForced(n)
		for _, k := range notablePeriods() {
			behind, _ := impl.ForcesPeriod(n, k)
			atNext, _ := impl.ForcesPeriod(next, k)
			if ok && atNext != (behind && k != n) {
				t.Fatalf("%d forces %d: %v, and %d behind it: %v", n, k, behind, next, atNext)
			}
		}
	}
}

func TestSortedAndStrongestPeriods(t *testing.T) {
	cases := []struct{ l, want []int }{
		{[]int{1}, []int{1}}, {[]int{1000000}, []int{1000000}}, {[]int{5, 5, 5}, []int{5}},
		{[]int{1, 2, 4, 8, 3, 5, 7, 6, 10, 12, 20}, []int{3, 5, 7, 6, 10, 12, 20, 8, 4, 2, 1}},
		{[]int{3, 5, 6, 8, 1}, []int{3, 5, 6, 8, 1}},                                         // sorted already
		{[]int{1, 8, 6, 5, 3}, []int{3, 5, 6, 8, 1}},                                         // the other way round
		{[]int{6, 1, 6, 3, 1, 6}, []int{3, 6, 1}},                                            // more than once
		{[]int{1, 1000000, 524288, 999999}, []int{999999, 1000000, 524288, 1}},               // up to MaxPeriod
		{[]int{786432, 524288, 655360, 999998, 2}, []int{999998, 655360, 786432, 524288, 2}}, // of many factors two
		{countUp(1, 12), []int{3, 5, 7, 9, 11, 6, 10, 12, 8, 4, 2, 1}},
		{countUp(1, 60), listedPeriods(60)},
	}
	check := func(l []int, want []int) {
		if list, ok := impl.SortPeriods(l); !slices.Equal(list, want) || !ok {
			t.Fatalf("SortPeriods(%v) is %v, %v, not %v", l, list, ok, want)
		}
		if n, ok := impl.StrongestPeriod(l); n != want[0] || !ok {
			t.Fatalf("StrongestPeriod(%v) is %d, %v, not %d", l, n, ok, want[0])
		}
	}
	for _, c := range cases {
		check(c.l, c.want)
	}
	places := placesOfPeriods(impl.MaxPeriod)
	r := rand.New(rand.NewSource(19))
	for i := range 4000 {
		l := make([]int, 1+r.Intn(60))
		for k := range l {
			l[k] = mixedPeriod(r, []int{12, 70, 1000, impl.MaxPeriod}[i%4])
		}
		want := slices.Clone(l)
		slices.SortFunc(want, func(a, b int) int { return places[a] - places[b] })
		want = slices.Compact(want)
		check(l, want)
		check(want, want)
		slices.Reverse(l)
		check(l, want)
		for _, n := range l {
			if is, _ := impl.ForcesPeriod(want[0], n); !is {
				t.Fatalf("%d is the strongest of %v, and does not force %d", want[0], l, n)
			}
		}
	}
}

// mixedPeriod returns a period up to a greatest one, of any number of factors two.
func mixedPeriod(r *rand.Rand, greatest int) int {
	n := 1 + r.Intn(greatest)
	for r.Intn(2) == 0 && 2*n <= greatest {
		n *= 2
	}
	return n
}

func TestIsTail(t *testing.T) {
	cases := []struct {
		l    []int
		most int
		is   bool
		ok   bool
	}{
		{[]int{1}, 1, true, true}, {[]int{1}, 200, true, true}, {[]int{1, 2}, 2, true, true}, {[]int{1, 2}, 200, true, true},
		{[]int{1, 2, 4, 6, 8, 10}, 10, true, true}, {[]int{1, 2, 4, 6, 8, 10}, 11, true, true}, {[]int{1, 2, 4, 6, 8, 10}, 12, false, true},
		{[]int{2}, 2, false, true}, {[]int{2}, 200, false, true}, {[]int{3}, 3, false, true}, {[]int{1, 3}, 3, false, true}, {[]int{1, 4}, 4, false, true},
		{[]int{1, 2, 3}, 3, true, true}, {[]int{1, 2, 3}, 4, false, true}, {[]int{1, 2, 3, 4}, 4, true, true}, {[]int{1, 2, 4}, 4, true, true},
		{[]int{1, 2, 4}, 200, true, true}, {[]int{1, 2, 8}, 8, false, true}, {[]int{1, 2, 4, 6}, 8, false, true}, {[]int{1, 2, 4, 5}, 5, true, true},
		{[]int{1, 2, 4, 8, 16, 32, 64, 128}, 200, true, true}, {[]int{1, 2, 4, 8, 16, 32, 64, 128, 192}, 200, true, true},
		{[]int{1, 2, 4, 8, 16, 32, 64, 128, 160}, 200, false, true}, {[]int{1, 2, 4, 8, 16, 32, 64, 128, 160, 192}, 200, true, true},
		{countUp(1, 60), 60, true, true}, {countUp(1, 60), 61, false, true}, {countUp(1, 60), 200, false, true}, {countUp(2, 60), 60, false, true},
		{countUp(1, 61), 61, false, false}, {countUp(1, 61), 200, false, false}, {countUp(1, 60), 59, false, false},
		{[]int{2, 1}, 2, false, false}, {[]int{1, 1}, 2, false, false}, {[]int{1, 2, 2}, 2, false, false}, {[]int{1, 2, 4, 3}, 4, false, false},
		{[]int{3, 3}, 3, false, false}, {[]int{1, 2}, 1, false, false}, {[]int{2}, 1, false, false}, {[]int{1, 2, 201}, 200, false, false},
		{[]int{1, 2, 1000000}, 200, false, false}, {nil, 10, false, false}, {[]int{}, 10, false, false},
	}
	for _, c := range cases {
		if is, ok := impl.IsTail(c.l, c.most); is != c.is || ok != c.ok {
			t.Errorf("IsTail(%v, %d) is %v, %v, not %v, %v", c.l, c.most, is, ok, c.is, c.ok)
		}
	}
}

// Just the lists of all periods that one period forces are tails; they are none without any of the others, and none with one that is not forced.
func TestTailsAreForcedPeriods(t *testing.T) {
	order := listedPeriods(200)
	for _, most := range append(countUp(1, 20), 59, 60, 61, 64, 65, 66, 128, 199, 200) {
		places := placesOfPeriods(most)
		tails := 0
		for n := 1; n <= most; n++ {
			whole := wantedForced(places, n, most)
			is, ok := impl.IsTail(whole, most)
			if len(whole) > 60 {
				if is || ok {
					t.Fatalf("IsTail(%v, %d) is %v, %v", whole, most, is, ok)
				}
				continue
			}
			tails++
			if !is || !ok {
				t.Fatalf("IsTail(%v, %d) is %v, %v", whole, most, is, ok)
			}
			for i, k := range whole {
				lacking := slices.Delete(slices.Clone(whole), i, i+1)
				if is, ok := impl.IsTail(lacking, most); is != (k == n && n != 1) || ok != (len(lacking) > 0) {
					t.Fatalf("IsTail(%v, %d) is %v, %v", lacking, most, is, ok)
				}
			}
			for _, k := range order {
				if k > most || places[k] >= places[n] || len(whole) == 60 {
					continue
				}
				more := append(slices.Clone(whole), k)
				slices.Sort(more)
				if is, ok := impl.IsTail(more, most); is != (places[k] == places[n]-1) || !ok {
					t.Fatalf("IsTail(%v, %d) is %v, %v", more, most, is, ok)
				}
			}
		}
		if tails != min(most, 60) {
			t.Errorf("up to %d there are %d tails", most, tails)
		}
	}
}

// All lists of some of the first periods are tails if they have, with each period, all that it forces.
func TestAllShortListsThatAreTails(t *testing.T) {
	for most := 1; most <= 10; most++ {
		places := placesOfPeriods(most)
		for set := 1; set < 1<<most; set++ {
			var l []int
			for k := 1; k <= most; k++ {
				if set>>(k-1)&1 == 1 {
					l = append(l, k)
				}
			}
			want := true
			for _, n := range l {
				for _, k := range wantedForced(places, n, most) {
					want = want && slices.Contains(l, k)
				}
			}
			if is, ok := impl.IsTail(l, most); is != want || !ok {
				t.Fatalf("IsTail(%v, %d) is %v, %v, not %v", l, most, is, ok, want)
			}
		}
	}
}

// The periods of a continuous map of an interval are a tail.
func TestPeriodsOfMapsAreTails(t *testing.T) {
	met := map[string]int{}
	for _, f := range periodicMaps() {
		for n := 1; n <= 4; n++ {
			periods, ok := impl.PeriodsUpTo(f, n)
			if !ok {
				continue
			}
			met[fmt.Sprint(periods)]++
			if is, ok := impl.IsTail(periods, n); !is || !ok {
				t.Errorf("%v are the periods up to %d of %v, and IsTail is %v, %v", periods, n, f, is, ok)
			}
		}
	}
	for _, periods := range []string{"[1]", "[1 2]", "[1 2 4]", "[1 2 3 4]"} {
		if met[periods] == 0 {
			t.Error("no map has the periods", periods)
		}
	}
}

func TestPlaceAmong(t *testing.T) {
	cases := []struct{ n, most, want int }{
		{6, 10, 4}, {3, 10, 0}, {3, 200, 0}, {1, 1, 0}, {2, 2, 0}, {1, 2, 1}, {3, 3, 0}, {2, 3, 1}, {1, 3, 2}, {1, 200, 199}, {2, 200, 198},
		{10, 10, 5}, {8, 10, 6}, {200, 200, 183}, {199, 200, 98}, {198, 200, 147}, {6, 200, 99}, {128, 200, 192}, {4, 4, 1},
	}
	for _, c := range cases {
		if place, ok := impl.PlaceAmong(c.n, c.most); place != c.want || !ok {
			t.Errorf("PlaceAmong(%d, %d) is %d, %v, not %d", c.n, c.most, place, ok, c.want)
		}
	}
	for most := 1; most <= 200; most++ {
		for i, n := range listedPeriods(most) {
			if place, ok := impl.PlaceAmong(n, most); place != i || !ok {
				t.Fatalf("PlaceAmong(%d, %d) is %d, %v, not %d", n, most, place, ok, i)
			}
		}
		for _, n := range []int{most + 1, most + 2, 201, 1000, impl.MaxPeriod} {
			if place, ok := impl.PlaceAmong(n, most); place != 0 || ok {
				t.Fatalf("PlaceAmong(%d, %d) is %d, %v", n, most, place, ok)
			}
		}
	}
}

func TestCommonTail(t *testing.T) {
	cases := []struct{ a, b, want int }{
		{3, 5, 5}, {5, 3, 5}, {3, 3, 3}, {1, 1, 1}, {1, 3, 1}, {3, 1, 1}, {6, 9, 6}, {8, 4, 4}, {4, 8, 4}, {12, 10, 12}, {12, 16, 16},
		{1000000, 1000000, 1000000}, {1000000, 1, 1}, {1, 1000000, 1}, {999999, 1000000, 1000000}, {1000000, 524288, 524288}, {524288, 262144, 262144},
	}
	for _, c := range cases {
		if n, ok := impl.CommonTail(c.a, c.b); n != c.want || !ok {
			t.Errorf("CommonTail(%d, %d) is %d, %v, not %d", c.a, c.b, n, ok, c.want)
		}
	}
	places := placesOfPeriods(impl.MaxPeriod)
	check := func(a int, b int) {
		n, ok := impl.CommonTail(a, b)
		if !ok || n != a && n != b || places[n] != max(places[a], places[b]) {
			t.Fatalf("CommonTail(%d, %d) is %d, %v", a, b, n, ok)
		}
	}
	for a := 1; a <= 60; a++ {
		for b := 1; b <= 60; b++ {
			check(a, b)
			n, _ := impl.CommonTail(a, b)
			for _, k := range notablePeriods() {
				byBoth := places[k] >= places[a] && places[k] >= places[b]
				if is, _ := impl.ForcesPeriod(n, k); is != byBoth {
					t.Fatalf("CommonTail(%d, %d) is %d, which forces %d: %v", a, b, n, k, is)
				}
			}
		}
	}
	for _, a := range notablePeriods() {
		for _, b := range notablePeriods() {
			check(a, b)
		}
	}
}

// noneOfPeriod tests that all functions of one period have no results.
func noneOfPeriod(t *testing.T, n int) {
	t.Helper()
	exponent, odd, splitOK := impl.SplitPeriod(n)
	next, nextOK := impl.NextForced(n)
	kind, kindOK := impl.PeriodKind(n)
	if exponent != 0 || odd != 0 || next != 0 || kind != "" || splitOK || nextOK || kindOK {
		t.Errorf("%d has %d, %d, %v; %d, %v; %q, %v", n, exponent, odd, splitOK, next, nextOK, kind, kindOK)
	}
}

// noneOfPair tests that the functions of two periods have no results.
func noneOfPair(t *testing.T, a int, b int) {
	t.Helper()
	is, isOK := impl.ForcesPeriod(a, b)
	n, ok := impl.CommonTail(a, b)
	if is || isOK || n != 0 || ok {
		t.Errorf("%d and %d have %v, %v; %d, %v", a, b, is, isOK, n, ok)
	}
}

// noneUpTo tests that the functions of a period and a greatest one have no results.
func noneUpTo(t *testing.T, n int, most int) {
	t.Helper()
	list, listOK := impl.ForcedPeriods(n, most)
	place, placeOK := impl.PlaceAmong(n, most)
	if len(list) != 0 || listOK || place != 0 || placeOK {
		t.Errorf("%d up to %d has %v, %v; %d, %v", n, most, list, listOK, place, placeOK)
	}
}

// noneOfList tests that the functions of a list have no results.
func noneOfList(t *testing.T, l []int) {
	t.Helper()
	n, ok := impl.StrongestPeriod(l)
	sorted, sortedOK := impl.SortPeriods(l)
	if n != 0 || ok || len(sorted) != 0 || sortedOK {
		t.Errorf("%v has %d, %v; %v, %v", l[:min(len(l), 62)], n, ok, sorted, sortedOK)
	}
	for _, most := range append(noMosts(), 1, 2, 10, 60, 61, 199, 200) {
		noTail(t, l, most)
	}
}

func noTail(t *testing.T, l []int, most int) {
	t.Helper()
	if is, ok := impl.IsTail(l, most); is || ok {
		t.Errorf("IsTail(%v, %d) is %v, %v", l[:min(len(l), 62)], most, is, ok)
	}
}

func TestInvalidPeriodsForceNothing(t *testing.T) {
	for _, bad := range noPeriods() {
		noneOfPeriod(t, bad)
		for _, n := range append(noPeriods(), 1, 2, 3, 6, 524288, 999999, impl.MaxPeriod) {
			noneOfPair(t, bad, n)
			noneOfPair(t, n, bad)
		}
		for _, most := range append(noMosts(), 1, 2, 10, 199, 200) {
			noneUpTo(t, bad, most)
		}
		full := append(countUp(1, 59), bad)
		for _, l := range [][]int{{bad}, {bad, bad}, {bad, 1}, {1, bad}, {1, bad, 3}, {3, 5, 7, 6, bad}, full} {
			noneOfList(t, l)
		}
	}
	for _, most := range noMosts() {
		for _, n := range append(notablePeriods(), noPeriods()...) {
			noneUpTo(t, n, most)
		}
		for _, l := range [][]int{{1}, {1, 2}, {1, 2, 4, 6, 8, 10}, {3}, countUp(1, 60)} {
			noTail(t, l, most)
		}
	}
	for _, l := range [][]int{nil, {}, countUp(1, 61), countUp(1, 62), make([]int, 60), make([]int, 61), make([]int, 100000), slices.Repeat([]int{1}, 61)} {
		noneOfList(t, l)
	}
}

// No function of periods writes to its arguments or behind them, and no result is part of them or of another one.
func TestPeriodsLeaveArgumentsAsTheyAre(t *testing.T) {
	lists := [][]int{
		nil, {}, {1}, {6, 3}, {3, 6, 1}, {1, 6, 3, 6, 1}, {5, 5, 5, 5}, {1, 2, 4}, {1, 2, 4, 6, 8, 10}, {2, 1, 0}, {1, -1}, {3, impl.MaxPeriod + 1},
		countUp(1, 60), listedPeriods(60), countUp(1, 61), slices.Repeat([]int{7, 2}, 30),
	}
	for _, l := range lists {
		given := spareInts(l)
		sorted, ok := impl.SortPeriods(given)
		want := fmt.Sprint(sorted, ok)
		impl.StrongestPeriod(given)
		for _, most := range []int{-1, 0, 1, 10, 60, 200, 201} {
			impl.IsTail(given, most)
		}
		if !sameIntsWithSpare(given, l) {
			t.Errorf("%v has become %v", l, given[:cap(given)])
		}
		overwriteInts(sorted)
		if !sameIntsWithSpare(given, l) {
			t.Errorf("SortPeriods(%v) is part of its argument", l)
		}
		again, ok := impl.SortPeriods(given)
		if fmt.Sprint(again, ok) != want {
			t.Errorf("SortPeriods(%v) was %s, and is %v, %v", l, want, again, ok)
		}
	}
	for _, n := range []int{1, 3, 6, 64, impl.MaxPeriod} {
		for _, most := range []int{1, 10, 200} {
			list, _ := impl.ForcedPeriods(n, most)
			want := fmt.Sprint(list)
			overwriteInts(list)
			if again, _ := impl.ForcedPeriods(n, most); fmt.Sprint(again) != want {
				t.Errorf("ForcedPeriods(%d, %d) was %s, and is %v", n, most, want, again)
			}
		}
	}
}
