package tests

import (
	"math"
	"math/big"
	"strings"
	"testing"

	"loop.example/g01003/impl"
)

const (
	most     = impl.MaxSize
	mostMade = 1000000000000000000
)

// operation is one of the functions of two fractions, with what it has to return before limits are checked.
type operation struct {
	name  string
	call  func(a, b impl.Rat) (impl.Rat, bool)
	exact func(a, b *big.Rat) *big.Rat
}

func operations() []operation {
	return []operation{
		{"AddRats", impl.AddRats, func(a, b *big.Rat) *big.Rat { return new(big.Rat).Add(a, b) }},
		{"SubtractRats", impl.SubtractRats, func(a, b *big.Rat) *big.Rat { return new(big.Rat).Sub(a, b) }},
		{"MultiplyRats", impl.MultiplyRats, func(a, b *big.Rat) *big.Rat { return new(big.Rat).Mul(a, b) }},
		{"DivideRats", impl.DivideRats, func(a, b *big.Rat) *big.Rat {
			if b.Sign() == 0 {
				return nil
			}
			return new(big.Rat).Quo(a, b)
		}},
		{"MiddleOf", impl.MiddleOf, func(a, b *big.Rat) *big.Rat {
			sum := new(big.Rat).Add(a, b)
			return sum.Quo(sum, big.NewRat(2, 1))
		}},
	}
}

func bigOf(a impl.Rat) *big.Rat {
	return big.NewRat(int64(a.Num), int64(a.Den))
}

// fractionOf returns the fraction that a call has to return for an exact result, or 0 and false if it is none.
func fractionOf(exact *big.Rat) (impl.Rat, bool) {
	if exact == nil {
		return impl.Rat{}, false
	}
	limit := big.NewInt(most)
	if exact.Num().CmpAbs(limit) > 0 || exact.Denom().Cmp(limit) > 0 {
		return impl.Rat{}, false
	}
	return impl.Rat{Num: int(exact.Num().Int64()), Den: int(exact.Denom().Int64())}, true
}

func bigFloor(a *big.Rat) *big.Int {
	return new(big.Int).Div(a.Num(), a.Denom()) // Div rounds down for a positive divisor
}

// validRats returns small fractions, and those at and near the limits, each once.
func validRats() []impl.Rat {
	nums := []int{most, most - 1, most - 2, most / 2, most/2 + 1, 123456789, 65536, 1000, 12, 7, 6, 5, 4, 3, 2, 1, 0}
	dens := []int{1, 2, 3, 4, 5, 6, 7, 12, 1000, 32768, 987654321, most / 2, most/2 + 1, most - 2, most - 1, most}
	met := map[impl.Rat]bool{}
	var list []impl.Rat
	for _, n := range nums {
		for _, d := range dens {
			for _, num := range []int{n, -n} {
				a, ok := fractionOf(big.NewRat(int64(num), int64(d)))
				if ok && !met[a] {
					met[a] = true
					list = append(list, a)
				}
			}
		}
	}
	return list
}

// invalidRats returns Rats that are no fractions.
func invalidRats() []impl.Rat {
	return []impl.Rat{
		{}, {Num: 1}, {Num: -1}, {Num: 0, Den: 2}, {Num: 0, Den: most}, {Num: 0, Den: -1},
		{Num: 2, Den: 4}, {Num: -2, Den: 4}, {Num: 6, Den: 3}, {Num: -9, Den: 3}, {Num: most, Den: most}, {Num: -most, Den: most},
		{Num: most, Den: 2}, {Num: -most, Den: 10}, {Num: 2, Den: most},
		{Num: 1, Den: -1}, {Num: 1, Den: -2}, {Num: -1, Den: -2}, {Num: -1, Den: -most},
		{Num: most + 1, Den: 1}, {Num: -most - 1, Den: 1}, {Num: 1, Den: most + 1}, {Num: most + 1, Den: most},
		{Num: math.MaxInt, Den: 1}, {Num: math.MinInt, Den: 1}, {Num: 1, Den: math.MaxInt}, {Num: 1, Den: math.MinInt},
		{Num: math.MaxInt, Den: math.MaxInt}, {Num: math.MinInt, Den: math.MinInt}, {Num: math.MinInt, Den: -1},
		{Num: math.MaxInt, Den: 0}, {Num: math.MinInt, Den: 0}, {Num: 0, Den: math.MinInt},
		{Num: 1<<32 + 1, Den: 1}, {Num: 1, Den: 1<<32 + 1}, {Num: 1 << 32, Den: 1 << 32},
	}
}

// sizes returns numbers of any size of int.
func sizes() []int {
	list := []int{math.MinInt}
	for _, n := range []int{0, 1, 2, 3, 6, 7, 10, 12, 97, 1 << 32, most - 1, most, most + 1, 2 * most, 3 * most,
		mostMade / 3, mostMade / 2, mostMade - most, mostMade - 1, mostMade, mostMade + 1, 2 * mostMade, math.MaxInt - 1, math.MaxInt} {
		list = append(list, n, -n)
	}
	return list
}

func TestRatLimits(t *testing.T) {
	if impl.MaxSize != 1000000000 {
		t.Error("MaxSize is", impl.MaxSize)
	}
	for _, a := range validRats() {
		if !impl.IsRat(a) {
			t.Error(a, "is no fraction")
		}
	}
	for _, a := range []impl.Rat{{Num: 0, Den: 1}, {Num: most, Den: 1}, {Num: -most, Den: 1}, {Num: 1, Den: most}, {Num: -1, Den: most}, {Num: most - 1, Den: most}, {Num: -most, Den: most - 1}} {
		if !impl.IsRat(a) {
			t.Error(a, "is no fraction")
		}
	}
	for _, a := range invalidRats() {
		if impl.IsRat(a) {
			t.Error(a, "is a fraction")
		}
	}
}

func TestMakeRat(t *testing.T) {
	for _, num := range sizes() {
		for _, den := range sizes() {
			var want impl.Rat
			wantOK := false
			if num >= -mostMade && num <= mostMade && den >= -mostMade && den <= mostMade && den != 0 {
				want, wantOK = fractionOf(big.NewRat(int64(num), int64(den)))
			}
			if a, ok := impl.MakeRat(num, den); a != want || ok != wantOK {
				t.Errorf("MakeRat(%d, %d) is %v, %v, not %v, %v", num, den, a, ok, want, wantOK)
			}
		}
	}
}

func TestMakeRatAtLimits(t *testing.T) {
	cases := []struct {
		num, den int
		want     impl.Rat
		ok       bool
	}{
		{6, -4, impl.Rat{Num: -3, Den: 2}, true},
		{-6, -4, impl.Rat{Num: 3, Den: 2}, true},
		{0, -17, impl.Rat{Num: 0, Den: 1}, true},
		{mostMade, mostMade, impl.Rat{Num: 1, Den: 1}, true},
		{mostMade, -mostMade, impl.Rat{Num: -1, Den: 1}, true},
		{mostMade, most, impl.Rat{Num: most, Den: 1}, true},
		{-mostMade, most, impl.Rat{Num: -most, Den: 1}, true},
		{most, mostMade, impl.Rat{Num: 1, Den: most}, true},
		{mostMade + 1, mostMade + 1, impl.Rat{}, false},
		{2 * mostMade, 2 * mostMade, impl.Rat{}, false},
		{0, mostMade + 1, impl.Rat{}, false},
		{0, 0, impl.Rat{}, false},
		{5, 0, impl.Rat{}, false},
		{most + 1, 1, impl.Rat{}, false},
		{1, most + 1, impl.Rat{}, false},
		{mostMade, most - 1, impl.Rat{}, false},
		{math.MinInt, math.MinInt, impl.Rat{}, false},
		{math.MinInt, -1, impl.Rat{}, false},
	}
	for _, c := range cases {
		if a, ok := impl.MakeRat(c.num, c.den); a != c.want || ok != c.ok {
			t.Errorf("MakeRat(%d, %d) is %v, %v, not %v, %v", c.num, c.den, a, ok, c.want, c.ok)
		}
	}
}

func TestOperationsAreExact(t *testing.T) {
	list := validRats()
	for _, o := range operations() {
		made, failed := 0, 0
		for _, a := range list {
			for _, b := range list {
				want, wantOK := fractionOf(o.exact(bigOf(a), bigOf(b)))
				got, ok := o.call(a, b)
				if got != want || ok != wantOK {
					t.Fatalf("%s(%v, %v) is %v, %v, not %v, %v", o.name, a, b, got, ok, want, wantOK)
				}
				if ok {
					made++
				} else {
					failed++
				}
			}
		}
		if made == 0 || failed == 0 {
			t.Error(o.name, "has", made, "results and", failed, "failures here: both are to be tested")
		}
	}
}

func TestOperationsAtLimits(t *testing.T) {
	top, low := impl.Rat{Num: most, Den: 1}, impl.Rat{Num: -most, Den: 1}
	least, one, two := impl.Rat{Num: 1, Den: most}, impl.Rat{Num: 1, Den: 1}, impl.Rat{Num: 2, Den: 1}
	near := impl.Rat{Num: most - 1, Den: most}
	zero := impl.Rat{Num: 0, Den: 1}
	cases := []struct {
		name string
		call func(a, b impl.Rat) (impl.Rat, bool)
		a, b impl.Rat
		want impl.Rat
		ok   bool
	}{
		{"AddRats", impl.AddRats, near, near, impl.Rat{Num: most - 1, Den: most / 2}, true}, // the sum before it is reduced is too large for MakeRat
		{"AddRats", impl.AddRats, near, least, one, true},
		{"AddRats", impl.AddRats, top, low, zero, true},
		{"AddRats", impl.AddRats, impl.Rat{Num: most - 1, Den: 1}, one, top, true},
		{"AddRats", impl.AddRats, top, one, impl.Rat{}, false},
		{"AddRats", impl.AddRats, top, least, impl.Rat{}, false},
		{"AddRats", impl.AddRats, least, impl.Rat{Num: 1, Den: 3}, impl.Rat{}, false},
		{"SubtractRats", impl.SubtractRats, low, top, impl.Rat{}, false},
		{"SubtractRats", impl.SubtractRats, low, low, zero, true},
		{"SubtractRats", impl.SubtractRats, impl.Rat{Num: 1 - most, Den: 1}, one, low, true},
		{"SubtractRats", impl.SubtractRats, low, one, impl.Rat{}, false},
		{"MultiplyRats", impl.MultiplyRats, top, least, one, true},
		{"MultiplyRats", impl.MultiplyRats, top, two, impl.Rat{}, false},
		{"MultiplyRats", impl.MultiplyRats, top, zero, zero, true},
		{"MultiplyRats", impl.MultiplyRats, least, impl.Rat{Num: 1, Den: 2}, impl.Rat{}, false},
		{"DivideRats", impl.DivideRats, low, low, one, true},
		{"DivideRats", impl.DivideRats, one, low, impl.Rat{Num: -1, Den: most}, true},
		{"DivideRats", impl.DivideRats, zero, low, zero, true},
		{"DivideRats", impl.DivideRats, one, impl.Rat{Num: -2, Den: 3}, impl.Rat{Num: -3, Den: 2}, true},
		{"DivideRats", impl.DivideRats, one, zero, impl.Rat{}, false},
		{"DivideRats", impl.DivideRats, zero, zero, impl.Rat{}, false},
		{"MiddleOf", impl.MiddleOf, top, top, top, true}, // the sum is no fraction, its half is
		{"MiddleOf", impl.MiddleOf, low, low, low, true},
		{"MiddleOf", impl.MiddleOf, top, low, zero, true},
		{"MiddleOf", impl.MiddleOf, zero, least, impl.Rat{}, false},
	}
	for _, c := range cases {
		if got, ok := c.call(c.a, c.b); got != c.want || ok != c.ok {
			t.Errorf("%s(%v, %v) is %v, %v, not %v, %v", c.name, c.a, c.b, got, ok, c.want, c.ok)
		}
	}
}

func TestSumsAndDifferencesUndoEachOther(t *testing.T) {
	undone := 0
	list := validRats()
	for _, a := range list {
		for _, b := range list {
			if sum, ok := impl.AddRats(a, b); ok {
				undone++
				if back, ok := impl.SubtractRats(sum, b); back != a || !ok {
					t.Fatal(a, "plus and minus", b, "is", back, ok)
				}
				if turned, ok := impl.AddRats(b, a); turned != sum || !ok {
					t.Fatal(b, "plus", a, "is", turned, ok, "and not", sum)
				}
			}
			if difference, ok := impl.SubtractRats(a, b); ok {
				undone++
				if back, ok := impl.AddRats(difference, b); back != a || !ok {
					t.Fatal(a, "minus and plus", b, "is", back, ok)
				}
			}
		}
	}
	if undone < len(list) {
		t.Error("only", undone, "sums and differences were undone")
	}
}

func TestCompareRats(t *testing.T) {
	list := validRats()
	for _, a := range list {
		for _, b := range list {
			if got, ok := impl.CompareRats(a, b); got != bigOf(a).Cmp(bigOf(b)) || !ok {
				t.Fatalf("CompareRats(%v, %v) is %d, %v", a, b, got, ok)
			}
		}
	}
}

func TestFloorOf(t *testing.T) {
	for _, a := range validRats() {
		if got, ok := impl.FloorOf(a); int64(got) != bigFloor(bigOf(a)).Int64() || !ok {
			t.Errorf("FloorOf(%v) is %d, %v", a, got, ok)
		}
	}
	for a, want := range map[impl.Rat]int{
		{Num: -3, Den: 2}: -2, {Num: 3, Den: 2}: 1, {Num: -1, Den: most}: -1, {Num: 1, Den: most}: 0,
		{Num: 0, Den: 1}: 0, {Num: -most, Den: 1}: -most, {Num: most, Den: 1}: most, {Num: -4, Den: 1}: -4,
	} {
		if got, ok := impl.FloorOf(a); got != want || !ok {
			t.Errorf("FloorOf(%v) is %d, %v, not %d", a, got, ok, want)
		}
	}
}

func TestRoundDownTo(t *testing.T) {
	dens := []int{1, 2, 3, 8, 10, 12, 999, 32768, most / 2, most - 1, most}
	for _, a := range validRats() {
		for _, den := range dens {
			parts := bigFloor(new(big.Rat).Mul(bigOf(a), big.NewRat(int64(den), 1)))
			want, wantOK := fractionOf(new(big.Rat).SetFrac(parts, big.NewInt(int64(den))))
			if got, ok := impl.RoundDownTo(a, den); got != want || ok != wantOK {
				t.Errorf("RoundDownTo(%v, %d) is %v, %v, not %v, %v", a, den, got, ok, want, wantOK)
			}
		}
	}
}

func TestRoundDownToAtLimits(t *testing.T) {
	cases := []struct {
		a    impl.Rat
		den  int
		want impl.Rat
		ok   bool
	}{
		{impl.Rat{Num: 5, Den: 12}, 8, impl.Rat{Num: 3, Den: 8}, true},
		{impl.Rat{Num: -5, Den: 12}, 8, impl.Rat{Num: -1, Den: 2}, true},
		{impl.Rat{Num: 2, Den: 3}, 9, impl.Rat{Num: 2, Den: 3}, true},
		{impl.Rat{Num: 1, Den: 3}, 2, impl.Rat{Num: 0, Den: 1}, true},
		{impl.Rat{Num: -1, Den: most}, 1, impl.Rat{Num: -1, Den: 1}, true},
		{impl.Rat{Num: most, Den: 1}, most, impl.Rat{Num: most, Den: 1}, true},
		{impl.Rat{Num: -most, Den: 1}, most, impl.Rat{Num: -most, Den: 1}, true},
		{impl.Rat{Num: 1, Den: most}, most, impl.Rat{Num: 1, Den: most}, true},
		{impl.Rat{Num: most, Den: 7}, most, impl.Rat{}, false},
		{impl.Rat{Num: 1, Den: 2}, 0, impl.Rat{}, false},
		{impl.Rat{Num: 0, Den: 1}, 0, impl.Rat{}, false},
		{impl.Rat{Num: 1, Den: 2}, -1, impl.Rat{}, false},
		{impl.Rat{Num: 1, Den: 2}, most + 1, impl.Rat{}, false},
		{impl.Rat{Num: 1, Den: 1}, math.MaxInt, impl.Rat{}, false},
		{impl.Rat{Num: 1, Den: 1}, math.MinInt, impl.Rat{}, false},
	}
	for _, c := range cases {
		if got, ok := impl.RoundDownTo(c.a, c.den); got != c.want || ok != c.ok {
			t.Errorf("RoundDownTo(%v, %d) is %v, %v, not %v, %v", c.a, c.den, got, ok, c.want, c.ok)
		}
	}
}

func TestRatTextsAreReadBack(t *testing.T) {
	for _, a := range validRats() {
		s, ok := impl.RatText(a)
		if !ok {
			t.Fatal(a, "has no text")
		}
		if back, ok := impl.ParseRat(s); back != a || !ok {
			t.Errorf("ParseRat(%q) is %v, %v, not %v", s, back, ok, a)
		}
	}
	for s, a := range map[string]impl.Rat{
		"0/1": {Num: 0, Den: 1}, "-3/2": {Num: -3, Den: 2}, "7/1": {Num: 7, Den: 1}, "10/101": {Num: 10, Den: 101},
		"1000000000/1": {Num: most, Den: 1}, "-1000000000/999999999": {Num: -most, Den: most - 1}, "1/1000000000": {Num: 1, Den: most},
	} {
		if text, ok := impl.RatText(a); text != s || !ok {
			t.Errorf("RatText(%v) is %q, %v, not %q", a, text, ok, s)
		}
		if back, ok := impl.ParseRat(s); back != a || !ok {
			t.Errorf("ParseRat(%q) is %v, %v, not %v", s, back, ok, a)
		}
	}
}

func TestTextsOfNoFraction(t *testing.T) {
	long := strings.Repeat("9", 5000)
	for _, s := range []string{
		"", "/", "-", "-/", "1", "-1", "1/", "/1", "-/1", "0", "0/", "1//2", "1/2/", "1/2/3", "/1/2",
		"0/2", "0/0", "1/0", "-0/1", "-1/0", "2/4", "-2/4", "6/3", "1000000000/1000000000",
		"+1/2", "1/+2", "1/-2", "--1/2", "-1/-2", "1-/2", " 1/2", "1/2 ", "1 /2", "1/ 2", "1/2\n", "1/2\x00",
		"01/2", "1/02", "00/1", "0/01", "-01/2", "1/2;", "1.0/2", "1e2/3", "0x1/2", "1_0/3", "a/b", "1/b", "1\\2", "1:2",
		"1000000001/1", "-1000000001/1", "1/1000000001", "18446744073709551617/2", "1/18446744073709551617", "9223372036854775807/1", "-9223372036854775808/1",
		long + "/1", "1/" + long, "-" + long + "/" + long, strings.Repeat("0", 5000) + "1/2", strings.Repeat("/", 5000), strings.Repeat("-", 5000),
		"\u0661/2", "1/\u0662", "\u22121/2", "1\u20442", "\u00bd", "\xff", "1/\xff", "1\xff/2", "\xe2\x88/1", "1/2\u200b",
	} {
		if a, ok := impl.ParseRat(s); a != (impl.Rat{}) || ok {
			t.Errorf("ParseRat(%.40q) is %v, %v", s, a, ok)
		}
	}
}

// Every text of up to five of these bytes is the text of the fraction that is read from it, or of none.
func TestShortTexts(t *testing.T) {
	texts := map[string]impl.Rat{}
	for num := -9999; num <= 9999; num++ {
		for den := 1; den <= 999; den++ {
			if a := (impl.Rat{Num: num, Den: den}); impl.IsRat(a) {
				if s, _ := impl.RatText(a); len(s) <= 5 {
					texts[s] = a
				}
			}
		}
	}
	var try func(s string)
	try = func(s string) {
		want, wantOK := texts[s]
		if a, ok := impl.ParseRat(s); a != want || ok != wantOK {
			t.Errorf("ParseRat(%q) is %v, %v, not %v, %v", s, a, ok, want, wantOK)
		}
		if len(s) == 5 {
			return
		}
		for _, next := range []string{"0", "1", "2", "3", "6", "-", "/", "+", " "} {
			try(s + next)
		}
	}
	try("")
}

func TestInvalidRatsHaveNoResults(t *testing.T) {
	good := []impl.Rat{{Num: 0, Den: 1}, {Num: 1, Den: 1}, {Num: -3, Den: 2}, {Num: most, Den: 1}, {Num: -1, Den: most}}
	for _, bad := range invalidRats() {
		for _, o := range operations() {
			for _, other := range append(invalidRats(), good...) {
				if a, ok := o.call(bad, other); a != (impl.Rat{}) || ok {
					t.Errorf("%s(%v, %v) is %v, %v", o.name, bad, other, a, ok)
				}
				if a, ok := o.call(other, bad); a != (impl.Rat{}) || ok {
					t.Errorf("%s(%v, %v) is %v, %v", o.name, other, bad, a, ok)
				}
			}
		}
		for _, other := range append(invalidRats(), good...) {
			if n, ok := impl.CompareRats(bad, other); n != 0 || ok {
				t.Errorf("CompareRats(%v, %v) is %d, %v", bad, other, n, ok)
			}
			if n, ok := impl.CompareRats(other, bad); n != 0 || ok {
				t.Errorf("CompareRats(%v, %v) is %d, %v", other, bad, n, ok)
			}
		}
		if n, ok := impl.FloorOf(bad); n != 0 || ok {
			t.Errorf("FloorOf(%v) is %d, %v", bad, n, ok)
		}
		for _, den := range sizes() {
			if a, ok := impl.RoundDownTo(bad, den); a != (impl.Rat{}) || ok {
				t.Errorf("RoundDownTo(%v, %d) is %v, %v", bad, den, a, ok)
			}
		}
		if s, ok := impl.RatText(bad); s != "" || ok {
			t.Errorf("RatText(%v) is %q, %v", bad, s, ok)
		}
	}
}

// All pairs of ints of any size, taken as fractions and as numbers, lead to valid fractions or to nothing.
func TestRatFunctionsTakeAllInts(t *testing.T) {
	check := func(name string, a impl.Rat, ok bool) {
		if ok != impl.IsRat(a) || !ok && a != (impl.Rat{}) {
			t.Errorf("%s returns %v, %v", name, a, ok)
		}
	}
	var all []impl.Rat
	for _, num := range sizes() {
		for _, den := range sizes() {
			all = append(all, impl.Rat{Num: num, Den: den})
		}
	}
	for i, a := range all {
		b := all[(i*37+11)%len(all)]
		for _, o := range operations() {
			for _, other := range []impl.Rat{a, b} {
				got, ok := o.call(a, other)
				check(o.name, got, ok)
			}
		}
		got, ok := impl.MakeRat(a.Num, a.Den)
		check("MakeRat", got, ok)
		got, ok = impl.RoundDownTo(a, b.Num)
		check("RoundDownTo", got, ok)
		n, ok := impl.CompareRats(a, b)
		if ok != (impl.IsRat(a) && impl.IsRat(b)) || !ok && n != 0 {
			t.Errorf("CompareRats(%v, %v) is %d, %v", a, b, n, ok)
		}
		n, ok = impl.FloorOf(a)
		if ok != impl.IsRat(a) || !ok && n != 0 {
			t.Errorf("FloorOf(%v) is %d, %v", a, n, ok)
		}
		s, ok := impl.RatText(a)
		if ok != impl.IsRat(a) || ok != (s != "") {
			t.Errorf("RatText(%v) is %q, %v", a, s, ok)
		}
	}
}
