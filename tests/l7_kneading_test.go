package tests

import (
	"math/big"
	"slices"
	"strings"
	"testing"

	"loop.example/g01003/impl"
)

func TestKneadingLimit(t *testing.T) {
	if impl.MaxKneading != 30 {
		t.Error(impl.MaxKneading)
	}
}

func TestKneadingOf(t *testing.T) {
	cases := []struct {
		f    string
		n    int
		want string // empty if it fails
	}{
		{"0/1 0/1;1/2 1/1;1/1 0/1;", 1, "R"},
		{"0/1 0/1;1/2 1/1;1/1 0/1;", 3, "RLL"},
		{"0/1 0/1;1/2 1/1;1/1 0/1;", 30, "RL" + strings.Repeat("L", 28)},
		{"0/1 0/1;1/2 1/1;1/1 0/1;", 31, ""},
		{"0/1 0/1;1/2 1/2;1/1 0/1;", 30, strings.Repeat("C", 30)}, // the centre is its own value
		{"0/1 0/1;1/2 2/5;1/1 0/1;", 1, "L"},
		{"0/1 1/2;1/2 1/1;1/1 0/1;", 7, "RLCRLCR"}, // the centre is met again behind 3 steps
		{"0/1 1/2;1/4 1/1;1/2 1/2;1/1 0/1;", 4, "RLRR"},
		{"0/1 0/1;1/3 2/3;2/3 1/3;1/1 0/1;", 6, "RCRCRC"},
		{"0/1 1/1;1/2 1/1;1/1 0/1;", 3, ""}, // a slope 0
		{"0/1 2/3;1/3 1/1;1/1 1/2;", 3, "RRR"},
		{"0/1 0/1;1/2 1/100;1/1 0/1;", 5, "LLLLL"},
		{"0/1 0/1;1/2 1/100;1/1 0/1;", 6, ""}, // 1/31250000000 is too large
		{"0/1 0/1;1/2 1/100;1/1 0/1;", 30, ""},
	}
	for _, c := range cases {
		f, ok := impl.ParseMap(c.f)
		if !ok {
			t.Fatal(c.f, "is no map")
		}
		if word, ok := impl.KneadingOf(f, c.n); word != c.want || ok != (c.want != "") {
			t.Errorf("KneadingOf(%s, %d) is %q, %v, not %q", c.f, c.n, word, ok, c.want)
		}
	}
}

func TestTurningValues(t *testing.T) {
	cases := []struct {
		f    []impl.Point
		want []impl.Rat
	}{
		{tentMap(), []impl.Rat{rat(1, 1), rat(0, 1), rat(0, 1), rat(0, 1)}},
		{pts(0, 1, 1, 2, 1, 2, 1, 1, 1, 1, 0, 1), []impl.Rat{rat(1, 1), rat(0, 1), rat(1, 2), rat(1, 1), rat(0, 1)}},
		{pts(0, 1, 0, 1, 1, 2, 9, 10, 1, 1, 0, 1), []impl.Rat{rat(9, 10), rat(9, 50), rat(81, 250), rat(729, 1250)}},
		{pts(0, 1, 0, 1, 1, 2, 1, 100, 1, 1, 0, 1), []impl.Rat{rat(1, 100), rat(1, 5000), rat(1, 250000), rat(1, 12500000), rat(1, 625000000)}},
	}
	for _, c := range cases {
		for n := 1; n <= len(c.want); n++ {
			if list, ok := impl.TurningValues(c.f, n); !slices.Equal(list, c.want[:n]) || !ok {
				t.Errorf("TurningValues(%v, %d) is %v, %v", c.f, n, list, ok)
			}
		}
	}
	for _, n := range []int{6, 7, 30} {
		if list, ok := impl.TurningValues(pts(0, 1, 0, 1, 1, 2, 1, 100, 1, 1, 0, 1), n); len(list) != 0 || ok {
			t.Errorf("TurningValues of %d steps is %v, %v", n, list, ok)
		}
	}
}

func TestKneadingIsAsWanted(t *testing.T) {
	lengths := []int{1, 2, 3, 4, 5, 7, 12, 29, impl.MaxKneading}
	made, failed, full, centres := 0, 0, 0, 0
	for _, f := range unimodalMaps() {
		for _, n := range lengths {
			want, wantOK := wantedKneading(f, n)
			word, ok := impl.KneadingOf(f, n)
			if !wantOK {
				want = ""
				failed++
			}
			if word != want || ok != wantOK {
				t.Fatalf("KneadingOf(%v, %d) is %q, %v, not %q, %v", f, n, word, ok, want, wantOK)
			}
			wantList, _ := wantedTurningValues(f, n)
			list, ok := impl.TurningValues(f, n)
			if !slices.Equal(list, wantList) || ok != wantOK {
				t.Fatalf("TurningValues(%v, %d) is %v, %v, not %v, %v", f, n, list, ok, wantList, wantOK)
			}
			if !ok {
				continue
			}
			made++
			if n == impl.MaxKneading {
				full++
				if strings.Contains(word, "C") {
					centres++
				}
			}
		}
	}
	if made < 1500 || failed < 500 || full < 100 || centres < 30 {
		t.Error(made, "words,", failed, "that are too large,", full, "of the greatest length,", centres, "of them through the centre: all are to be tested")
	}
}

// All kneading sequences are maximal, as is their beginning, and that of a shorter length is the beginning of a longer one.
func TestKneadingWordsAreMaximal(t *testing.T) {
	met := map[string]bool{}
	for _, f := range unimodalMaps() {
		before := ""
		for n := 1; n <= impl.MaxKneading; n++ {
			word, ok := impl.KneadingOf(f, n)
			if !ok {
				break
			}
			if len(word) != n || !strings.HasPrefix(word, before) || !impl.IsKneadingWord(word) {
				t.Fatalf("KneadingOf(%v, %d) is %q, behind %q", f, n, word, before)
			}
			if is, ok := impl.IsMaximalWord(word); !is || !ok {
				t.Errorf("IsMaximalWord(%q) is %v, %v, but it is a kneading sequence of %v", word, is, ok, f)
			}
			met[word] = true
			before = word
		}
	}
	if len(met) < 400 {
		t.Error("only", len(met), "words")
	}
}

// A higher tent has no less kneading sequence.
func TestHigherTentsHaveGreaterKneading(t *testing.T) {
	for n := 1; n <= 8; n++ {
		before := strings.Repeat("L", n)
		for k := 1; k <= 100; k++ {
			height, _ := impl.MakeRat(k, 100)
			f, ok := impl.TentOf(height)
			if !ok {
				t.Fatal("no tent with the height", height)
			}
			word, ok := impl.KneadingOf(f, n)
			if !ok {
				continue
			}
			if order, ok := impl.CompareKneading(before, word); order > 0 || !ok {
				t.Errorf("the tent with the height %v has %q, which is less than %q", height, word, before)
			}
			before = word
		}
		if want := "RLLLLLLL"[:n]; before != want {
			t.Errorf("the greatest kneading sequence is %q, not %q", before, want)
		}
	}
}

func TestTentOf(t *testing.T) {
	for _, a := range append(units(), validRats()...) {
		want := pts(0, 1, 0, 1, 1, 2, a.Num, a.Den, 1, 1, 0, 1)
		wantOK := a.Num > 0 && a.Num <= a.Den && a.Den <= impl.MaxCoord
		if !wantOK {
			want = nil
		}
		if f, ok := impl.TentOf(a); !slices.Equal(f, want) || ok != wantOK {
			t.Errorf("TentOf(%v) is %v, %v", a, f, ok)
		}
	}
	made := 0
	for den := 1; den <= 101; den++ {
		for num := -1; num <= den+1; num++ {
			a := rat(num, den)
			wantOK := num > 0 && num <= den && den <= 100 && new(big.Int).GCD(nil, nil, big.NewInt(int64(num)), big.NewInt(int64(den))).Int64() == 1
			f, ok := impl.TentOf(a)
			if ok != wantOK || ok != impl.IsMap(f) || ok && f[1] != (impl.Point{X: rat(1, 2), Y: a}) {
				t.Errorf("TentOf(%v) is %v, %v", a, f, ok)
			}
			if ok {
				made++
			}
		}
	}
	if made != 3044 {
		t.Error(made, "heights")
	}
	for _, a := range append(invalidUnits(), rat(0, 1), rat(0, 2), rat(1, 101), rat(100, 101), rat(101, 100), rat(2, 1), rat(2, 4), rat(100, 100), rat(1, most)) {
		if f, ok := impl.TentOf(a); len(f) != 0 || ok {
			t.Errorf("TentOf(%v) is %v, %v", a, f, ok)
		}
	}
}

func TestIsKneadingWord(t *testing.T) {
	words := longWords()
	for n := 1; n <= 5; n++ {
		words = append(words, kneadingWords(n)...)
	}
	for _, s := range words {
		if !impl.IsKneadingWord(s) {
			t.Errorf("IsKneadingWord(%q) is false", s)
		}
	}
	for _, s := range noKneadingWords() {
		if impl.IsKneadingWord(s) {
			t.Errorf("IsKneadingWord(%q) is true", s[:min(len(s), 33)])
		}
	}
}

func TestCompareKneading(t *testing.T) {
	cases := []struct {
		s, t string
		want int
	}{
		{"L", "C", -1}, {"C", "R", -1}, {"L", "R", -1}, {"R", "L", 1}, {"R", "C", 1}, {"C", "L", 1},
		{"L", "L", 0}, {"C", "C", 0}, {"R", "R", 0},
		{"RL", "RR", 1}, {"RL", "RC", 1}, {"RC", "RR", 1}, {"RR", "RL", -1}, // behind an odd number of R
		{"LL", "LR", -1}, {"CL", "CR", -1}, {"RRL", "RRR", -1}, {"RLRL", "RLRR", -1}, {"RLLL", "RLLR", 1}, {"RCL", "RCC", 1},
		{"LR", "RL", -1}, {"RLRC", "RLLC", -1}, {"RLLC", "RLRC", 1}, {"RLLC", "RLLC", 0}, {"LRRR", "CLLL", -1},
		{"RRRR", "RRRL", -1}, {"RRRC", "RRRL", -1},
		{strings.Repeat("R", 29) + "L", strings.Repeat("R", 30), 1},
		{strings.Repeat("R", 28) + "LL", strings.Repeat("R", 28) + "RL", -1},
		{strings.Repeat("L", 29) + "C", strings.Repeat("L", 29) + "R", -1},
		{strings.Repeat("C", 30), strings.Repeat("C", 30), 0},
	}
	for _, c := range cases {
		if order, ok := impl.CompareKneading(c.s, c.t); order != c.want || !ok {
			t.Errorf("CompareKneading(%q, %q) is %d, %v, not %d", c.s, c.t, order, ok, c.want)
		}
	}
	var words []string
	for n := 1; n <= 4; n++ {
		words = append(words, kneadingWords(n)...)
	}
	words = append(words, longWords()...)
	for _, a := range words {
		for _, b := range words {
			wantOK := len(a) == len(b)
			want := 0
			if wantOK {
				want = wantedKneadingOrder(a, b)
			}
			if order, ok := impl.CompareKneading(a, b); order != want || ok != wantOK {
				t.Fatalf("CompareKneading(%q, %q) is %d, %v, not %d, %v", a, b, order, ok, want, wantOK)
			}
		}
	}
}

func TestIsMaximalWord(t *testing.T) {
	cases := []struct {
		s  string
		is bool
	}{
		{"L", true}, {"C", true}, {"R", true},
		{"LL", true}, {"LC", false}, {"LR", false}, {"CL", true}, {"CC", true}, {"CR", false}, {"RL", true}, {"RC", true}, {"RR", true},
		{"RLLC", true}, {"RLRC", true}, {"RRRC", false}, {"RRL", false}, {"RRR", true}, {"RLR", true}, {"RLC", true}, {"RRC", false},
		{"RLRRRC", true}, {"RLRRRL", true}, {"RLLRLC", true}, {"RLLRLLL", false}, {"RLLRLLR", true}, {"RLLRLLC", false},
		{strings.Repeat("R", 30), true}, {strings.Repeat("L", 30), true}, {strings.Repeat("L", 29) + "R", false}, {"R" + strings.Repeat("L", 29), true},
		{strings.Repeat("RLC", 10), true}, {strings.Repeat("RL", 15), true}, {strings.Repeat("R", 29) + "L", false},
	}
	for _, c := range cases {
		if is, ok := impl.IsMaximalWord(c.s); is != c.is || !ok {
			t.Errorf("IsMaximalWord(%q) is %v, %v", c.s, is, ok)
		}
	}
	words := longWords()
	for n := 1; n <= 8; n++ {
		words = append(words, kneadingWords(n)...)
	}
	met := 0
	for _, s := range words {
		want := wantedMaximal(s)
		if want {
			met++
		}
		if is, ok := impl.IsMaximalWord(s); is != want || !ok {
			t.Fatalf("IsMaximalWord(%q) is %v, %v", s, is, ok)
		}
	}
	if met < 300 {
		t.Error("only", met, "maximal words")
	}
}

func TestMaximalWords(t *testing.T) {
	first := [][]string{1: {"C"}, 2: {"RC"}, 3: {"RLC"}, 4: {"RLRC", "RLLC"}, 5: {"RLRRC", "RLLRC", "RLLLC"}}
	counts := []int{1: 1, 2: 1, 3: 1, 4: 2, 5: 3, 6: 5, 7: 9, 8: 16}
	for n := 1; n <= 8; n++ {
		var want []string
		for _, word := range kneadingWords(n) {
			if strings.Index(word, "C") == n-1 && wantedMaximal(word) {
				want = append(want, word)
			}
		}
		slices.SortFunc(want, wantedKneadingOrder)
		list, ok := impl.MaximalWords(n)
		if !slices.Equal(list, want) || !ok || len(list) != counts[n] {
			t.Errorf("MaximalWords(%d) is %v, %v, not %v", n, list, ok, want)
		}
		if n < len(first) && !slices.Equal(list, first[n]) {
			t.Errorf("MaximalWords(%d) is %v", n, list)
		}
		for i := range list[1:] {
			if order, ok := impl.CompareKneading(list[i], list[i+1]); order != -1 || !ok {
				t.Errorf("%q comes before %q, but CompareKneading is %d, %v", list[i], list[i+1], order, ok)
			}
		}
	}
	for _, n := range []int{0, -1, -8, 9, 10, 30, 31, 1 << 32, 1<<32 + 1, smallest(), -1 - smallest()} {
		if list, ok := impl.MaximalWords(n); len(list) != 0 || ok {
			t.Errorf("MaximalWords(%d) is %v, %v", n, list, ok)
		}
	}
}

func TestStarProduct(t *testing.T) {
	cases := []struct {
		s, t string
		want string // empty if it fails
	}{
		{"R", "RLC", "RLRRRC"}, {"L", "RLC", "LRLLLC"}, {"R", "C", "RC"}, {"R", "L", "RR"}, {"RR", "L", "RRL"}, {"RL", "RC", "RLLRLC"},
		{"RLLRLLRLL", "RLC", "RLLRLLRLLLRLLRLLRLLRRLLRLLRLLC"}, // 9 and 3 letters, an odd number of R
		{"RRLRLRLLL", "CRL", "RRLRLRLLLCRRLRLRLLLRRRLRLRLLLL"}, // an even one
		{"RRRRRRRRR", "LLL", "RRRRRRRRRRRRRRRRRRRRRRRRRRRRRR"},
		{"LLLLLLLLL", "CCC", "LLLLLLLLLCLLLLLLLLLCLLLLLLLLLC"},
		{"RLLRLLRLLR", "R", ""}, {"LLLLLLLLLL", "C", ""}, {"RLLRLLRLLR", "RLC", ""}, // 10 letters
		{"R", "RLLC", ""}, {"L", "CCCC", ""}, {"RLLRLLRLL", "RLLC", ""}, {"R", strings.Repeat("L", 30), ""}, // 4 letters and more
		{"C", "R", ""}, {"RC", "R", ""}, {"CL", "RLC", ""}, {"RLCLR", "L", ""}, {"RLLRLLRLC", "C", ""},
		{"", "R", ""}, {"R", "", ""}, {"", "", ""},
	}
	for _, c := range cases {
		if product, ok := impl.StarProduct(c.s, c.t); product != c.want || ok != (c.want != "") {
			t.Errorf("StarProduct(%q, %q) is %q, %v, not %q", c.s, c.t, product, ok, c.want)
		}
	}
	var short, all []string
	for n := 1; n <= 4; n++ {
		all = append(all, kneadingWords(n)...)
	}
	short = slices.Clone(all)
	for n := 5; n <= 10; n++ {
		for i, word := range kneadingWords(n) {
			if i%17 == 0 || !strings.Contains(word, "C") {
				all = append(all, word)
			}
		}
	}
	made := 0
	for _, s := range append(all, longWords()...) {
		for _, word := range short {
			want := ""
			if len(s) <= 9 && !strings.Contains(s, "C") && len(word) <= 3 {
				want = wantedProduct(s, word)
				made++
			}
			if product, ok := impl.StarProduct(s, word); product != want || ok != (want != "") {
				t.Fatalf("StarProduct(%q, %q) is %q, %v, not %q", s, word, product, ok, want)
			}
		}
	}
	if made < 20000 {
		t.Error("only", made, "products")
	}
}

// A star product is a word with a letter more than its first factor for each letter of the second one; that of maximal words is maximal.
func TestStarProductsHaveTheirLengths(t *testing.T) {
	for n := 2; n <= 8; n++ {
		outer, _ := impl.MaximalWords(n)
		for _, s := range outer {
			s = strings.TrimSuffix(s, "C")
			for _, word := range slices.Concat(kneadingWords(1), kneadingWords(2), kneadingWords(3)) {
				product, ok := impl.StarProduct(s, word)
				if !ok || !impl.IsKneadingWord(product) || len(product) != (len(s)+1)*len(word) || !strings.HasPrefix(product, s) {
					t.Errorf("StarProduct(%q, %q) is %q, %v", s, word, product, ok)
				}
				if word == "C" || word == "RC" || word == "RLC" {
					if is, ok := impl.IsMaximalWord(product); !is || !ok {
						t.Errorf("StarProduct(%q, %q) is %q, which is not maximal", s, word, product)
					}
				}
			}
		}
	}
}

func TestHeightFor(t *testing.T) {
	cases := []struct {
		s      string
		height impl.Rat // 0/0 if there is none
	}{
		{"R", rat(1, 1)}, {"C", impl.Rat{}}, {"L", impl.Rat{}},
		{"RL", rat(1, 1)}, {"RC", impl.Rat{}}, {"RR", impl.Rat{}}, {"CR", impl.Rat{}}, {"LR", impl.Rat{}},
		{"RLL", rat(1, 1)}, {"RLC", rat(4, 5)}, {"RLR", rat(4, 5)}, {"RRR", impl.Rat{}},
		{"RLLL", rat(1, 1)}, {"RLLC", rat(91, 100)}, {"RLRC", impl.Rat{}}, {"RLRR", rat(4, 5)}, {"CCCC", impl.Rat{}},
		{"RLLLL", impl.Rat{}}, {"RLLLC", impl.Rat{}}, {"RRRRR", impl.Rat{}}, // 5 letters
		{strings.Repeat("R", 30), impl.Rat{}}, {strings.Repeat("R", 31), impl.Rat{}}, {"", impl.Rat{}},
	}
	for _, c := range cases {
		if height, ok := impl.HeightFor(c.s); height != c.height || ok != (c.height != impl.Rat{}) {
			t.Errorf("HeightFor(%q) is %v, %v, not %v", c.s, height, ok, c.height)
		}
	}
	heights := map[impl.Rat]bool{}
	for n := 1; n <= 4; n++ {
		for _, s := range kneadingWords(n) {
			want, wantOK := wantedHeight(s)
			heights[want] = true
			if height, ok := impl.HeightFor(s); height != want || ok != wantOK {
				t.Errorf("HeightFor(%q) is %v, %v, not %v, %v", s, height, ok, want, wantOK)
			}
		}
	}
	if len(heights) < 4 {
		t.Error("only", len(heights), "heights")
	}
	for _, s := range append(kneadingWords(5), longWords()...) {
		if height, ok := impl.HeightFor(s); len(s) > 4 && (height != impl.Rat{} || ok) {
			t.Errorf("HeightFor(%q) is %v, %v", s, height, ok)
		}
	}
}

func TestSwapLast(t *testing.T) {
	cases := []struct{ s, want string }{
		{"L", "R"}, {"R", "L"}, {"C", ""}, {"RL", "RR"}, {"RR", "RL"}, {"CL", "CR"}, {"CR", "CL"}, {"RC", ""}, {"LLC", ""}, {"CCL", "CCR"},
		{strings.Repeat("L", 30), strings.Repeat("L", 29) + "R"}, {strings.Repeat("C", 29) + "R", strings.Repeat("C", 29) + "L"},
		{strings.Repeat("R", 29) + "C", ""},
	}
	for _, c := range cases {
		if word, ok := impl.SwapLast(c.s); word != c.want || ok != (c.want != "") {
			t.Errorf("SwapLast(%q) is %q, %v, not %q", c.s, word, ok, c.want)
		}
	}
	for _, s := range append(kneadingWords(4), longWords()...) {
		word, ok := impl.SwapLast(s)
		if last := len(s) - 1; ok != (s[last] != 'C') || ok && (word == s || len(word) != len(s) || word[:last] != s[:last] || !impl.IsKneadingWord(word)) {
			t.Errorf("SwapLast(%q) is %q, %v", s, word, ok)
		}
		if back, backOK := impl.SwapLast(word); ok != backOK || ok && back != s {
			t.Errorf("SwapLast(%q) is %q, %v, not %q", word, back, backOK, s)
		}
	}
}

func TestInvalidMapsHaveNoKneading(t *testing.T) {
	for _, f := range append(invalidMaps(), otherMaps()...) {
		for _, n := range []int{1, 2, 3, 30, 0, -1, 31} {
			if word, ok := impl.KneadingOf(f, n); word != "" || ok {
				t.Errorf("KneadingOf(%v, %d) is %q, %v", f[:min(len(f), 13)], n, word, ok)
			}
			if list, ok := impl.TurningValues(f, n); len(list) != 0 || ok {
				t.Errorf("TurningValues(%v, %d) is %v, %v", f[:min(len(f), 13)], n, list, ok)
			}
		}
	}
	for _, f := range [][]impl.Point{tentMap(), pts(0, 1, 0, 1, 1, 2, 1, 2, 1, 1, 0, 1), pts(0, 1, 0, 1, 1, 2, 1, 100, 1, 1, 0, 1)} {
		for _, n := range []int{0, -1, -2, -30, 31, 32, 60, 61, 1 << 32, 1<<32 + 3, smallest(), smallest() + 1, -1 - smallest()} {
			if word, ok := impl.KneadingOf(f, n); word != "" || ok {
				t.Errorf("KneadingOf(%v, %d) is %q, %v", f, n, word, ok)
			}
			if list, ok := impl.TurningValues(f, n); len(list) != 0 || ok {
				t.Errorf("TurningValues(%v, %d) is %v, %v", f, n, list, ok)
			}
		}
	}
}

func TestInvalidTextsAreNoWords(t *testing.T) {
	for _, bad := range noKneadingWords() {
		short := bad[:min(len(bad), 33)]
		same := strings.Repeat("R", len(short))
		for _, other := range []string{bad, same, "", "R", "RL", "RLC"} {
			if order, ok := impl.CompareKneading(bad, other); order != 0 || ok {
				t.Errorf("CompareKneading(%q, %q) is %d, %v", short, other, order, ok)
			}
			if order, ok := impl.CompareKneading(other, bad); order != 0 || ok {
				t.Errorf("CompareKneading(%q, %q) is %d, %v", other, short, order, ok)
			}
			if product, ok := impl.StarProduct(bad, other); product != "" || ok {
				t.Errorf("StarProduct(%q, %q) is %q, %v", short, other, product, ok)
			}
			if product, ok := impl.StarProduct(other, bad); product != "" || ok {
				t.Errorf("StarProduct(%q, %q) is %q, %v", other, short, product, ok)
			}
		}
		if is, ok := impl.IsMaximalWord(bad); is || ok {
			t.Errorf("IsMaximalWord(%q) is %v, %v", short, is, ok)
		}
		if height, ok := impl.HeightFor(bad); height != (impl.Rat{}) || ok {
			t.Errorf("HeightFor(%q) is %v, %v", short, height, ok)
		}
		if word, ok := impl.SwapLast(bad); word != "" || ok {
			t.Errorf("SwapLast(%q) is %q, %v", short, word, ok)
		}
	}
}

// No function of kneading sequences writes to its arguments or behind them, and no result is kept for another call.
func TestKneadingLeavesArgumentsAsTheyAre(t *testing.T) {
	for _, f := range slices.Concat(unimodalMaps(), otherMaps(), invalidMaps()) {
		given := spare(f)
		for _, n := range []int{-1, 0, 1, 5, 30, 31} {
			impl.KneadingOf(given, n)
			list, _ := impl.TurningValues(given, n)
			want := slices.Clone(list)
			for i := range list[:cap(list)] {
				list[:cap(list)][i] = rat(77, 78)
			}
			if again, _ := impl.TurningValues(given, n); !slices.Equal(again, want) {
				t.Fatalf("TurningValues(%v, %d) is first %v, then %v", f, n, want, again)
			}
		}
		impl.IsUnimodal(given)
		impl.IsStrict(given)
		if !sameWithSpare(given, f) {
			t.Errorf("%v has become %v", f[:min(len(f), 13)], given[:min(len(f), 13)])
		}
	}
	first, _ := impl.TentOf(rat(1, 1))
	for i := range first {
		first[i] = impl.Point{}
	}
	if second, ok := impl.TentOf(rat(1, 1)); !ok || !slices.Equal(second, tentMap()) {
		t.Error("the second tent is", second, ok)
	}
	words, _ := impl.MaximalWords(4)
	for i := range words[:cap(words)] {
		words[:cap(words)][i] = "x"
	}
	if again, ok := impl.MaximalWords(4); !ok || !slices.Equal(again, []string{"RLRC", "RLLC"}) {
		t.Error("the second list is", again, ok)
	}
}
