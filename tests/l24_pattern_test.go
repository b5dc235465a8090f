package tests

import (
	"math"
	"math/rand"
	"slices"
	"testing"

	"loop.example/g01003/impl"
)

func TestPatternOfValues(t *testing.T) {
	if impl.MaxPattern != 9 {
		t.Error("MaxPattern is", impl.MaxPattern)
	}
	cases := []struct {
		values []int
		want   []int
		ok     bool
	}{
		{[]int{5}, []int{0}, true},
		{[]int{0}, []int{0}, true},
		{[]int{1000000}, []int{0}, true},
		{[]int{0, 1000000}, []int{1, 0}, true},
		{[]int{1000000, 0}, []int{1, 0}, true},
		{[]int{2, 4, 6}, []int{1, 2, 0}, true},
		{[]int{6, 2, 4}, []int{1, 2, 0}, true},
		{[]int{6, 4, 2}, []int{2, 0, 1}, true},
		{[]int{10, 30, 20, 40}, []int{2, 3, 1, 0}, true},
		{[]int{1, 2, 3, 4, 5, 6, 7, 8, 9}, []int{1, 2, 3, 4, 5, 6, 7, 8, 0}, true},
		{[]int{9, 8, 7, 6, 5, 4, 3, 2, 1}, []int{8, 0, 1, 2, 3, 4, 5, 6, 7}, true},
		{nil, nil, false},
		{[]int{}, nil, false},
		{[]int{1, 2, 3, 4, 5, 6, 7, 8, 9, 10}, nil, false},
		{make([]int, 100000), nil, false},
		{[]int{3, 3}, nil, false},
		{[]int{3, 5, 3}, nil, false},
		{[]int{1, 2, 3, 4, 5, 6, 7, 8, 1}, nil, false},
		{[]int{-1}, nil, false},
		{[]int{1000001}, nil, false},
		{[]int{4, -1, 5}, nil, false},
		{[]int{4, 5, 1000001}, nil, false},
		{[]int{math.MinInt, 5}, nil, false},
		{[]int{5, math.MaxInt}, nil, false},
	}
	for _, c := range cases {
		if l, ok := impl.PatternOfValues(c.values); ok != c.ok || !slices.Equal(l, c.want) {
			t.Errorf("PatternOfValues(%v) is %v, %v, not %v, %v", c.values[:min(len(c.values), 12)], l, ok, c.want, c.ok)
		}
	}
}

// The value with i less ones goes to the next one, and the last one to the first one.
func TestPatternsOfMixedValues(t *testing.T) {
	r := rand.New(rand.NewSource(24))
	for k := range 3000 {
		values := r.Perm(1 + k%impl.MaxPattern)
		scale := []int{1, 7, 1000000 / len(values)}[k%3]
		for i := range values {
			values[i] *= scale
		}
		given := append(slices.Clone(values), -7, -8)[:len(values)]
		l, ok := impl.PatternOfValues(given)
		if !ok || len(l) != len(values) {
			t.Fatalf("PatternOfValues(%v) is %v, %v", values, l, ok)
		}
		for i, value := range values {
			if next := values[(i+1)%len(values)]; l[value/scale] != next/scale {
				t.Fatalf("PatternOfValues(%v) is %v", values, l)
			}
		}
		for i := range l[:cap(l)] {
			l[:cap(l)][i] = -1
		}
		if behind := given[:len(values)+2]; !slices.Equal(given, values) || behind[len(values)] != -7 || behind[len(values)+1] != -8 {
			t.Fatalf("%v has become %v", values, given)
		}
	}
}
