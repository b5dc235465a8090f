package tests

import (
	"slices"
	"testing"

	"loop.example/g01003/impl"
)

func TestStrictAndUnimodalMaps(t *testing.T) {
	cases := []struct {
		f        []impl.Point
		strict   bool
		unimodal bool
	}{
		{tentMap(), true, true},
		{pts(0, 1, 0, 1, 1, 2, 1, 100, 1, 1, 0, 1), true, true},
		{pts(0, 1, 1, 2, 1, 4, 1, 1, 1, 2, 1, 2, 1, 1, 0, 1), true, true},
		{pts(0, 1, 98, 99, 99, 100, 1, 1, 1, 1, 0, 1), true, true},
		{pts(0, 1, 0, 1, 1, 1, 1, 1), true, false}, // no turn
		{pts(0, 1, 1, 1, 1, 1, 0, 1), true, false},
		{pts(0, 1, 0, 1, 1, 4, 1, 2, 1, 1, 1, 1), true, false},
		{pts(0, 1, 1, 1, 1, 2, 0, 1, 1, 1, 1, 1), true, false}, // falls first
		{pts(0, 1, 0, 1, 1, 3, 1, 1, 2, 3, 0, 1, 1, 1, 1, 1), true, false},
		{zigzagMap(), true, false},
		{pts(0, 1, 0, 1, 1, 1, 0, 1), false, false}, // a slope 0
		{pts(0, 1, 0, 1, 1, 2, 1, 1, 1, 1, 1, 1), false, false},
		{pts(0, 1, 0, 1, 1, 2, 0, 1, 1, 1, 1, 1), false, false},
		{pts(0, 1, 0, 1, 1, 3, 1, 1, 2, 3, 1, 1, 1, 1, 0, 1), false, false},
	}
	for _, f := range slices.Concat(unimodalMaps(), otherMaps(), lapMaps()) {
		cases = append(cases, struct {
			f        []impl.Point
			strict   bool
			unimodal bool
		}{f, wantedLapMap(f), wantedUnimodal(f)})
	}
	for _, c := range cases {
		if is, ok := impl.IsStrict(c.f); is != c.strict || !ok {
			t.Errorf("IsStrict(%v) is %v, %v", c.f, is, ok)
		}
		if is, ok := impl.IsUnimodal(c.f); is != c.unimodal || ok != c.strict {
			t.Errorf("IsUnimodal(%v) is %v, %v", c.f, is, ok)
		}
	}
	for _, f := range invalidMaps() {
		if is, ok := impl.IsStrict(f); is || ok {
			t.Errorf("IsStrict(%v) is %v, %v", f[:min(len(f), 13)], is, ok)
		}
		if is, ok := impl.IsUnimodal(f); is || ok {
			t.Errorf("IsUnimodal(%v) is %v, %v", f[:min(len(f), 13)], is, ok)
		}
	}
}
