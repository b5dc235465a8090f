package tests

import (
	"math"
	"slices"

	"loop.example/g01003/impl"
)

// The order of Sharkovsky as the document lists it, row by row, and what follows from it, without any comparison of two periods.

// listedPeriods returns the periods up to a greatest one in the order of Sharkovsky.
func listedPeriods(greatest int) []int {
	var list []int
	for power := 1; power <= greatest; power *= 2 {
		for odd := 3; odd*power <= greatest; odd += 2 {
			list = append(list, odd*power)
		}
	}
	var powers []int
	for power := 1; power <= greatest; power *= 2 {
		powers = append(powers, power)
	}
	slices.Reverse(powers)
	return append(list, powers...)
}

// placesOfPeriods returns how many periods up to a greatest one come before each of them. The place of 0 is no place.
func placesOfPeriods(greatest int) []int {
	places := make([]int, greatest+1)
	for i, n := range listedPeriods(greatest) {
		places[n] = i
	}
	return places
}

// wantedForced returns all periods up to a greatest one that n forces.
func wantedForced(places []int, n int, greatest int) []int {
	var list []int
	for k := 1; k <= greatest; k++ {
		if places[k] >= places[n] {
			list = append(list, k)
		}
	}
	return list
}

// notablePeriods returns small periods, powers of two, periods next to them, rows of odd numbers times a power, and those near MaxPeriod, each once.
func notablePeriods() []int {
	var list []int
	for n := 1; n <= 40; n++ {
		list = append(list, n, impl.MaxPeriod+1-n)
	}
	for power := 1; power <= impl.MaxPeriod; power *= 2 {
		lastOdd := (impl.MaxPeriod/power - 1) | 1
		for _, n := range []int{power, power - 1, power + 1, 3 * power, 5 * power, 7 * power, lastOdd * power, (lastOdd - 2) * power} {
			if n >= 1 && n <= impl.MaxPeriod {
				list = append(list, n)
			}
		}
	}
	list = append(list, 199, 200, 201, 192, 999872, 15625, 15623)
	slices.Sort(list)
	return slices.Compact(list)
}

// noPeriods returns numbers that are no periods.
func noPeriods() []int {
	return []int{
		0, -1, -2, -3, -4, -200, -1000000, impl.MaxPeriod + 1, impl.MaxPeriod + 2, 1 << 20, 1 << 32, 1<<32 + 1, 1<<32 + 6,
		math.MaxInt, math.MaxInt - 1, math.MaxInt / 2, 1 << 62, math.MinInt, math.MinInt + 1, math.MinInt + 6,
	}
}

// noMosts returns numbers that are no greatest periods of those told.
func noMosts() []int {
	return []int{0, -1, -10, -200, 201, 202, 256, 1000, impl.MaxPeriod, 1<<32 + 1, 1<<32 + 10, math.MaxInt, math.MinInt, math.MinInt + 1}
}

// countUp returns first, ..., last.
func countUp(first int, last int) []int {
	var list []int
	for n := first; n <= last; n++ {
		list = append(list, n)
	}
	return list
}
