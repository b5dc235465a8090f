package tests

import (
	"fmt"
	"math/big"
	"slices"
	"testing"

	"loop.example/g01003/impl"
)

// periodicResults are the results of all functions of a number of steps.
type periodicResults struct {
	points    []impl.Rat
	pointsOK  bool
	is        bool
	isOK      bool
	least     []impl.Rat
	leastOK   bool
	cycles    [][]impl.Rat
	cyclesOK  bool
	periods   []int
	periodsOK bool
	count     int
	countOK   bool
}

func callPeriodic(f []impl.Point, n int) periodicResults {
	var r periodicResults
	r.points, r.pointsOK = impl.PeriodicPoints(f, n)
	r.is, r.isOK = impl.HasIdentity(f, n)
	r.least, r.leastOK = impl.LeastPeriodPoints(f, n)
	r.cycles, r.cyclesOK = impl.CyclesOf(f, n)
	r.periods, r.periodsOK = impl.PeriodsUpTo(f, n)
	r.count, r.countOK = impl.CountPeriodic(f, n)
	return r
}

func wantedResults(f []impl.Point, n int) periodicResults {
	var r periodicResults
	r.points, r.pointsOK = wantedPeriodic(f, n)
	r.is, r.isOK = wantedIdentity(f, n)
	r.least, r.leastOK = wantedLeast(f, n)
	r.cycles, r.cyclesOK = wantedCycles(f, n)
	r.periods, r.periodsOK = wantedPeriods(f, n)
	r.count, r.countOK = len(r.points), r.pointsOK
	return r
}

// sameResults takes a nil slice and an empty one for the same value.
func sameResults(a, b periodicResults) bool {
	return fmt.Sprint(a) == fmt.Sprint(b)
}

func TestPeriodicLimits(t *testing.T) {
	if impl.MaxRepeat != 8 || impl.MaxFound != 120 {
		t.Error(impl.MaxRepeat, impl.MaxFound)
	}
}

func TestPeriodicPointsAreAsWanted(t *testing.T) {
	made, identities, tooMany, failed, late := 0, 0, 0, 0, 0
	for _, f := range periodicMaps() {
		for n := 1; n <= 4 && fewWords(f, n); n++ {
			got, want := callPeriodic(f, n), wantedResults(f, n)
			if !sameResults(got, want) {
				t.Fatalf("%s, %d steps: %+v, not %+v", text(f), n, got, want)
			}
			exact, isPiece := exactReturns(f, n)
			switch {
			case got.pointsOK:
				made++
			case got.is:
				identities++
			case len(exact) > impl.MaxFound:
				tooMany++
			case !got.isOK:
				failed++
			default: // 1 - m, b / (1 - m) or a value
				late++
			}
			if got.isOK && got.is != isPiece {
				t.Fatalf("HasIdentity(%v, %d) is %v", f, n, got.is)
			}
			if got.pointsOK && !slices.EqualFunc(got.points, exact, func(x impl.Rat, y *big.Rat) bool { return bigOf(x).Cmp(y) == 0 }) {
				t.Fatalf("PeriodicPoints(%v, %d) is %v, not %v", f, n, got.points, exact)
			}
		}
	}
	if made < 500 || identities < 100 || tooMany < 1 || failed < 30 || late < 10 {
		t.Error(made, "lists,", identities, "identities,", tooMany, "lists too long,", failed, "words too large,", late, "points too large: all are to be tested")
	}
}

func TestWordsOfPiecesAreAsWanted(t *testing.T) {
	made, solved, failed := 0, 0, 0
	for i, f := range periodicMaps() {
		for _, word := range somePieceWords(f, i) {
			exactM, exactB, ok := wantedLine(f, word)
			var wantM, wantB impl.Rat
			if ok {
				wantM, _ = fractionOf(exactM)
				wantB, _ = fractionOf(exactB)
			}
			m, b, gotOK := impl.LineOfWord(f, word)
			if m != wantM || b != wantB || gotOK != ok {
				t.Fatalf("LineOfWord(%v, %v) is %v, %v, %v, not %v, %v, %v", f, word, m, b, gotOK, wantM, wantB, ok)
			}
			if m, gotOK := impl.WordMultiplier(f, word); m != wantM || gotOK != ok {
				t.Fatalf("WordMultiplier(%v, %v) is %v, %v, not %v, %v", f, word, m, gotOK, wantM, ok)
			}
			want, wantOK := wantedSolved(f, word)
			if x, gotOK := impl.SolveWord(f, word); x != want || gotOK != wantOK {
				t.Fatalf("SolveWord(%v, %v) is %v, %v, not %v, %v", f, word, x, gotOK, want, wantOK)
			}
			if !ok {
				failed++
				continue
			}
			made++
			if wantOK {
				solved++
			}
		}
	}
	if made < 1000 || solved < 1000 || failed < 1000 {
		t.Error(made, "lines,", solved, "of them solved, and", failed, "too large: all are to be tested")
	}
}

// mapOf returns the map with a text, or no map, for which no test passes.
func mapOf(s string) []impl.Point {
	f, _ := impl.ParseMap(s)
	return f
}

const (
	tentText  = "0/1 0/1;1/2 1/1;1/1 0/1;"
	flipText  = "0/1 1/1;1/1 0/1;"
	sameText  = "0/1 0/1;1/1 1/1;"
	flatText  = "0/1 1/3;1/2 1/3;1/1 1/1;"
	shiftText = "0/1 1/2;1/2 1/1;1/1 0/1;"                 // its first line is x + 1/2
	meetText  = "0/1 1/4;1/2 1/2;1/1 0/1;"                 // both pieces lead 1/2, which they share, to itself
	tensText  = "0/1 0/1;1/100 1/1;11/100 0/1;1/1 0/1;"    // its slopes are 100, -10 and 0
	awayText  = "0/1 0/1;1/83 52/97;2/49 1/83;1/1 1/1;"    // its fixed point within has a value that is too large
	lastText  = "0/1 2/3;9/49 1/37;1/1 4/5;"               // the value behind the last step of 0, 1 is too large
	thirdText = "0/1 1/2;1/8 2/67;1/1 1/1;"                // that of 0, 0, 1
	innerText = "0/1 1/5;8/9 5/7;1/1 2/5;"                 // and that behind the last but one of 0, 1, 0
	loneText  = "0/1 2/3;1/62 6/7;1/1 3/4;"                // b of 1, 1, 1 is too large, m is not
	touchText = "0/1 1/2;1/4 3/4;1/2 1/3;3/4 1/4;1/1 1/2;" // of 0, 3 the line is the identity, and 1/4 alone follows it
	besideOne = "0/1 2/89;2/89 2/97;1/1 2/89;"             // of 1, 1, which one fraction follows, the line is too large
	besideAll = "0/1 2/95;2/97 7/8;1/1 1/1;"               // of 0, 0, which none follows
	restText  = "0/1 8/9;1/1 2/95;"                        // of 0, 0, 0 the part 1 - m is too large
	pointText = "0/1 1/81;1/62 1/1;1/1 1/4;"               // of 0, 0, 1 the part b / (1 - m)
	midText   = "0/1 8/9;8/9 1/91;1/1 1/1;"                // the fraction with x = m x + b for 1, 0 is not in its first piece, and its value is too large
	lateText  = "0/1 0/1;2/83 2/83;1/1 2/25;"              // of 0, 0, 0 the line is the identity, and that of 1, 1, 1 is too large
	smallText = "0/1 0/1;2/79 1/97;1/1 1/1;"               // of 1, 1, 0, an end that is taken back is too large
	lowerText = "0/1 0/1;1/2 2/3;1/1 0/1;"
	fullText  = "0/1 0/1;1/4 3/4;1/2 0/1;3/4 1/1;1/1 1/4;"                        // 120 fractions are met again behind 4 steps
	wavesText = "0/1 0/1;3/17 7/17;4/17 0/1;5/17 1/1;9/17 0/1;14/17 1/1;1/1 0/1;" // and behind 3 steps
)

func TestLineOfWord(t *testing.T) {
	eight := slices.Repeat([]int{1}, impl.MaxRepeat)
	cases := []struct {
		f    string
		word []int
		m, b impl.Rat
		ok   bool
	}{
		{tentText, []int{0}, rat(2, 1), rat(0, 1), true},
		{tentText, []int{1}, rat(-2, 1), rat(2, 1), true},
		{tentText, []int{0, 1}, rat(-4, 1), rat(2, 1), true}, // from the first piece on
		{tentText, []int{1, 0}, rat(-4, 1), rat(4, 1), true},
		{tentText, eight, rat(256, 1), rat(-170, 1), true},
		{tentText, append(slices.Clone(eight), 1), impl.Rat{}, impl.Rat{}, false},
		{tentText, nil, impl.Rat{}, impl.Rat{}, false},
		{tentText, []int{}, impl.Rat{}, impl.Rat{}, false},
		{tentText, []int{2}, impl.Rat{}, impl.Rat{}, false},
		{tentText, []int{0, -1}, impl.Rat{}, impl.Rat{}, false},
		{sameText, make([]int, 8), rat(1, 1), rat(0, 1), true}, // m = 1 and b = 0
		{flipText, []int{0, 0}, rat(1, 1), rat(0, 1), true},
		{shiftText, []int{0}, rat(1, 1), rat(1, 2), true}, // m = 1 and another b
		{shiftText, []int{0, 0, 0}, rat(1, 1), rat(3, 2), true},
		{flatText, []int{0}, rat(0, 1), rat(1, 3), true},
		{flatText, []int{0, 1}, rat(0, 1), rat(1, 9), true}, // the line of the second piece, though it has not 1/3
		{flatText, []int{1, 0}, rat(0, 1), rat(1, 3), true},
		{flatText, []int{1, 1}, rat(16, 9), rat(-7, 9), true},
		{tensText, []int{0, 0, 0, 0, 1}, rat(-most, 1), rat(11, 10), true}, // the greatest size
		{tensText, []int{1, 0, 0, 0, 0}, rat(-most, 1), rat(110000000, 1), true},
		{tensText, []int{0, 0, 0, 0, 1, 2}, rat(0, 1), rat(0, 1), true},
		{tensText, []int{0, 0, 0, 0, 0}, impl.Rat{}, impl.Rat{}, false},
		{tensText, []int{0, 0, 0, 0, 0, 2}, impl.Rat{}, impl.Rat{}, false}, // m is too large on the way
		{loneText, []int{1, 1, 1}, impl.Rat{}, impl.Rat{}, false},          // b is too large
	}
	for _, c := range cases {
		f := mapOf(c.f)
		if m, b, ok := impl.LineOfWord(f, c.word); m != c.m || b != c.b || ok != c.ok {
			t.Errorf("LineOfWord(%s, %v) is %v, %v, %v, not %v, %v, %v", c.f, c.word, m, b, ok, c.m, c.b, c.ok)
		}
		if m, ok := impl.WordMultiplier(f, c.word); m != c.m || ok != c.ok {
			t.Errorf("WordMultiplier(%s, %v) is %v, %v, not %v, %v", c.f, c.word, m, ok, c.m, c.ok)
		}
	}
}

func TestSolveWord(t *testing.T) {
	none := impl.Rat{}
	cases := []struct {
		f    string
		word []int
		want impl.Rat
	}{
		{tentText, []int{0}, rat(0, 1)},
		{tentText, []int{1}, rat(2, 3)},
		{tentText, []int{0, 1}, rat(2, 5)},
		{tentText, []int{1, 0}, rat(4, 5)},
		{tentText, []int{1, 1}, rat(2, 3)}, // met again behind fewer steps too
		{tentText, []int{0, 0, 0, 0, 0, 0, 0, 1}, rat(2, 257)},
		{tentText, slices.Repeat([]int{1}, 8), rat(2, 3)},
		{tentText, slices.Repeat([]int{1}, 9), none},
		{tentText, nil, none},
		{tentText, []int{}, none},
		{tentText, []int{2}, none},
		{tentText, []int{1, -1}, none},
		{meetText, []int{0}, rat(1, 2)}, // at the end of a piece
		{meetText, []int{1}, rat(1, 2)}, // at its beginning
		{meetText, []int{0, 1}, rat(1, 2)},
		{meetText, []int{1, 0, 0}, rat(1, 2)},
		{meetText, []int{1, 1}, none}, // m is 1, and b is 0
		{shiftText, []int{0}, none},   // m is 1, and b is not 0
		{shiftText, []int{1}, rat(2, 3)},
		{sameText, []int{0}, none},
		{flatText, []int{0}, rat(1, 3)},
		{flatText, []int{1}, rat(1, 1)},
		{flatText, []int{0, 0, 0}, rat(1, 3)},
		{flatText, []int{1, 0}, none}, // 1/3 is not in the second piece
		{flatText, []int{0, 1}, none},
		{"0/1 1/2;1/2 3/4;1/1 0/1;", []int{0}, none},         // 1 is outside of the piece
		{"0/1 1/2;1/2 7/8;1/1 0/1;", []int{0}, none},         // 2 is no fraction from 0 to 1
		{"0/1 1/4;1/2 1/1;1/1 0/1;", []int{0}, none},         // -1/2
		{"0/1 0/1;1/2 1/2;1/1 0/1;", []int{1, 0}, rat(1, 2)}, // one that all fractions of a piece are met again with
		{touchText, []int{0, 3}, none},
		{touchText, []int{1, 2}, rat(1, 4)},
		{tensText, []int{0, 0, 0, 0, 1}, none},    // 1 - m is too large
		{tensText, []int{0, 0, 0, 0, 1, 2}, none}, // 0 is in all pieces but the last two
		{tensText, []int{2, 0, 0}, none},          // and not in the first one
		{tensText, []int{0, 0, 0}, rat(0, 1)},
		{loneText, []int{1, 1, 1}, none},
		{awayText, []int{1}, rat(711703, 18100640)},
		{lastText, []int{0, 1}, rat(3580749, 31769953)},
		{lastText, []int{1, 0}, none},
		{thirdText, []int{0, 0, 1}, rat(3451639, 30916739)},
		{innerText, []int{0, 1, 0}, none},
		{restText, []int{0, 0, 0}, none},
		{pointText, []int{0, 0, 1}, none},
		{midText, []int{1, 0}, none},
	}
	for _, c := range cases {
		if x, ok := impl.SolveWord(mapOf(c.f), c.word); x != c.want || ok != (c.want != none) {
			t.Errorf("SolveWord(%s, %v) is %v, %v, not %v", c.f, c.word, x, ok, c.want)
		}
	}
}

// Of the fractions solved for words of k pieces, the values of k - 1 steps are needed, and no more.
func TestValuesThatAreNeeded(t *testing.T) {
	cases := []struct {
		f     string
		word  []int
		x     impl.Rat
		steps int // the number of steps whose values can be computed
	}{
		{awayText, []int{1}, rat(711703, 18100640), 0},
		{lastText, []int{0, 1}, rat(3580749, 31769953), 1},
		{thirdText, []int{0, 0, 1}, rat(3451639, 30916739), 2},
		{innerText, []int{0, 1, 0}, rat(1194088, 1335539), 1},
	}
	for _, c := range cases {
		f := mapOf(c.f)
		if steps, ok := impl.StepsInSize(f, c.x, 8); steps != c.steps || !ok {
			t.Errorf("StepsInSize(%s, %v) is %d, %v", c.f, c.x, steps, ok)
		}
		if x, ok := impl.SolveWord(f, c.word); ok != (c.steps >= len(c.word)-1) || ok && x != c.x {
			t.Errorf("SolveWord(%s, %v) is %v, %v", c.f, c.word, x, ok)
		}
	}
	f, x := mapOf(awayText), rat(711703, 18100640)
	want := periodicResults{
		points: []impl.Rat{rat(0, 1), x, rat(1, 1)}, pointsOK: true, isOK: true,
		least: []impl.Rat{rat(0, 1), x, rat(1, 1)}, leastOK: true,
		cycles: [][]impl.Rat{{rat(0, 1)}, {x}, {rat(1, 1)}}, cyclesOK: true,
		periods: []int{1}, periodsOK: true, count: 3, countOK: true,
	}
	if got := callPeriodic(f, 1); !sameResults(got, want) {
		t.Errorf("%s, 1 step: %+v, not %+v", awayText, got, want)
	}
}

func TestPiecesOf(t *testing.T) {
	cases := []struct {
		f    []impl.Point
		x    impl.Rat
		n    int
		want []int
	}{
		{tentMap(), rat(1, 7), 3, []int{0, 0, 1}},
		{tentMap(), rat(1, 7), 1, []int{0}},
		{tentMap(), rat(1, 7), 8, []int{0, 0, 1, 1, 0, 1, 1, 0}},
		{tentMap(), rat(1, 7), 9, nil},
		{tentMap(), rat(1, 7), 0, nil},
		{tentMap(), rat(1, 7), -1, nil},
		{tentMap(), rat(1, 2), 3, []int{0, 1, 0}}, // the first piece that has 1/2
		{tentMap(), rat(1, 4), 2, []int{0, 0}},
		{tentMap(), rat(3, 4), 2, []int{1, 0}},
		{tentMap(), rat(0, 1), 8, make([]int, 8)},
		{tentMap(), rat(1, 1), 2, []int{1, 0}},
		{zigzagMap(), rat(10, 11), 2, []int{9, 0}},
		{zigzagMap(), rat(21, 22), 2, []int{10, 5}},
		{mapOf(flatText), rat(1, 2), 3, []int{0, 0, 0}},
		{pts(0, 1, 0, 1, 1, 4, 1, 4, 1, 2, 1, 2, 1, 1, 1, 1), rat(1, 2), 2, []int{1, 1}}, // one lap, but three pieces
		{growing(), rat(11, most), 1, []int{0}},                                          // its value is too large, but not a part of the list
		{growing(), rat(11, most), 2, nil},
		{tentMap(), rat(-1, 2), 1, nil},
		{tentMap(), rat(3, 2), 1, nil},
		{tentMap(), rat(2, 4), 1, nil},
	}
	for _, c := range cases {
		if word, ok := impl.PiecesOf(c.f, c.x, c.n); !slices.Equal(word, c.want) || ok != (c.want != nil) {
			t.Errorf("PiecesOf(%v, %v, %d) is %v, %v, not %v", c.f, c.x, c.n, word, ok, c.want)
		}
	}
	made, failed := 0, 0
	for i, f := range orbitMaps() {
		for _, x := range orbitStarts(f, i) {
			orbit := slowOrbit(f, x, impl.MaxRepeat-1)
			for n := 1; n <= impl.MaxRepeat; n++ {
				var want []int
				for k := 0; k < n && n <= len(orbit); k++ {
					want = append(want, pieceWith(f, bigOf(orbit[k])))
				}
				if word, ok := impl.PiecesOf(f, x, n); !slices.Equal(word, want) || ok != (want != nil) {
					t.Fatalf("PiecesOf(%v, %v, %d) is %v, %v, not %v", f, x, n, word, ok, want)
				}
				if want != nil {
					made++
				} else {
					failed++
				}
			}
		}
	}
	if made < 5000 || failed < 500 {
		t.Error(made, "lists and", failed, "that are too large: both are to be tested")
	}
}

func TestPeriodicPoints(t *testing.T) {
	cases := []struct {
		f    string
		n    int
		want []impl.Rat // none if the call fails
	}{
		{tentText, 1, []impl.Rat{rat(0, 1), rat(2, 3)}},
		{tentText, 2, []impl.Rat{rat(0, 1), rat(2, 5), rat(2, 3), rat(4, 5)}},
		{tentText, 3, []impl.Rat{rat(0, 1), rat(2, 9), rat(2, 7), rat(4, 9), rat(4, 7), rat(2, 3), rat(6, 7), rat(8, 9)}},
		{tentText, 5, nil},
		{tentText, 0, nil},
		{tentText, -1, nil},
		{flipText, 1, []impl.Rat{rat(1, 2)}},
		{flipText, 2, nil}, // the identity
		{flipText, 3, []impl.Rat{rat(1, 2)}},
		{flipText, 4, nil},
		{sameText, 1, nil},
		{meetText, 1, []impl.Rat{rat(1, 2)}}, // found by two words
		{shiftText, 1, []impl.Rat{rat(2, 3)}},
		{"0/1 1/3;1/1 1/3;", 4, []impl.Rat{rat(1, 3)}}, // one piece with the slope 0, whose value lies within
		{"0/1 1/1;1/1 1/1;", 4, []impl.Rat{rat(1, 1)}}, // and at its ends
		{"0/1 0/1;1/1 0/1;", 2, []impl.Rat{rat(0, 1)}},
		{flatText, 2, []impl.Rat{rat(1, 3), rat(1, 1)}},
		{"0/1 1/1;1/2 1/1;1/1 0/1;", 2, []impl.Rat{rat(0, 1), rat(2, 3), rat(1, 1)}}, // from the slope 0 to the end of the other piece
		{"0/1 2/3;1/3 2/3;2/3 1/3;1/1 1/3;", 2, nil},                                 // between both slopes 0 the identity is followed
		{"0/1 3/4;1/3 3/4;2/3 1/4;1/1 1/4;", 2, []impl.Rat{rat(1, 4), rat(1, 2), rat(3, 4)}},
		{"0/1 1/2;1/4 1/2;1/2 1/4;3/4 1/2;1/1 1/2;", 3, []impl.Rat{rat(3, 8)}}, // a slope 0 whose value two pieces share
		{touchText, 1, []impl.Rat{rat(7, 16)}},
		{touchText, 2, []impl.Rat{rat(1, 4), rat(7, 16), rat(3, 4)}},
		{besideOne, 2, []impl.Rat{rat(194, 9345)}},
		{besideAll, 2, []impl.Rat{rat(1, 1)}},
		{restText, 2, []impl.Rat{rat(760, 1597)}},
		{restText, 3, nil},
		{pointText, 2, []impl.Rat{rat(247, 430)}},
		{pointText, 3, nil},
		{midText, 1, []impl.Rat{rat(5824, 13023), rat(1, 1)}},
		{midText, 2, nil},
		{lastText, 2, nil},
		{lateText, 3, nil},
		{"0/1 1/4;3/8 2/7;1/1 1/9;", 3, []impl.Rat{rat(21, 76)}}, // what is not cut would be too large
	}
	for _, c := range cases {
		if list, ok := impl.PeriodicPoints(mapOf(c.f), c.n); !slices.Equal(list, c.want) || ok != (c.want != nil) {
			t.Errorf("PeriodicPoints(%s, %d) is %v, %v, not %v", c.f, c.n, list, ok, c.want)
		}
		if count, ok := impl.CountPeriodic(mapOf(c.f), c.n); count != len(c.want) || ok != (c.want != nil) {
			t.Errorf("CountPeriodic(%s, %d) is %v, %v, not %v", c.f, c.n, count, ok, len(c.want))
		}
	}
}

// listOf returns the numbers of periodic points of 1, 2, 3 and 4 steps, and -1 where there is no list.
func listOf(f []impl.Point) []int {
	var list []int
	for n := 1; n <= 4; n++ {
		count, ok := impl.CountPeriodic(f, n)
		if !ok {
			count = -1
		}
		list = append(list, count)
	}
	return list
}

func TestNumbersOfPeriodicPoints(t *testing.T) {
	cases := []struct {
		f    string
		want []int
	}{
		{tentText, []int{2, 4, 8, 16}},
		{flipText, []int{1, -1, 1, -1}},
		{sameText, []int{-1, -1, -1, -1}},
		{fullText, []int{4, 12, 37, 120}}, // just as many as are told
		{wavesText, []int{6, 24, 120, -1}},
		{"0/1 1/4;1/5 1/1;3/5 0/1;4/5 4/5;1/1 0/1;", []int{2, 12, 32, 120}}, // some of them are solved for several words
		{"0/1 0/1;1/3 1/1;2/3 0/1;1/1 1/1;", []int{3, 9, 27, 81}},
		{"0/1 0/1;1/4 1/1;1/2 0/1;3/4 1/1;1/1 0/1;", []int{4, 16, 64, -1}}, // 256
	}
	for _, c := range cases {
		if list := listOf(mapOf(c.f)); !slices.Equal(list, c.want) {
			t.Errorf("CountPeriodic(%s) is %v for 1 to 4 steps, not %v", c.f, list, c.want)
		}
	}
	if list := listOf(zigzagMap()); !slices.Equal(list, []int{11, -1, -1, -1}) { // 121, one more than are told
		t.Error("numbers of the zigzag are", list)
	}
	if list := listOf(steepMap()); !slices.Equal(list, []int{10, 100, -1, -1}) {
		t.Error("numbers of the steep map are", list)
	}
	for _, f := range [][]impl.Point{zigzagMap(), mapOf(fullText), mapOf(wavesText), steepMap()} {
		for n := 1; n <= 4; n++ {
			exact, isPiece := exactReturnsOfFew(f, n)
			if is, ok := impl.HasIdentity(f, n); is || isPiece || !ok {
				t.Errorf("HasIdentity(%v, %d) is %v, %v", f, n, is, ok)
			}
			if count, ok := impl.CountPeriodic(f, n); exact != nil && (ok != (len(exact) <= impl.MaxFound) || ok && count != len(exact)) {
				t.Errorf("CountPeriodic(%v, %d) is %d, %v, not %d", f, n, count, ok, len(exact))
			}
		}
	}
}

// exactReturnsOfFew returns nothing where this would take long.
func exactReturnsOfFew(f []impl.Point, n int) ([]*big.Rat, bool) {
	if !fewWords(f, n) {
		return nil, false
	}
	return exactReturns(f, n)
}

func TestHasIdentity(t *testing.T) {
	cases := []struct {
		f  string
		n  int
		is bool
		ok bool
	}{
		{tentText, 1, false, true},
		{tentText, 4, false, true},
		{tentText, 0, false, false},
		{tentText, 5, false, false},
		{flipText, 1, false, true}, // m is -1
		{flipText, 2, true, true},
		{flipText, 3, false, true},
		{flipText, 4, true, true},
		{flipText, 6, false, false},
		{sameText, 1, true, true},
		{sameText, 4, true, true},
		{shiftText, 1, false, true}, // m is 1 and b is not 0
		{shiftText, 2, false, true},
		{meetText, 1, false, true},
		{meetText, 2, false, true}, // 1/2 alone follows the second piece twice
		{flatText, 1, false, true},
		{"0/1 0/1;1/1 0/1;", 1, false, true},              // b is 0 and m is not 1
		{"0/1 0/1;99/100 99/100;1/1 0/1;", 1, true, true}, // one piece of the identity
		{"0/1 2/3;1/3 2/3;2/3 1/3;1/1 1/3;", 2, true, true},
		{"0/1 3/4;1/3 3/4;2/3 1/4;1/1 1/4;", 2, false, true},
		{touchText, 2, false, true},                                    // one fraction follows the word with the identity
		{"0/1 1/2;1/5 7/10;1/2 1/3;4/5 3/10;1/1 1/2;", 2, false, true}, // and none
		{besideOne, 2, false, true},
		{besideAll, 2, false, true},
		{restText, 3, false, true}, // 1 - m is no part of it
		{pointText, 3, false, true},
		{midText, 2, false, true},
		{lateText, 1, true, true},
		{lateText, 2, true, true},
		{lateText, 3, false, false}, // the line of another word is too large
		{smallText, 2, false, true},
		{smallText, 3, false, false}, // an end is too large
	}
	for _, c := range cases {
		f := mapOf(c.f)
		if is, ok := impl.HasIdentity(f, c.n); is != c.is || ok != c.ok {
			t.Errorf("HasIdentity(%s, %d) is %v, %v, not %v, %v", c.f, c.n, is, ok, c.is, c.ok)
		}
		if got := callPeriodic(f, c.n); (c.is || !c.ok) && (got.pointsOK || !sameResults(got, periodicResults{is: c.is, isOK: c.ok})) {
			t.Errorf("%s, %d steps: %+v", c.f, c.n, got)
		}
	}
}

// What is said of the words of some maps above holds: else they would test nothing.
func TestWordsWithFewFollowers(t *testing.T) {
	cases := []struct {
		f    string
		word []int
		want followers
		ok   bool // whether the line has a size
	}{
		{tentText, []int{1, 0}, manyFollowers, true},
		{flatText, []int{0, 0}, manyFollowers, true},
		{flatText, []int{0, 1}, noFollowers, true},
		{"0/1 1/1;1/2 1/1;1/1 0/1;", []int{0, 1}, manyFollowers, true}, // the slope 0 leads to an end
		{touchText, []int{0, 3}, oneFollower, true},
		{besideOne, []int{1, 1}, oneFollower, false},
		{besideAll, []int{0, 0}, noFollowers, false},
		{restText, []int{0, 0, 0}, manyFollowers, true},
		{pointText, []int{0, 0, 1}, manyFollowers, true},
		{midText, []int{1, 0}, manyFollowers, true},
		{lastText, []int{1, 0}, manyFollowers, true},
		{lateText, []int{1, 1, 1}, manyFollowers, false},
		{lateText, []int{0, 0, 0}, manyFollowers, true},
		{smallText, []int{1, 1, 0}, tooLargeFollowers, false},
		{smallText, []int{1, 0, 1}, noFollowers, false},
		{meetText, []int{1, 1}, oneFollower, true},
	}
	for _, c := range cases {
		f := mapOf(c.f)
		_, _, lineOK := impl.LineOfWord(f, c.word)
		if got := wantedFollowers(f, c.word); got != c.want || lineOK != c.ok {
			t.Errorf("the word %v of %s has %v followers, not %v, and a line is %v", c.word, c.f, got, c.want, lineOK)
		}
	}
}

func TestLeastPeriodsAndCycles(t *testing.T) {
	cases := []struct {
		f       string
		n       int
		cycles  string
		periods string
		ok      bool
		allOK   bool
	}{
		{tentText, 1, "[[{0 1}] [{2 3}]]", "[1]", true, true},
		{tentText, 2, "[[{2 5} {4 5}]]", "[1 2]", true, true},
		{tentText, 3, "[[{2 9} {4 9} {8 9}] [{2 7} {4 7} {6 7}]]", "[1 2 3]", true, true},
		{tentText, 4, "[[{2 17} {4 17} {8 17} {16 17}] [{2 15} {4 15} {8 15} {14 15}] [{6 17} {12 17} {10 17} {14 17}]]", "[1 2 3 4]", true, true},
		{tentText, 5, "[]", "[]", false, false},
		{tentText, 0, "[]", "[]", false, false},
		{tentText, -1, "[]", "[]", false, false},
		{flipText, 1, "[[{1 2}]]", "[1]", true, true},
		{flipText, 2, "[]", "[]", false, false},
		{flipText, 3, "[]", "[]", true, false}, // none of them needs 3 steps, and with 2 steps there is the identity
		{flipText, 4, "[]", "[]", false, false},
		{shiftText, 2, "[[{1 3} {5 6}]]", "[1 2]", true, true},
		{shiftText, 3, "[[{0 1} {1 2} {1 1}]]", "[1 2 3]", true, true},
		{shiftText, 4, "[[{2 9} {13 18} {5 9} {8 9}]]", "[1 2 3 4]", true, true},
		{lowerText, 3, "[]", "[1 2]", true, true},
		{lowerText, 4, "[[{156 337} {208 337} {172 337} {220 337}]]", "[1 2 4]", true, true}, // without 3
		{besideAll, 2, "[]", "[1]", true, true},
		{besideAll, 3, "[]", "[1]", true, true},
		{besideAll, 4, "[]", "[]", false, false},
		{restText, 3, "[]", "[]", false, false},
	}
	for _, c := range cases {
		f := mapOf(c.f)
		cycles, ok := impl.CyclesOf(f, c.n)
		if fmt.Sprint(cycles) != c.cycles || ok != c.ok {
			t.Errorf("CyclesOf(%s, %d) is %v, %v, not %s, %v", c.f, c.n, cycles, ok, c.cycles, c.ok)
		}
		periods, ok := impl.PeriodsUpTo(f, c.n)
		if fmt.Sprint(periods) != c.periods || ok != c.allOK {
			t.Errorf("PeriodsUpTo(%s, %d) is %v, %v, not %s, %v", c.f, c.n, periods, ok, c.periods, c.allOK)
		}
		met := map[impl.Rat]bool{}
		for _, x := range slices.Concat(cycles...) {
			met[x] = true
		}
		if list, ok := impl.LeastPeriodPoints(f, c.n); !slices.Equal(list, sortedRats(met)) || ok != c.ok {
			t.Errorf("LeastPeriodPoints(%s, %d) is %v, %v, and the cycles are %v", c.f, c.n, list, ok, cycles)
		}
	}
}

// Periodic points are met again behind their steps, and there are as many as are counted.
func TestPeriodicPointsAreMetAgain(t *testing.T) {
	met, cyclesMet := 0, 0
	for _, f := range append(periodicMaps(), mapOf(fullText), mapOf(wavesText), steepMap()) {
		for n := 1; n <= 4; n++ {
			list, ok := impl.PeriodicPoints(f, n)
			count, countOK := impl.CountPeriodic(f, n)
			if count != len(list) || ok != countOK {
				t.Fatalf("CountPeriodic(%v, %d) is %d, %v, and the points are %v, %v", f, n, count, countOK, list, ok)
			}
			for i, x := range list {
				met++
				if y := exactSteps(f, bigOf(x), n)[n]; !impl.IsRat(x) || y.Cmp(bigOf(x)) != 0 {
					t.Fatalf("%v is met behind %d steps from %v on for %v", y, n, x, f)
				}
				if y, ok := impl.IterateMap(f, x, n); ok && y != x || n > 1 && !ok {
					t.Fatalf("IterateMap(%v, %v, %d) is %v, %v", f, x, n, y, ok)
				}
				if i > 0 && bigOf(list[i-1]).Cmp(bigOf(x)) >= 0 {
					t.Fatalf("PeriodicPoints(%v, %d) is %v", f, n, list)
				}
			}
			var ofParts []impl.Rat
			for k := 1; k <= n; k++ {
				if least, leastOK := impl.LeastPeriodPoints(f, k); ok && n%k == 0 && leastOK {
					ofParts = append(ofParts, least...)
				}
			}
			slices.SortFunc(ofParts, func(a, b impl.Rat) int { return bigOf(a).Cmp(bigOf(b)) })
			if !slices.Equal(ofParts, list) {
				t.Fatalf("PeriodicPoints(%v, %d) is %v, and those of its parts are %v", f, n, list, ofParts)
			}
			cycles, _ := impl.CyclesOf(f, n)
			for _, cycle := range cycles {
				cyclesMet++
				if is, ok := impl.IsCycle(f, cycle); ok != is || len(cycle) != n || n > 1 && !is {
					t.Fatalf("IsCycle(%v, %v) is %v, %v", f, cycle, is, ok)
				}
			}
		}
	}
	if met < 2000 || cyclesMet < 500 {
		t.Error("only", met, "points and", cyclesMet, "cycles")
	}
}

func TestIsRepelling(t *testing.T) {
	none := pts(0, 1, 0, 1, 1, 2, 1, 2, 1, 1, 0, 1) // of the slopes 1 and -1
	cases := []struct {
		f  []impl.Point
		x  impl.Rat
		n  int
		is bool
		ok bool
	}{
		{tentMap(), rat(0, 1), 1, true, true},
		{tentMap(), rat(2, 3), 1, true, true}, // less than -1
		{tentMap(), rat(2, 3), 60, true, true},
		{tentMap(), rat(2, 3), 0, false, false},
		{tentMap(), rat(2, 3), -1, false, false},
		{tentMap(), rat(2, 3), 61, false, false},
		{tentMap(), rat(2, 7), 3, true, true},
		{tentMap(), rat(2, 7), 2, false, false},
		{tentMap(), rat(1, 7), 60, false, false},     // not met again
		{mapOf(sameText), rat(1, 3), 1, false, true}, // 1
		{mapOf(flipText), rat(1, 2), 1, false, true}, // -1
		{mapOf(flipText), rat(1, 3), 2, false, true},
		{none, rat(1, 3), 1, false, true},
		{none, rat(1, 2), 1, false, false}, // between two slopes
		{mapOf(meetText), rat(1, 2), 4, false, false},
		{growing(), rat(1, 2), 1, false, true},       // 1/3
		{mapOf(flatText), rat(1, 3), 1, false, true}, // 0
		{mapOf(flatText), rat(1, 1), 1, true, true},  // 4/3
		{mapOf("0/1 1/1;1/2 1/2;1/1 49/100;"), rat(1, 2), 1, false, false},
		{mapOf("0/1 1/1;99/100 0/1;1/1 0/1;"), rat(99, 199), 1, true, true}, // -100/99
		{mapOf("0/1 0/1;99/100 1/1;1/1 1/1;"), rat(0, 1), 1, true, true},    // 100/99
		{mapOf("0/1 0/1;1/1 99/100;"), rat(0, 1), 1, false, true},
		{mapOf("0/1 99/100;1/1 0/1;"), rat(99, 199), 1, false, true},
		{tentMap(), rat(-2, 3), 1, false, false},
		{tentMap(), rat(4, 6), 1, false, false},
		{tentMap(), rat(4, 3), 1, false, false},
	}
	for _, c := range cases {
		if is, ok := impl.IsRepelling(c.f, c.x, c.n); is != c.is || ok != c.ok {
			t.Errorf("IsRepelling(%v, %v, %d) is %v, %v, not %v, %v", c.f, c.x, c.n, is, ok, c.is, c.ok)
		}
	}
	repelling, others, failed := 0, 0, 0
	for i, f := range orbitMaps() {
		for _, x := range orbitStarts(f, i) {
			var product impl.Rat
			cycle, wantOK := wantedCycle(slowOrbit(f, x, 5))
			if wantOK = wantOK && cycle[0] == x && len(slowOrbit(f, x, 5)) == 6; wantOK {
				product, wantOK = wantedMultiplier(f, cycle)
			}
			want := wantOK && new(big.Rat).Abs(bigOf(product)).Cmp(big.NewRat(1, 1)) > 0
			if is, ok := impl.IsRepelling(f, x, 5); is != want || ok != wantOK {
				t.Fatalf("IsRepelling(%v, %v, 5) is %v, %v, not %v, %v", f, x, is, ok, want, wantOK)
			}
			switch {
			case want:
				repelling++
			case wantOK:
				others++
			default:
				failed++
			}
		}
	}
	if repelling < 200 || others < 200 || failed < 200 {
		t.Error(repelling, "repelling,", others, "others and", failed, "that are not met again: all are to be tested")
	}
}

// noPieceWords tests that all functions of a word have no results.
func noPieceWords(t *testing.T, f []impl.Point, word []int) {
	t.Helper()
	m, b, lineOK := impl.LineOfWord(f, word)
	x, solveOK := impl.SolveWord(f, word)
	product, productOK := impl.WordMultiplier(f, word)
	if (m != impl.Rat{} || b != impl.Rat{} || x != impl.Rat{} || product != impl.Rat{}) || lineOK || solveOK || productOK {
		t.Errorf("the word %v of %v has %v, %v, %v; %v, %v; %v, %v", word[:min(len(word), 9)], f[:min(len(f), 13)], m, b, lineOK, x, solveOK, product, productOK)
	}
}

// noPieces tests that all functions of a fraction and a number of steps have no results.
func noPieces(t *testing.T, f []impl.Point, x impl.Rat, n int) {
	t.Helper()
	word, ok := impl.PiecesOf(f, x, n)
	is, isOK := impl.IsRepelling(f, x, n)
	if len(word) != 0 || ok || is || isOK {
		t.Errorf("PiecesOf(%v, %v, %d) is %v, %v, and IsRepelling is %v, %v", f[:min(len(f), 13)], x, n, word, ok, is, isOK)
	}
}

func TestInvalidArgumentsHaveNoPeriodicPoints(t *testing.T) {
	none := func(f []impl.Point, n int) {
		if got := callPeriodic(f, n); !sameResults(got, periodicResults{}) {
			t.Errorf("%v, %d steps: %+v", f[:min(len(f), 13)], n, got)
		}
	}
	for _, f := range invalidMaps() {
		for _, n := range []int{-1, 0, 1, 2, 3, 4, 5, 8} {
			none(f, n)
			noPieces(t, f, rat(0, 1), n)
			noPieces(t, f, rat(2, 3), n)
			noPieces(t, f, impl.Rat{}, n)
		}
		for _, word := range [][]int{nil, {}, {0}, {0, 0}, {1}, {-1}, make([]int, 8), make([]int, 9)} {
			noPieceWords(t, f, word)
		}
	}
	large := []int{9, 10, 60, 61, 100, 1 << 32, 1<<32 + 1, -1, -2, -8, smallest(), smallest() + 1, -1 - smallest()}
	for _, f := range plainMaps() {
		for _, n := range append(slices.Clone(large), 0, 5, 6, 7, 8) {
			none(f, n)
		}
		for _, n := range append(slices.Clone(large), 0) {
			if word, ok := impl.PiecesOf(f, rat(0, 1), n); len(word) != 0 || ok {
				t.Errorf("PiecesOf(%v, 0/1, %d) is %v, %v", f, n, word, ok)
			}
		}
		for _, bad := range invalidUnits() {
			for _, n := range []int{-1, 0, 1, 2, 8, 9, 60, 61} {
				noPieces(t, f, bad, n)
			}
		}
		for _, bad := range append(slices.Clone(large), len(f)-1, len(f), 26) {
			if bad >= 0 && bad < len(f)-1 {
				continue
			}
			last := make([]int, impl.MaxRepeat)
			last[impl.MaxRepeat-1] = bad
			for _, word := range [][]int{{bad}, {0, bad}, {bad, 0}, {0, bad, 0}, {bad, bad}, last} {
				noPieceWords(t, f, word)
			}
		}
		for _, word := range [][]int{nil, {}, make([]int, 9), make([]int, 10), make([]int, 100000)} {
			noPieceWords(t, f, word)
		}
	}
}

// No function of periodic points writes to its arguments or behind them, and no result is part of them or of another one.
func TestPeriodicPointsLeaveArgumentsAsTheyAre(t *testing.T) {
	for _, f := range append(plainMaps(), append(invalidMaps(), mapOf(fullText), mapOf(wavesText))...) {
		given := spare(f)
		for _, word := range [][]int{nil, {}, {0}, {1, 0}, {0, 1, 1}, {0, -1, 5}, make([]int, 8), make([]int, 9)} {
			list := spareInts(word)
			impl.LineOfWord(given, list)
			impl.SolveWord(given, list)
			impl.WordMultiplier(given, list)
			if !sameIntsWithSpare(list, word) {
				t.Errorf("%v has become %v", word, list)
			}
		}
		for n := range 6 {
			want := fmt.Sprint(callPeriodic(given, n))
			results := callPeriodic(given, n)
			for i, cycle := range results.cycles {
				kept := slices.Clone(cycle)
				if i > 0 {
					overwriteRats(results.cycles[i-1])
				}
				if !slices.Equal(cycle, kept) {
					t.Fatalf("CyclesOf(%v, %d) has cycles that share memory", f, n)
				}
			}
			overwriteRats(results.points)
			overwriteRats(results.least)
			overwriteInts(results.periods)
			if again := fmt.Sprint(callPeriodic(given, n)); again != want {
				t.Errorf("%v, %d steps: first %s, then %s", f, n, want, again)
			}
			pieces, _ := impl.PiecesOf(given, rat(1, 3), n)
			overwriteInts(pieces)
			impl.IsRepelling(given, rat(1, 3), n)
		}
		if !sameWithSpare(given, f) {
			t.Errorf("%v has become %v", f[:min(len(f), 13)], given[:min(len(f), 13)])
		}
	}
}
