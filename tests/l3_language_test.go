package tests

import (
	"math/rand"
	"slices"
	"strconv"
	"strings"
	"testing"

	"loop.example/g01003/impl"
)

// languageWords are the words of the language that are no numbers and no Names.
func languageWords() []string {
	return []string{"same", "flip", "tent", "after", "times", "mirror", "middle", "clamp"}
}

// shortMaps returns the maps with few points and small Dens, which often have compositions.
func shortMaps() [][]impl.Point {
	var list [][]impl.Point
	for _, f := range someMaps() {
		if len(f) < 6 {
			list = append(list, f)
		}
	}
	return list
}

// environments returns environments with 0 to MaxNamed maps, with maps that are not simple and Names of 1 to 8 letters.
func environments() [][]impl.Named {
	r := rand.New(rand.NewSource(3))
	maps := shortMaps()
	list := [][]impl.Named{nil, {}, {{Name: "a", Map: zigzagMap()}}}
	for n := 1; n <= impl.MaxNamed; n++ {
		for range 3 {
			names := map[string]bool{}
			for len(names) < n {
				name := ""
				for range 1 + r.Intn(8) {
					name += string(rune('a' + r.Intn(26)))
				}
				if len(names) == 0 {
					name = []string{"sames", "flips", "mirrors", "afterall", "tens", "clamps", "middl", "time", "zzzzzzzz", "m"}[r.Intn(10)]
				}
				names[name] = true
			}
			var env []impl.Named
			for name := range names {
				env = append(env, impl.Named{Name: name, Map: nil})
			}
			slices.SortFunc(env, func(a, b impl.Named) int { return strings.Compare(a.Name, b.Name) })
			for i := range env {
				env[i].Map = maps[r.Intn(len(maps))]
			}
			list = append(list, env)
		}
	}
	return list
}

// invalidEnvironments returns lists that are no environment.
func invalidEnvironments() [][]impl.Named {
	tent := tentMap()
	var list [][]impl.Named
	for _, name := range append(languageWords(), "", "A", "aB", "a1", "1", "a b", " a", "a ", "a\x00", "\xff", "\u00e4", "ninelette", "abcdefghi", "`", "{", "a-b", strings.Repeat("a", 1000000)) {
		list = append(list, []impl.Named{{Name: name, Map: tent}})
		list = append(list, []impl.Named{{Name: "a", Map: tent}, {Name: name, Map: tent}})
		list = append(list, []impl.Named{{Name: name, Map: tent}, {Name: "zz", Map: tent}})
	}
	var nine []impl.Named
	for i := range impl.MaxNamed + 1 {
		nine = append(nine, impl.Named{Name: string(rune('a' + i)), Map: tent})
	}
	list = append(list, nine, make([]impl.Named, 1), make([]impl.Named, 8), make([]impl.Named, 1000000))
	list = append(list, []impl.Named{{Name: "a", Map: tent}, {Name: "a", Map: tent}})
	list = append(list, []impl.Named{{Name: "b", Map: tent}, {Name: "a", Map: tent}})
	list = append(list, []impl.Named{{Name: "a", Map: tent}, {Name: "c", Map: tent}, {Name: "b", Map: tent}})
	list = append(list, []impl.Named{{Name: "aa", Map: tent}, {Name: "a", Map: tent}})
	for _, f := range invalidMaps() {
		list = append(list, []impl.Named{{Name: "a", Map: f}})
		list = append(list, []impl.Named{{Name: "a", Map: tent}, {Name: "b", Map: f}})
		list = append(list, []impl.Named{{Name: "a", Map: f}, {Name: "b", Map: tent}})
	}
	return list
}

func TestIsEnvironment(t *testing.T) {
	if impl.MaxNamed != 8 || impl.MaxWordsOf != 40 {
		t.Error("MaxNamed and MaxWordsOf are", impl.MaxNamed, impl.MaxWordsOf)
	}
	for _, env := range environments() {
		if !impl.IsEnvironment(env) {
			t.Error(env, "is no environment")
		}
		more := append(slices.Clone(env), impl.Named{Name: "A"}, impl.Named{})
		if !impl.IsEnvironment(more[:len(env)]) {
			t.Error(env, "is no environment with others behind it")
		}
	}
	for _, env := range invalidEnvironments() {
		if impl.IsEnvironment(env) {
			t.Errorf("%.200v is an environment", env)
		}
	}
}

// tree is an expression that is taken apart.
type tree struct {
	word      string
	digit     int
	low, high impl.Rat
	parts     []tree
}

func (e tree) text() string {
	s := e.word
	switch e.word {
	case "times":
		s += " " + strconv.Itoa(e.digit)
	case "clamp":
		low, _ := impl.RatText(e.low)
		high, _ := impl.RatText(e.high)
		s += " " + low + " " + high
	}
	for _, part := range e.parts {
		s += " " + part.text()
	}
	return s
}

func (e tree) depth() int {
	n := 0
	for _, part := range e.parts {
		n = max(n, part.depth())
	}
	return n + 1
}

func (e tree) names(used map[string]bool) {
	if len(e.parts) == 0 && !slices.Contains(languageWords(), e.word) {
		used[e.word] = true
	}
	for _, part := range e.parts {
		part.names(used)
	}
}

// wanted returns the map of a tree with the exact operations.
func (e tree) wanted(env []impl.Named) ([]impl.Point, bool) {
	var inner [][]impl.Point
	for _, part := range e.parts {
		f, ok := part.wanted(env)
		if !ok {
			return nil, false
		}
		inner = append(inner, f)
	}
	switch e.word {
	case "same":
		return pts(0, 1, 0, 1, 1, 1, 1, 1), true
	case "flip":
		return pts(0, 1, 1, 1, 1, 1, 0, 1), true
	case "tent":
		return tentMap(), true
	case "after":
		return wantedComposition(inner[0], inner[1])
	case "times":
		return wantedPower(inner[0], e.digit)
	case "middle":
		return wantedMiddle(inner[0], inner[1])
	case "clamp":
		return wantedClamped(inner[0], e.low, e.high)
	case "mirror":
		var f []impl.Point
		for _, p := range slices.Backward(inner[0]) {
			f = append(f, impl.Point{X: rat(p.X.Den-p.X.Num, p.X.Den), Y: rat(p.Y.Den-p.Y.Num, p.Y.Den)})
		}
		return f, true
	}
	for _, named := range env {
		if named.Name == e.word {
			return withoutLines(named.Map), true
		}
	}
	return nil, false
}

// mixedTree returns a tree of at most a depth.
func mixedTree(r *rand.Rand, env []impl.Named, depth int) tree {
	if depth <= 1 || r.Intn(6) == 0 {
		if n := len(env); n > 0 && r.Intn(2) == 0 {
			return tree{word: env[r.Intn(n)].Name}
		}
		return tree{word: []string{"same", "flip", "tent"}[r.Intn(3)]}
	}
	e := tree{word: languageWords()[3+r.Intn(5)]}
	parts := 1
	switch e.word {
	case "after", "middle":
		parts = 2
	case "times":
		e.digit = []int{0, 1, 1, 2, 2, 3, 4, 5, 6}[r.Intn(9)]
	case "clamp":
		limits := []impl.Rat{rat(0, 1), rat(1, 4), rat(1, 2), rat(1, 2), rat(3, 4), rat(1, 1), rat(1, 3), rat(1, 101), rat(99, 100)}
		for e.high = limits[r.Intn(9)]; ; {
			e.low = limits[r.Intn(9)]
			if bigOf(e.low).Cmp(bigOf(e.high)) <= 0 {
				break
			}
		}
	}
	for range parts {
		e.parts = append(e.parts, mixedTree(r, env, depth-1))
	}
	return e
}

// expressions calls a function with many environments and their expressions.
func expressions(seed int64, call func(env []impl.Named, e tree, s string)) {
	r := rand.New(rand.NewSource(seed))
	for _, env := range environments() {
		for i := range 120 {
			e := mixedTree(r, env, 1+i%7)
			if s := e.text(); len(strings.Split(s, " ")) <= impl.MaxWordsOf {
				call(env, e, s)
			}
		}
	}
}

func TestEvaluateMap(t *testing.T) {
	made, failed := 0, 0
	expressions(5, func(env []impl.Named, e tree, s string) {
		f, ok := impl.EvaluateMap(env, s)
		want, wantOK := e.wanted(env)
		sameResult(t, s, f, ok, want, wantOK)
		if ok {
			made++
		} else {
			failed++
		}
	})
	if made < 500 || failed < 200 {
		t.Error(made, "maps and", failed, "failures: both are to be tested")
	}
}

func TestPlainExpressions(t *testing.T) {
	tent := tentMap()
	same := pts(0, 1, 0, 1, 1, 1, 1, 1)
	flip := pts(0, 1, 1, 1, 1, 1, 0, 1)
	valley := pts(0, 1, 1, 1, 1, 2, 0, 1, 1, 1, 1, 1)
	bent := pts(0, 1, 0, 1, 1, 50, 1, 50, 1, 1, 1, 1) // the point before its second point with the tent has a Den of 100
	odd := pts(0, 1, 0, 1, 1, 97, 1, 97, 1, 1, 1, 1)  // and that with a Den of 194 is none, as the map is made simple
	env := []impl.Named{{Name: "abcdefgh", Map: valley}, {Name: "bent", Map: bent}, {Name: "full", Map: zigzagMap()}, {Name: "odd", Map: odd}}
	cases := []struct {
		s    string
		want []impl.Point
	}{
		{"same", same}, {"flip", flip}, {"tent", tent}, {"abcdefgh", valley}, {"bent", same}, {"odd", same}, {"full", zigzagMap()},
		{"after flip tent", valley}, {"after tent flip", tent}, {"mirror tent", valley}, {"mirror mirror tent", tent}, {"mirror mirror mirror tent", valley},
		{"times 0 tent", same}, {"times 1 tent", tent}, {"times 0 full", same}, {"times 1 full", zigzagMap()}, {"times 2 flip", same}, {"times 6 flip", same}, {"times 5 flip", flip},
		{"times 0 times 6 flip", same}, {"times 1 times 1 tent", tent}, {"times 1 odd", same},
		{"after same tent", tent}, {"after after same same tent", tent}, {"after same after same full", zigzagMap()}, {"after tent same", tent},
		{"after bent tent", tent}, {"after odd tent", tent},
		{"middle same flip", pts(0, 1, 1, 2, 1, 1, 1, 2)}, {"middle tent same", pts(0, 1, 0, 1, 1, 2, 3, 4, 1, 1, 1, 2)},
		{"clamp 0/1 1/1 tent", tent}, {"clamp 1/2 1/2 tent", pts(0, 1, 1, 2, 1, 1, 1, 2)}, {"clamp 0/1 0/1 full", pts(0, 1, 0, 1, 1, 1, 0, 1)},
		{"clamp 1/1 1/1 same", pts(0, 1, 1, 1, 1, 1, 1, 1)}, {"clamp 1/4 1/4 clamp 1/2 1/2 same", pts(0, 1, 1, 4, 1, 1, 1, 4)},
		{"times 2 full", nil}, {"times 4 tent", nil}, {"times 0 times 4 tent", nil}, {"clamp 1/101 1/1 same", nil}, {"clamp 0/1 1/101 tent", nil},
		{"clamp 1/97 1/97 tent", nil}, {"clamp 1/101 1/1 clamp 1/2 1/1 tent", pts(0, 1, 1, 2, 1, 4, 1, 2, 1, 2, 1, 1, 3, 4, 1, 2, 1, 1, 1, 2)},
		{"after after same after flip tent after mirror mirror flip flip", valley},
		{strings.Repeat("mirror ", 39) + "tent", valley}, {strings.Repeat("mirror ", 38) + "tent", tent},
		{strings.Repeat("after same ", 19) + "tent", tent}, {strings.Repeat("times 1 ", 19) + "mirror tent", valley},
	}
	for _, c := range cases {
		f, ok := impl.EvaluateMap(env, c.s)
		sameResult(t, c.s, f, ok, c.want, c.want != nil)
		if wrong, ok := impl.FirstWrongWord(env, c.s); wrong != -1 || !ok {
			t.Errorf("FirstWrongWord(%q) is %v, %v", c.s, wrong, ok)
		}
	}
	if f, ok := impl.EvaluateMap(nil, "bent"); len(f) != 0 || ok {
		t.Error("a name that is not there has the map", f, ok)
	}
}

// wantedWrong reads a term from a place on, and returns the place behind it, or that of the first wrong word and false.
func wantedWrong(env []impl.Named, words []string, at int) (int, bool) {
	if at >= len(words) {
		return at, false
	}
	parts := 0
	switch word := words[at]; word {
	case "same", "flip", "tent":
	case "mirror":
		parts = 1
	case "after", "middle":
		parts = 2
	case "times":
		parts = 1
		at++
		if at >= len(words) || !slices.Contains([]string{"0", "1", "2", "3", "4", "5", "6"}, words[at]) {
			return at, false
		}
	case "clamp":
		parts = 1
		var limits []impl.Rat
		for range 2 {
			at++
			if at >= len(words) {
				return at, false
			}
			x, ok := impl.ParseRat(words[at])
			if !ok || x.Num < 0 || x.Num > x.Den {
				return at, false
			}
			limits = append(limits, x)
		}
		if bigOf(limits[0]).Cmp(bigOf(limits[1])) > 0 {
			return at, false
		}
	default:
		if !slices.ContainsFunc(env, func(n impl.Named) bool { return n.Name == word }) {
			return at, false
		}
	}
	at++
	for range parts {
		var ok bool
		if at, ok = wantedWrong(env, words, at); !ok {
			return at, false
		}
	}
	return at, true
}

// wantedWrongWord returns what FirstWrongWord is to return.
func wantedWrongWord(env []impl.Named, s string) (int, bool) {
	words := strings.Split(s, " ")
	if s == "" || len(words) > impl.MaxWordsOf {
		return 0, false
	}
	at, ok := wantedWrong(env, words, 0)
	if ok && at == len(words) {
		return -1, true
	}
	return at, true
}

// checkWrong compares FirstWrongWord, and whether the other functions have results, with what is wanted.
func checkWrong(t *testing.T, env []impl.Named, s string) int {
	t.Helper()
	want, wantOK := wantedWrongWord(env, s)
	if wrong, ok := impl.FirstWrongWord(env, s); wrong != want || ok != wantOK {
		t.Errorf("FirstWrongWord(%q) is %v, %v, not %v, %v", s, wrong, ok, want, wantOK)
	}
	isExpression := wantOK && want == -1
	if depth, ok := impl.ExpressionDepth(env, s); ok != isExpression || (depth > 0) != ok {
		t.Errorf("ExpressionDepth(%q) is %v, %v", s, depth, ok)
	}
	if names, ok := impl.NamesUsed(env, s); ok != isExpression || !ok && len(names) > 0 {
		t.Errorf("NamesUsed(%q) is %v, %v", s, names, ok)
	}
	if tidy, ok := impl.TidyExpression(env, s); ok != isExpression || (tidy != "") != ok {
		t.Errorf("TidyExpression(%q) is %v, %v", s, tidy, ok)
	}
	if !isExpression {
		if f, ok := impl.EvaluateMap(env, s); len(f) > 0 || ok {
			t.Errorf("EvaluateMap(%q) is %v, %v", s, f, ok)
		}
		if list, ok := impl.DefineMap(env, "new", s); len(list) > 0 || ok {
			t.Errorf("DefineMap(%q) is %v, %v", s, list, ok)
		}
	}
	if !wantOK {
		return -2
	}
	return want
}

func TestTextsNearExpressions(t *testing.T) {
	r := rand.New(rand.NewSource(9))
	counts := map[int]int{}
	words := append(languageWords(), "0", "1", "6", "7", "-1", "00", "1/2", "2/4", "0/1", "1/1", "3/2", "-1/2", "1/3", "sun", "", "Tent", "tents", "\t", "\u0661")
	expressions(7, func(env []impl.Named, e tree, s string) {
		near := strings.Split(s, " ")
		at := r.Intn(len(near))
		switch r.Intn(5) {
		case 0:
			near = near[:at]
		case 1:
			near = slices.Delete(near, at, at+1)
		case 2:
			near = slices.Insert(near, at, words[r.Intn(len(words))])
		case 3:
			near[at] = words[r.Intn(len(words))]
		case 4:
			near = append(near, words[r.Intn(len(words))])
		}
		counts[checkWrong(t, env, strings.Join(near, " "))]++
	})
	if counts[-2] == 0 || counts[-1] < 100 || counts[0] == 0 || counts[1] == 0 || counts[5] == 0 {
		t.Error("too few kinds of results:", counts)
	}
}

func TestFirstWrongWord(t *testing.T) {
	env := []impl.Named{{Name: "abcdefgh", Map: tentMap()}, {Name: "z", Map: tentMap()}}
	forty := strings.Repeat("mirror ", 39)
	cases := []struct {
		s    string
		want int
	}{
		{"tent", -1}, {"z", -1}, {"abcdefgh", -1}, {forty + "tent", -1}, {"after tent sun", 2},
		{"after", 1}, {"after tent", 2}, {"mirror", 1}, {"times", 1}, {"times 3", 2}, {"clamp", 1}, {"clamp 0/1", 2}, {"clamp 0/1 0/1", 3}, {"middle after z z", 4},
		{forty + "mirror", 40}, {forty + "clamp", 40}, {"after after " + strings.Repeat("mirror ", 37) + "z", 40},
		{"tent tent", 1}, {"tent sun", 1}, {"after z z z", 3}, {"times 1 z 1", 3}, {"z 1/2", 1}, {"same " + forty[:7*38] + "z", 1},
		{"times 7 z", 1}, {"times -1 z", 1}, {"times 01 z", 1}, {"times z", 1}, {"times 10 z", 1}, {"times / z", 1}, {"times : z", 1}, {"times 6 z", -1}, {"times 0 z", -1},
		{"clamp z", 1}, {"clamp -1/2 1/1 z", 1}, {"clamp 3/2 2/1 z", 1}, {"clamp 2/4 1/1 z", 1}, {"clamp 0 1 z", 1}, {"clamp 1/2 1/3 z", 2}, {"clamp 0/1 101/100 z", 2},
		{"clamp 0/1 2/2 z", 2}, {"clamp 0/1 z", 2}, {"clamp 0/1 1/1000000001 z", 2}, {"clamp 1/1000000000 1/999999999 z", -1}, {"clamp 1/1 1/1 z", -1}, {"clamp 0/1 0/1 z", -1},
		{"clamp 1/1000000000 1/1000000000 z", -1}, {"clamp 1/999999999 1/1000000000 z", 2},
		{"sun", 0}, {"1", 0}, {"1/2", 0}, {"abcdefghi", 0}, {"a", 0}, {"TENT", 0}, {"tent\n", 0}, {"\xff", 0}, {strings.Repeat("x", 100000), 0},
		{" ", 0}, {" tent", 0}, {"tent ", 1}, {"after  tent flip", 1}, {"after tent  flip", 2}, {"after tent flip ", 3}, {"mirror ", 1}, {"after\ttent flip", 0}, {"mirror\u00a0tent", 0},
		{strings.Repeat(" ", 39), 0},
	}
	for _, c := range cases {
		if wrong, ok := impl.FirstWrongWord(env, c.s); wrong != c.want || !ok {
			t.Errorf("FirstWrongWord(%.100q) is %v, %v, not %v", c.s, wrong, ok, c.want)
		}
		checkWrong(t, env, c.s)
	}
	for _, s := range []string{"", forty + "mirror tent", forty + "mirror mirror", strings.Repeat("sun ", 41), strings.Repeat(" ", 40), strings.Repeat(" ", 1000000), "tent" + strings.Repeat(" tent", 1000000)} {
		if wrong, ok := impl.FirstWrongWord(env, s); wrong != 0 || ok {
			t.Errorf("FirstWrongWord(%.100q) is %v, %v", s, wrong, ok)
		}
		checkWrong(t, env, s)
	}
	if wrong, ok := impl.FirstWrongWord(nil, "z"); wrong != 0 || !ok {
		t.Error("a name that is not there:", wrong, ok)
	}
}

func TestDepthsAndNames(t *testing.T) {
	expressions(13, func(env []impl.Named, e tree, s string) {
		if depth, ok := impl.ExpressionDepth(env, s); depth != e.depth() || !ok {
			t.Errorf("ExpressionDepth(%q) is %v, %v", s, depth, ok)
		}
		used := map[string]bool{}
		e.names(used)
		var want []string
		for name := range used {
			want = append(want, name)
		}
		slices.Sort(want)
		if names, ok := impl.NamesUsed(env, s); !slices.Equal(names, want) || !ok {
			t.Errorf("NamesUsed(%q) is %v, %v", s, names, ok)
		}
	})
	env := []impl.Named{{Name: "a", Map: tentMap()}, {Name: "b", Map: tentMap()}, {Name: "c", Map: tentMap()}}
	if names, ok := impl.NamesUsed(env, "after c after a c"); !slices.Equal(names, []string{"a", "c"}) || !ok {
		t.Error("names", names, ok)
	}
	if names, ok := impl.NamesUsed(env, "tent"); len(names) != 0 || !ok {
		t.Error("names", names, ok)
	}
	for s, want := range map[string]int{"tent": 1, "a": 1, "clamp 0/1 1/1 a": 2, "times 0 a": 2, "after a mirror a": 3, "middle mirror a a": 3, strings.Repeat("mirror ", 39) + "a": 40} {
		if depth, ok := impl.ExpressionDepth(env, s); depth != want || !ok {
			t.Errorf("ExpressionDepth(%q) is %v, %v", s, depth, ok)
		}
	}
}

// tidiedSlowly leaves out one pair of words after the other, the last one first.
func tidiedSlowly(s string) string {
	words := strings.Split(s, " ")
	for i := len(words) - 2; i >= 0; i-- {
		switch words[i] + " " + words[i+1] {
		case "mirror mirror", "times 1", "after same":
			return tidiedSlowly(strings.Join(slices.Delete(words, i, i+2), " "))
		}
	}
	return s
}

func TestTidyExpressionsHaveTheSameMap(t *testing.T) {
	shorter := 0
	expressions(17, func(env []impl.Named, e tree, s string) {
		tidy, ok := impl.TidyExpression(env, s)
		if want := tidiedSlowly(s); tidy != want || !ok {
			t.Errorf("TidyExpression(%q) is %q, %v, not %q", s, tidy, ok, want)
		}
		if len(tidy) < len(s) {
			shorter++
		}
		f, fOK := impl.EvaluateMap(env, s)
		g, gOK := impl.EvaluateMap(env, tidy)
		sameResult(t, tidy, g, gOK, f, fOK)
	})
	if shorter < 100 {
		t.Error("only", shorter, "expressions become shorter")
	}
	for s, want := range map[string]string{
		"tent": "tent", "mirror tent": "mirror tent", "mirror mirror tent": "tent", "mirror mirror mirror tent": "mirror tent",
		"mirror times 1 mirror tent": "tent", "mirror after same mirror tent": "tent", "after mirror mirror same tent": "tent", "after times 1 same flip": "flip",
		"after after same same tent": "tent", "after same after same tent": "tent", "after same same": "same", "after tent same": "after tent same",
		"times 0 tent": "times 0 tent", "times 2 tent": "times 2 tent", "times 1 same": "same", "middle same tent": "middle same tent", "times 1 times 1 times 1 flip": "flip",
		"mirror after mirror after same mirror same mirror tent": "tent",
		strings.Repeat("mirror ", 39) + "tent":                   "mirror tent", strings.Repeat("after same ", 19) + "mirror tent": "mirror tent",
	} {
		if tidy, ok := impl.TidyExpression(nil, s); tidy != want || !ok {
			t.Errorf("TidyExpression(%q) is %q, %v, not %q", s, tidy, ok, want)
		}
	}
}

// lookUp returns the map with a name.
func lookUp(env []impl.Named, name string) []impl.Point {
	for _, named := range env {
		if named.Name == name {
			return named.Map
		}
	}
	return nil
}

// sameOthers reports whether two environments have the same maps with all names but those given.
func sameOthers(a, b []impl.Named, but ...string) bool {
	others := func(env []impl.Named) []impl.Named {
		return slices.DeleteFunc(slices.Clone(env), func(n impl.Named) bool { return slices.Contains(but, n.Name) })
	}
	return slices.EqualFunc(others(a), others(b), func(m, n impl.Named) bool { return m.Name == n.Name && slices.Equal(m.Map, n.Map) })
}

func TestDefinedMapsAreFound(t *testing.T) {
	added, replaced := 0, 0
	expressions(19, func(env []impl.Named, e tree, s string) {
		f, ok := impl.EvaluateMap(env, s)
		names := []string{"a", "q", "zzzzzzzz", "mmmmmmm"}
		for _, named := range env {
			names = append(names, named.Name)
		}
		for _, name := range names {
			old := lookUp(env, name)
			list, made := impl.DefineMap(env, name, s)
			if made != (ok && (old != nil || len(env) < impl.MaxNamed)) {
				t.Fatalf("DefineMap(%v, %q, %q) is %v, %v", env, name, s, list, made)
			}
			if !made {
				if len(list) != 0 {
					t.Error("DefineMap fails with", list)
				}
				continue
			}
			if !impl.IsEnvironment(list) || !slices.Equal(lookUp(list, name), f) || !sameOthers(list, env, name) {
				t.Errorf("DefineMap(%v, %q, %q) is %v", env, name, s, list)
			}
			if found, ok := impl.EvaluateMap(list, name); !slices.Equal(found, f) || !ok {
				t.Errorf("%q is defined as %v and found as %v", name, f, found)
			}
			if old == nil {
				added++
			} else {
				replaced++
			}
		}
		for _, name := range append(languageWords(), "", "A", "a1", "ninelette", "a b", "1/2") {
			if list, ok := impl.DefineMap(env, name, s); len(list) != 0 || ok {
				t.Errorf("DefineMap(%q) is %v, %v", name, list, ok)
			}
		}
	})
	if added < 200 || replaced < 200 {
		t.Error(added, "maps added and", replaced, "replaced: both are to be tested")
	}
	env, ok := impl.DefineMap(nil, "valley", "after flip tent")
	env, also := impl.DefineMap(env, "valley", "times 2 valley")
	if want := pts(0, 1, 1, 1, 1, 4, 0, 1, 1, 2, 1, 1, 3, 4, 0, 1, 1, 1, 1, 1); !ok || !also || len(env) != 1 || !slices.Equal(lookUp(env, "valley"), want) {
		t.Error("a map defined by the one before is", env, ok, also)
	}
}

func TestForgetMap(t *testing.T) {
	for _, env := range environments() {
		for _, named := range env {
			list, ok := impl.ForgetMap(env, named.Name)
			if !ok || !impl.IsEnvironment(list) || len(list) != len(env)-1 || lookUp(list, named.Name) != nil || !sameOthers(list, env, named.Name) {
				t.Errorf("ForgetMap(%v, %q) is %v, %v", env, named.Name, list, ok)
			}
		}
		for _, name := range append(languageWords(), "", "q", "A", "\xff") {
			if list, ok := impl.ForgetMap(env, name); len(list) != 0 || ok {
				t.Errorf("ForgetMap(%v, %q) is %v, %v", env, name, list, ok)
			}
		}
	}
}

func TestRenameMap(t *testing.T) {
	moved := 0
	for _, env := range environments() {
		for _, named := range env {
			for _, name := range []string{named.Name, "a", "aaaaaaaa", "q", "zzzzzzzz", "sam", "samee"} {
				taken := name != named.Name && lookUp(env, name) != nil
				list, ok := impl.RenameMap(env, named.Name, name)
				if ok == taken {
					t.Fatalf("RenameMap(%v, %q, %q) is %v, %v", env, named.Name, name, list, ok)
				}
				if taken {
					if len(list) != 0 {
						t.Error("RenameMap fails with", list)
					}
					continue
				}
				if !impl.IsEnvironment(list) || len(list) != len(env) || !slices.Equal(lookUp(list, name), named.Map) || !sameOthers(list, env, named.Name, name) {
					t.Errorf("RenameMap(%v, %q, %q) is %v", env, named.Name, name, list)
				}
				moved++
			}
			for _, name := range append(languageWords(), "", "A", "a1", "ninelette", "a b") {
				if list, ok := impl.RenameMap(env, named.Name, name); len(list) != 0 || ok {
					t.Errorf("RenameMap(%v, %q, %q) is %v, %v", env, named.Name, name, list, ok)
				}
			}
		}
		for _, name := range append(languageWords(), "", "notthere", "A") {
			if list, ok := impl.RenameMap(env, name, "q"); len(list) != 0 || ok {
				t.Errorf("RenameMap(%v, %q, q) is %v, %v", env, name, list, ok)
			}
		}
	}
	if moved < 100 {
		t.Error("only", moved, "maps have another name")
	}
}

func TestEnvironmentText(t *testing.T) {
	for _, env := range environments() {
		want := ""
		for _, named := range env {
			want += named.Name + "=" + text(named.Map) + "\n"
		}
		if s, ok := impl.EnvironmentText(env); s != want || !ok {
			t.Errorf("EnvironmentText(%v) is %q, %v", env, s, ok)
		}
	}
	env := []impl.Named{{Name: "a", Map: tentMap()}, {Name: "b", Map: pts(0, 1, 1, 2, 1, 1, 1, 2)}}
	if s, ok := impl.EnvironmentText(env); s != "a=0/1 0/1;1/2 1/1;1/1 0/1;\nb=0/1 1/2;1/1 1/2;\n" || !ok {
		t.Errorf("text %q, %v", s, ok)
	}
}

func TestInvalidEnvironmentsHaveNoResults(t *testing.T) {
	for _, env := range invalidEnvironments() {
		for _, s := range []string{"a", "tent", "after sun", ""} {
			f, ok := impl.EvaluateMap(env, s)
			wrong, wrongOK := impl.FirstWrongWord(env, s)
			depth, depthOK := impl.ExpressionDepth(env, s)
			names, namesOK := impl.NamesUsed(env, s)
			tidy, tidyOK := impl.TidyExpression(env, s)
			if ok || wrongOK || depthOK || namesOK || tidyOK || len(f) != 0 || wrong != 0 || depth != 0 || len(names) != 0 || tidy != "" {
				t.Errorf("%q has results in %.200v", s, env)
			}
			defined, ok := impl.DefineMap(env, "a", s)
			forgotten, forgottenOK := impl.ForgetMap(env, "a")
			renamed, renamedOK := impl.RenameMap(env, "a", "q")
			all, allOK := impl.EnvironmentText(env)
			if ok || forgottenOK || renamedOK || allOK || len(defined) != 0 || len(forgotten) != 0 || len(renamed) != 0 || all != "" {
				t.Errorf("%q changes %.200v", s, env)
			}
		}
	}
}

// spareNamed returns an environment with others behind its length, and with others behind each map.
func spareNamed(env []impl.Named) []impl.Named {
	var all []impl.Named
	for _, named := range env {
		all = append(all, impl.Named{Name: named.Name, Map: spare(named.Map)})
	}
	all = append(all, impl.Named{Name: "behind", Map: tentMap()}, impl.Named{Name: "last"})
	return all[:len(env):len(all)]
}

func sameNamed(given, env []impl.Named) bool {
	behind := given[len(given):cap(given)]
	if len(given) != len(env) || len(behind) != 2 || behind[0].Name != "behind" || behind[1].Name != "last" || !slices.Equal(behind[0].Map, tentMap()) || behind[1].Map != nil {
		return false
	}
	for i := range env {
		if given[i].Name != env[i].Name || !sameWithSpare(given[i].Map, env[i].Map) {
			return false
		}
	}
	return true
}

func TestEnvironmentsAreLeftAsTheyAre(t *testing.T) {
	lists := environments()
	for _, env := range invalidEnvironments() {
		if len(env) < 100 && !slices.ContainsFunc(env, func(n impl.Named) bool { return len(n.Map) > 100 || len(n.Name) > 100 }) {
			lists = append(lists, env)
		}
	}
	for _, env := range lists {
		given := spareNamed(env)
		// What is written to a result, or behind its parts, stands neither in the arguments nor in other parts of it.
		overwriteAll := func(list []impl.Named) {
			for i := range list {
				others := spareNamed(slices.Concat(list[:i], list[i+1:]))
				overwrite(list[i].Map)
				if !sameNamed(others, slices.Concat(list[:i], list[i+1:])) {
					t.Error("parts of a result share memory")
				}
			}
			clear(list[:cap(list)])
		}
		impl.IsEnvironment(given)
		impl.EnvironmentText(given)
		for _, name := range []string{"a", "q", "same", "", lastName(env)} {
			for _, s := range []string{name, "after same " + name, "mirror " + name, "times 2 " + name, "middle tent " + name, "clamp 1/4 1/2 " + name, "sun", ""} {
				f, _ := impl.EvaluateMap(given, s)
				overwrite(f)
				impl.FirstWrongWord(given, s)
				impl.ExpressionDepth(given, s)
				names, _ := impl.NamesUsed(given, s)
				clear(names[:cap(names)])
				impl.TidyExpression(given, s)
				defined, _ := impl.DefineMap(given, name, s)
				overwriteAll(defined)
				defined, _ = impl.DefineMap(given, "other", s)
				overwriteAll(defined)
			}
			forgotten, _ := impl.ForgetMap(given, name)
			overwriteAll(forgotten)
			for _, other := range []string{name, "mid", "", "A"} {
				renamed, _ := impl.RenameMap(given, name, other)
				overwriteAll(renamed)
			}
		}
		if !sameNamed(given, env) {
			t.Errorf("%v has become %v", env, given)
		}
	}
}

func lastName(env []impl.Named) string {
	if len(env) == 0 {
		return ""
	}
	return env[len(env)-1].Name
}
