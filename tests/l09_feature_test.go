package tests

import (
	"fmt"
	"math"
	"slices"
	"strings"
	"testing"

	"loop.example/g03005/impl"
)

func feature(id, kind, rank int, name string, points ...impl.Point) impl.Feature {
	return impl.Feature{Id: id, Kind: kind, Rank: rank, Name: name, Points: points}
}

// plain gives a feature of each kind in turn. Those with the same kind have
// the same place.
func plain(id int) impl.Feature {
	switch id % 3 {
	case 0:
		return feature(id, impl.KdPoint, id%10, "mill", through(7, 200)...)
	case 1:
		return feature(id, impl.KdLine, id%10, "", through(0, 0, 4, 0, 4, 3)...)
	default:
		return feature(id, impl.KdArea, id%10, "lake", through(2, 2, 6, 2, 6, 6, 2, 6)...)
	}
}

func plains(ids ...int) []impl.Feature {
	l := []impl.Feature{}
	for _, id := range ids {
		l = append(l, plain(id))
	}
	return l
}

// idsUpTo are the numbers from 1 to a limit.
func idsUpTo(limit int) []int {
	ids := []int{}
	for i := range limit {
		ids = append(ids, i+1)
	}
	return ids
}

// copied gives features in other memory.
func copied(l []impl.Feature) []impl.Feature {
	c := slices.Clone(l)
	for i := range c {
		c[i].Points = slices.Clone(c[i].Points)
	}
	return c
}

func sameFeature(a, b impl.Feature) bool {
	return a.Id == b.Id && a.Kind == b.Kind && a.Rank == b.Rank && a.Name == b.Name && slices.Equal(a.Points, b.Points)
}

func sameFeatures(a, b []impl.Feature) bool {
	return slices.EqualFunc(a, b, sameFeature)
}

var goodNames = []string{"a", "z", "m", "ab", "zz", "road", "hillock", "abcdefgh", "zzzzzzzz", "aaaaaaaa"}

// badNames are neither empty nor names.
func badNames() []string {
	bad := []string{
		"abcdefghi", "aaaaaaaaa", strings.Repeat("a", 16), strings.Repeat("a", 257), strings.Repeat("z", 264),
		"Oak", "oAk", "oaK", "A", "Z", "ABCDEFGH", "1", "a1", "1a", "oak7oak", " ", "a b", " oak", "oak ", "oak\n", "\t",
		"oak-oak", "oak_", "oak.", "oak,", "{", "`", "@", "[", "\x00", "oak\x00", "\x00oak", "\x7f",
		// Letters of other alphabets, an accent of its own, and bytes that are no character.
		"é", "öl", "straße", "oak\u0301", "\u0430", "ｏａｋ", "ſ", "\u212a", "\U0001d41a", "\xe1", "oak\xc3", "\xa9oak", "\x80", "\xff", "oa\xe9k",
		"\ufffd", "ąąąą", "éééééééé",
	}
	for i := range 8 {
		for _, b := range []byte{0, ' ', '0', '9', 'A', 'Z', 'a' - 1, 'z' + 1, 0x80, 0xc3, 0xff} {
			name := []byte("abcdefgh")
			name[i] = b
			bad = append(bad, string(name))
		}
	}
	return bad
}

// goodPlaces are points for features that are valid, for each kind.
func goodPlaces() map[int][][]impl.Point {
	places := map[int][][]impl.Point{}
	for _, p := range through(0, 0, 200, 0, 0, 200, 200, 200, 0, 77, 77, 0, 200, 77, 77, 200, 77, 123, 1, 1) {
		places[impl.KdPoint] = append(places[impl.KdPoint], []impl.Point{p})
	}
	places[impl.KdLine] = [][]impl.Point{
		through(0, 0, 1, 0), through(0, 0, 200, 200), through(200, 0, 0, 200), through(0, 0, 0, 200), through(200, 200, 0, 200),
		through(0, 0, 200, 0, 200, 200, 0, 200, 0, 1), through(0, 0, 4, 0, 8, 0), through(0, 0, 4, 0, 4, 3, 1, 3), stairs(9), stairs(10),
	}
	for _, shape := range shapes() {
		places[impl.KdArea] = append(places[impl.KdArea], everyWay(shape.l)...)
	}
	return places
}

// badPlaces are points for features that are not valid, for each kind.
func badPlaces() map[int][][]impl.Point {
	places := map[int][][]impl.Point{
		impl.KdPoint: {nil, {}, through(0, 0, 1, 1), through(5, 5, 5, 5), through(0, 0, 4, 0, 0, 4), stairs(10), stairs(12), stairs(12)[:0]},
		impl.KdLine: append(noLines(), through(0, 0, 4, 0, 0, 0), through(0, 0, 4, 0, 2, 0), through(0, 0, 9, 9, 9, 0, 0, 9),
			through(0, 0, 9, 0, 9, 5, 4, 0), through(0, 0, 8, 0, 8, 8, 0, 8, 0, 0)),
		impl.KdArea: append(noRings(), stairs(2), stairs(11)),
	}
	for _, p := range offMap {
		places[impl.KdPoint] = append(places[impl.KdPoint], []impl.Point{p}, []impl.Point{p, at(0, 0)}, []impl.Point{at(0, 0), p})
	}
	return places
}

// badIds and badRanks miss the limits by a little, by a lot, and by as much
// as an int can.
var (
	badIds   = []int{0, 100, -1, -50, 101, 255, 257, 1 << 32, 1<<32 + 5, math.MinInt, math.MinInt + 1, math.MaxInt}
	badRanks = []int{-1, 10, -9, 11, 256, 1 << 32, math.MinInt, math.MinInt + 9, math.MaxInt}
	badKinds = []int{0, 4, -1, -2, -3, 5, 257, 1<<32 + 1, math.MinInt, math.MaxInt}
)

// badFeatures miss what a feature has to be in one field. Most keep an Id
// that is valid.
func badFeatures(id int) []impl.Feature {
	bad := []impl.Feature{{}, {Id: id}}
	for _, good := range []impl.Feature{
		feature(id, impl.KdPoint, 3, "oak", through(5, 5)...), feature(id, impl.KdLine, 3, "oak", stairs(4)...), feature(id, impl.KdArea, 3, "oak", through(0, 0, 4, 0, 0, 4)...),
	} {
		f := good
		for _, f.Id = range badIds {
			bad = append(bad, f)
		}
		f = good
		for _, f.Rank = range badRanks {
			bad = append(bad, f)
		}
		f = good
		for _, f.Name = range badNames() {
			bad = append(bad, f)
		}
		f = good
		for _, f.Kind = range badKinds {
			bad = append(bad, f)
		}
		f = good
		for _, f.Points = range badPlaces()[good.Kind] {
			bad = append(bad, f)
		}
	}
	return bad
}

// noSources are lists of features that are no source.
func noSources() [][]impl.Feature {
	bad := [][]impl.Feature{
		// The same Id twice, with features that are the same and that differ.
		plains(5, 5), plains(1, 5, 5), plains(5, 5, 9), plains(5, 9, 5), plains(1, 1, 1), plains(99, 99),
		{plain(5), feature(5, impl.KdPoint, 0, "", through(9, 9)...)},
		// Ids that descend.
		plains(5, 4), plains(99, 1), plains(1, 5, 4), plains(5, 1, 9), plains(2, 3, 9, 8), plains(9, 8, 7),
		// Too many.
		plains(idsUpTo(17)...), plains(idsUpTo(18)...), plains(idsUpTo(99)...), slices.Repeat(plains(7), 500),
		append(plains(idsUpTo(16)...), plain(99)), append(plains(1), plains(idsUpTo(16)...)...),
		append(plains(idsUpTo(16)...), plain(4)), append(plains(idsUpTo(16)...), impl.Feature{}),
	}
	for _, f := range badFeatures(40) {
		bad = append(bad, []impl.Feature{f})
		for place := range 3 {
			bad = append(bad, slices.Insert(plains(30, 50), place, f))
		}
	}
	for _, place := range []int{0, 7, 15} {
		for _, kind := range badKinds {
			full := plains(idsUpTo(16)...)
			full[place].Kind = kind
			bad = append(bad, full)
		}
	}
	return bad
}

func TestFeatureConstants(t *testing.T) {
	if got := []int{impl.KdPoint, impl.KdLine, impl.KdArea, impl.MaxFeatures}; !slices.Equal(got, []int{1, 2, 3, 16}) {
		t.Errorf("KdPoint, KdLine, KdArea and MaxFeatures are %v", got)
	}
}

func TestIsName(t *testing.T) {
	for _, name := range goodNames {
		if !impl.IsName(name) {
			t.Errorf("%q is not a name", name)
		}
	}
	for _, name := range append(badNames(), "") {
		if impl.IsName(name) {
			t.Errorf("%q is a name", name)
		}
	}
	for b := range 256 {
		for _, name := range []string{"?", "?ab", "a?b", "ab?", "?bcdefgh", "abcdefg?"} {
			name = strings.ReplaceAll(name, "?", string([]byte{byte(b)}))
			if got := impl.IsName(name); got != (b >= 'a' && b <= 'z') {
				t.Errorf("IsName(%q) = %v", name, got)
			}
		}
	}
	for size := range 40 {
		if got := impl.IsName(strings.Repeat("q", size)); got != (size >= 1 && size <= 8) {
			t.Errorf("a name of %d letters: %v", size, got)
		}
	}
}

func TestIsFeature(t *testing.T) {
	for kind, lists := range goodPlaces() {
		for _, l := range lists {
			for _, f := range []impl.Feature{
				feature(1, kind, 0, "", l...), feature(99, kind, 9, "abcdefgh", l...), feature(1, kind, 9, "a", l...), feature(99, kind, 0, "z", l...), feature(50, kind, 5, "road", l...),
			} {
				if !impl.IsFeature(f) {
					t.Errorf("%v is not a feature", f)
				}
			}
		}
	}
	for id := 1; id <= 99; id++ {
		if !impl.IsFeature(plain(id)) {
			t.Errorf("%v is not a feature", plain(id))
		}
	}
	for rank := range 10 {
		for _, name := range append(slices.Clone(goodNames), "") {
			if f := feature(7, impl.KdPoint, rank, name, at(3, 3)); !impl.IsFeature(f) {
				t.Errorf("%v is not a feature", f)
			}
		}
	}
}

func TestIsFeatureRejects(t *testing.T) {
	for _, f := range badFeatures(40) {
		if impl.IsFeature(f) {
			t.Errorf("%v is a feature", f)
		}
	}
}

func TestEachKindAsksForItsOwnPoints(t *testing.T) {
	known := meetings{}
	lists := append(noLines(), noRings()...)
	for count := range 5 {
		lists = append(lists, linesThrough(through(0, 0, 4, 0, 4, 4, 0, 4, 2, 2, 200, 200), count)...)
	}
	for _, p := range offMap {
		lists = append(lists, []impl.Point{p})
	}
	valid := map[int]int{}
	for _, l := range lists {
		for kind := -1; kind <= 5; kind++ {
			f, want := feature(40, kind, 3, "oak", l...), false
			switch {
			case !onMap(l...) || len(slices.Compact(slices.Clone(l))) < len(l):
			case kind == impl.KdPoint:
				want = len(l) == 1
			case kind == impl.KdLine:
				want = len(l) >= 2 && len(l) <= 10 && known.simple(l)
			case kind == impl.KdArea:
				want = len(l) >= 3 && len(l) <= 10 && known.ring(l)
			}
			if got := impl.IsFeature(f); got != want {
				t.Fatalf("IsFeature(%v) = %v", f, got)
			}
			if want {
				valid[kind]++
			}
		}
	}
	if len(valid) != 3 || valid[impl.KdPoint] < 6 || valid[impl.KdLine] < 100 || valid[impl.KdArea] < 100 {
		t.Errorf("of each kind are valid: %v", valid)
	}
}

func TestIsSource(t *testing.T) {
	good := [][]impl.Feature{
		nil, {}, plains(1), plains(99), plains(1, 2), plains(1, 99), plains(98, 99), plains(3, 40, 77), plains(idsUpTo(15)...), plains(idsUpTo(16)...),
		// All at the same place.
		plains(3, 6, 9), {feature(3, impl.KdLine, 0, "a", stairs(4)...), feature(4, impl.KdLine, 0, "a", stairs(4)...)},
		{feature(3, impl.KdArea, 1, "", through(0, 0, 4, 0, 0, 4)...), feature(4, impl.KdLine, 2, "", through(0, 0, 4, 0, 0, 4)...), feature(5, impl.KdPoint, 3, "", at(0, 0))},
	}
	sixteen := []int{}
	for id := 84; id <= 99; id++ {
		sixteen = append(sixteen, id)
	}
	for _, l := range append(good, plains(sixteen...)) {
		if !impl.IsSource(l) {
			t.Errorf("%v is not a source", l)
		}
	}
	for _, l := range noSources() {
		if impl.IsSource(l) {
			t.Errorf("%v is a source", l)
		}
	}
	for a := 1; a <= 99; a++ {
		for b := 1; b <= 99; b++ {
			if got := impl.IsSource(plains(a, b)); got != (a < b) {
				t.Errorf("the features %d and %d are a source: %v", a, b, got)
			}
		}
	}
}

func TestFindFeature(t *testing.T) {
	cases := []struct {
		l    []impl.Feature
		id   int
		want int
	}{
		{nil, 1, -1}, {plains(), 0, -1},
		{plains(1), 1, 0}, {plains(1), 2, -1}, {plains(1), 0, -1}, {plains(99), 99, 0}, {plains(99), 98, -1}, {plains(99), 100, -1},
		{plains(2, 5, 9), 2, 0}, {plains(2, 5, 9), 5, 1}, {plains(2, 5, 9), 9, 2},
		{plains(2, 5, 9), 1, -1}, {plains(2, 5, 9), 3, -1}, {plains(2, 5, 9), 7, -1}, {plains(2, 5, 9), 10, -1},
		{plains(2, 5, 9), -5, -1}, {plains(2, 5, 9), math.MinInt, -1}, {plains(2, 5, 9), math.MaxInt, -1}, {plains(2, 5, 9), 1<<32 + 5, -1},
		{plains(idsUpTo(16)...), 1, 0}, {plains(idsUpTo(16)...), 16, 15}, {plains(idsUpTo(16)...), 17, -1},
		// At the same place as another one, before and behind it.
		{plains(3, 6, 9), 6, 1}, {plains(3, 6, 9), 9, 2},
		// A list need not be a source, and the first one counts.
		{plains(5, 5), 5, 0}, {plains(4, 5, 5, 5), 5, 1}, {plains(5, 9, 5), 5, 0}, {plains(9, 5, 2), 2, 2}, {plains(9, 5, 2), 9, 0}, {plains(9, 5, 2), 4, -1},
		{plains(idsUpTo(17)...), 17, 16}, {plains(idsUpTo(99)...), 99, 98},
		{[]impl.Feature{{}}, 0, 0}, {[]impl.Feature{{}}, 1, -1}, {[]impl.Feature{{Id: -7}, {Id: 300}}, 300, 1}, {[]impl.Feature{{Id: -7}, {Id: 300}}, -7, 0},
		{[]impl.Feature{{Id: 1}, {Id: math.MinInt}, {Id: math.MaxInt}}, math.MaxInt, 2}, {[]impl.Feature{{Id: 1}, {Id: math.MinInt}}, math.MinInt, 1},
	}
	for _, c := range cases {
		if got := impl.FindFeature(c.l, c.id); got != c.want {
			t.Errorf("FindFeature(%v, %d) = %d, want %d", c.l, c.id, got, c.want)
		}
	}
}

// checkPut checks what comes of a feature put into a source.
func checkPut(t *testing.T, l []impl.Feature, f impl.Feature, want []impl.Feature) {
	t.Helper()
	got, ok := impl.PutFeature(l, f)
	if !ok || !sameFeatures(got, want) || !impl.IsSource(got) {
		t.Errorf("PutFeature(%v, %v) = %v, %v", l, f, got, ok)
	}
	if place := impl.FindFeature(got, f.Id); place < 0 || place >= len(got) || !sameFeature(got[place], f) {
		t.Errorf("%v, put into %v, is found at %d", f, l, place)
	}
}

// checkTake checks what is left if a feature is taken from a source.
func checkTake(t *testing.T, l []impl.Feature, id int, want []impl.Feature) {
	t.Helper()
	got, ok := impl.TakeFeature(l, id)
	if !ok || !sameFeatures(got, want) || !impl.IsSource(got) || impl.FindFeature(got, id) != -1 {
		t.Errorf("TakeFeature(%v, %d) = %v, %v", l, id, got, ok)
	}
	if again, ok := impl.TakeFeature(got, id); ok || !sameFeatures(again, want) {
		t.Errorf("%d, taken twice from %v, leaves %v, %v", id, l, again, ok)
	}
}

func TestPutFeature(t *testing.T) {
	l := plains(10, 20, 30)
	other := feature(20, impl.KdLine, 9, "brook", through(200, 0, 200, 200)...)
	cases := []struct {
		name string
		l    []impl.Feature
		f    impl.Feature
		want []impl.Feature
	}{
		{"into a nil list", nil, plain(1), plains(1)},
		{"into an empty source", plains(), plain(99), plains(99)},
		{"first", l, plain(9), plains(9, 10, 20, 30)},
		{"first of all", l, plain(1), plains(1, 10, 20, 30)},
		{"between", l, plain(11), plains(10, 11, 20, 30)},
		{"between two others", l, plain(29), plains(10, 20, 29, 30)},
		{"last", l, plain(31), plains(10, 20, 30, 31)},
		{"last of all", l, plain(99), plains(10, 20, 30, 99)},
		{"in place of the same", l, plain(20), l},
		{"in place of another kind", l, other, []impl.Feature{plain(10), other, plain(30)}},
		{"in place of the first", l, feature(10, impl.KdPoint, 0, "", at(0, 0)), []impl.Feature{feature(10, impl.KdPoint, 0, "", at(0, 0)), plain(20), plain(30)}},
		{"in place of the last", l, feature(30, impl.KdArea, 0, "", through(0, 0, 1, 0, 0, 1)...), []impl.Feature{plain(10), plain(20), feature(30, impl.KdArea, 0, "", through(0, 0, 1, 0, 0, 1)...)}},
		{"in place of the only one", plains(20), other, []impl.Feature{other}},
		{"in place of one with another rank", plains(7), feature(7, impl.KdLine, 0, "", plain(7).Points...), []impl.Feature{feature(7, impl.KdLine, 0, "", plain(7).Points...)}},
		{"in place of one with a name", plains(9), feature(9, impl.KdPoint, 9, "", at(7, 200)), []impl.Feature{feature(9, impl.KdPoint, 9, "", at(7, 200))}},
		{"at the place of another", plains(3, 9), plain(6), plains(3, 6, 9)},
		{"as another but for the Id", []impl.Feature{other}, feature(21, impl.KdLine, 9, "brook", other.Points...), []impl.Feature{other, feature(21, impl.KdLine, 9, "brook", other.Points...)}},
		{"the sixteenth", plains(idsUpTo(15)...), plain(16), plains(idsUpTo(16)...)},
		{"the sixteenth, first", plains(idsUpTo(16)[1:]...), plain(1), plains(idsUpTo(16)...)},
		{"the same into a full source", plains(idsUpTo(16)...), plain(16), plains(idsUpTo(16)...)},
		{"another into a full source, in place", append(plains(idsUpTo(15)...), plain(20)), other, append(plains(idsUpTo(15)...), other)},
	}
	for _, c := range cases {
		t.Run(c.name, func(t *testing.T) { checkPut(t, c.l, c.f, c.want) })
	}
}

func TestAFeatureThatIsNotValidGivesWay(t *testing.T) {
	// The chapter asks only what the result is, not what l was.
	for _, bad := range badFeatures(40) {
		if bad.Id != 40 {
			continue
		}
		for place := range 3 {
			l, want := slices.Insert(plains(30, 50), place, bad), plains(30, 40, 50)
			if place == 1 {
				checkPut(t, l, plain(40), want)
			} else if got, ok := impl.PutFeature(l, plain(40)); ok || !sameFeatures(got, l) {
				t.Errorf("PutFeature(%v, %v) = %v, %v", l, plain(40), got, ok)
			}
		}
	}
}

func TestPutFeatureRejects(t *testing.T) {
	check := func(l []impl.Feature, f impl.Feature) {
		t.Helper()
		if got, ok := impl.PutFeature(l, f); ok || !sameFeatures(got, l) {
			t.Errorf("PutFeature(%v, %v) = %v, %v", l, f, got, ok)
		}
	}
	for _, f := range badFeatures(40) {
		for _, l := range [][]impl.Feature{nil, plains(), plains(40), plains(39), plains(41), plains(3, 40, 77), plains(idsUpTo(15)...), plains(idsUpTo(16)...), plains(5, 4)} {
			check(l, f)
		}
	}
	for _, id := range []int{17, 18, 50, 99} {
		check(plains(idsUpTo(16)...), plain(id))
		check(append(plains(idsUpTo(15)...), plain(99)), plain(min(id, 98)))
	}
	check(plains(idsUpTo(17)[1:]...), plain(1))
	for _, l := range noSources() {
		for _, id := range []int{2, 29, 31, 49, 51, 99} {
			check(l, plain(id))
		}
		if len(l) > 0 && !slices.ContainsFunc(l, func(f impl.Feature) bool { return f.Id == 40 }) {
			check(l, plain(40))
		}
	}
	for _, l := range [][]impl.Feature{plains(5, 5), plains(5, 4), plains(4, 5, 5), plains(9, 5), plains(5, 9, 5), plains(5, 1, 9), plains(idsUpTo(17)...)} {
		for _, id := range []int{1, 4, 5, 6, 9, 17, 18} {
			check(l, plain(id))
		}
	}
}

func TestTakeFeature(t *testing.T) {
	cases := []struct {
		name string
		l    []impl.Feature
		id   int
		want []impl.Feature
	}{
		{"the only one", plains(40), 40, nil},
		{"the only one, with the least Id", plains(1), 1, nil},
		{"the only one, with the greatest Id", plains(99), 99, nil},
		{"the first", plains(10, 20, 30), 10, plains(20, 30)},
		{"between two others", plains(10, 20, 30), 20, plains(10, 30)},
		{"the last", plains(10, 20, 30), 30, plains(10, 20)},
		{"the first of two", plains(1, 99), 1, plains(99)},
		{"the last of two", plains(1, 99), 99, plains(1)},
		{"at the place of others, the first", plains(3, 6, 9), 3, plains(6, 9)},
		{"at the place of others, between", plains(3, 6, 9), 6, plains(3, 9)},
		{"at the place of others, the last", plains(3, 6, 9), 9, plains(3, 6)},
		{"from a full source, the first", plains(idsUpTo(16)...), 1, plains(idsUpTo(16)[1:]...)},
		{"from a full source, the last", plains(idsUpTo(16)...), 16, plains(idsUpTo(15)...)},
	}
	for _, c := range cases {
		t.Run(c.name, func(t *testing.T) { checkTake(t, c.l, c.id, c.want) })
	}
}

func TestTakeFeatureRejects(t *testing.T) {
	check := func(l []impl.Feature, id int) {
		t.Helper()
		if got, ok := impl.TakeFeature(l, id); ok || !sameFeatures(got, l) {
			t.Errorf("TakeFeature(%v, %d) = %v, %v", l, id, got, ok)
		}
	}
	for _, l := range [][]impl.Feature{nil, plains(), plains(40), plains(10, 20, 30), plains(3, 6, 9), plains(idsUpTo(16)...)} {
		for _, id := range append([]int{17, 21, 29, 39, 41, 98, 99}, badIds...) {
			check(l, id)
		}
	}
	// From a list that is no source nothing is taken, even if a source would
	// be left.
	for _, l := range noSources() {
		for _, id := range []int{0, 1, 4, 5, 9, 16, 17, 30, 40, 50, 99} {
			check(l, id)
		}
		for _, f := range l {
			check(l, f.Id)
		}
	}
}

func TestWhatIsPutCanBeTakenAway(t *testing.T) {
	ids := []int{1, 2, 50, 98, 99}
	for set := range 1 << len(ids) {
		here := []int{}
		for i, id := range ids {
			if set>>i&1 == 1 {
				here = append(here, id)
			}
		}
		for _, id := range []int{1, 2, 3, 49, 50, 51, 97, 98, 99} {
			others := slices.DeleteFunc(slices.Clone(here), func(other int) bool { return other == id })
			before := slices.IndexFunc(append(slices.Clone(others), 100), func(other int) bool { return other > id })
			for _, f := range []impl.Feature{
				plain(id), feature(id, impl.KdPoint, 0, "", at(200, 200)), feature(id, impl.KdLine, 9, "a", stairs(10)...), feature(id, impl.KdArea, 4, "abcdefgh", through(0, 0, 200, 0, 0, 200)...),
			} {
				want := slices.Insert(plains(others...), before, f)
				checkPut(t, plains(here...), f, want)
				checkTake(t, want, id, plains(others...))
				put, _ := impl.PutFeature(plains(here...), f)
				checkTake(t, put, id, plains(others...))
			}
		}
	}
}

func TestASourceIsBuiltAndTakenApart(t *testing.T) {
	for step := 1; step <= 16; step++ {
		// The order in which the features come differs with the step.
		order, l, ok := []int{}, []impl.Feature(nil), false
		for i := range 17 {
			if id := (i+1)*step%17 + 1; id != 1 {
				order = append(order, id)
			}
		}
		for i, id := range order {
			l, ok = impl.PutFeature(l, plain(id))
			if want := plains(slices.Sorted(slices.Values(order[:i+1]))...); !ok || !sameFeatures(l, want) {
				t.Fatalf("%v, put in order: %v, %v", order[:i+1], l, ok)
			}
		}
		for i, id := range order {
			l, ok = impl.TakeFeature(l, id)
			if want := plains(slices.Sorted(slices.Values(order[i+1:]))...); !ok || !sameFeatures(l, want) {
				t.Fatalf("%v, taken in order: %v, %v", order[:i+1], l, ok)
			}
		}
	}
}

// nearly are features that differ from one another in one field only, in one
// point only, or in the number of points only.
func nearly() []impl.Feature {
	f := feature(5, impl.KdLine, 3, "road", through(0, 0, 4, 0, 4, 3)...)
	l := []impl.Feature{{}, {Points: through(0, 0)}, {Id: 1}, {Kind: 1}, {Rank: 1}, {Name: "a"}, f}
	for _, change := range []func(f *impl.Feature){
		func(f *impl.Feature) { f.Id = 6 },
		func(f *impl.Feature) { f.Id = math.MinInt },
		func(f *impl.Feature) { f.Id = 1<<32 + 5 },
		func(f *impl.Feature) { f.Kind = impl.KdArea },
		func(f *impl.Feature) { f.Kind = -9 },
		func(f *impl.Feature) { f.Rank = 4 },
		func(f *impl.Feature) { f.Rank = math.MaxInt },
		func(f *impl.Feature) { f.Id, f.Rank = 3, 5 },
		func(f *impl.Feature) { f.Name = "" },
		func(f *impl.Feature) { f.Name = "roae" },
		func(f *impl.Feature) { f.Name = "noad" },
		func(f *impl.Feature) { f.Name = "roads" },
		func(f *impl.Feature) { f.Name = "roa" },
		func(f *impl.Feature) { f.Name = "Road" },
		func(f *impl.Feature) { f.Points = nil },
		func(f *impl.Feature) { f.Points = through(0, 0, 4, 0) },
		func(f *impl.Feature) { f.Points = through(4, 0, 4, 3) },
		func(f *impl.Feature) { f.Points = through(0, 0, 4, 0, 4, 3, 4, 3) },
		func(f *impl.Feature) { f.Points = through(0, 0, 4, 0, 4, 3, 0, 0) },
		func(f *impl.Feature) { f.Points = through(4, 3, 4, 0, 0, 0) },
		func(f *impl.Feature) { f.Points = through(0, 0, 0, 4, 3, 4) },
		func(f *impl.Feature) { f.Points = through(1, 0, 4, 0, 4, 3) },
		func(f *impl.Feature) { f.Points = through(0, 0, 4, 1, 4, 3) },
		func(f *impl.Feature) { f.Points = through(0, 0, 4, 0, 4, 2) },
		func(f *impl.Feature) { f.Points = through(0, 0, 4, 0, 5, 3) },
		func(f *impl.Feature) { f.Points = through(-1, 201, 4, 0, 4, 3) },
	} {
		g := f
		change(&g)
		l = append(l, g)
	}
	return l
}

func TestEqualFeatures(t *testing.T) {
	for i, a := range nearly() {
		for j, b := range nearly() {
			if got := impl.EqualFeatures(a, b); got != (i == j) {
				t.Errorf("EqualFeatures(%v, %v) = %v: features %d and %d", a, b, got, i, j)
			}
		}
		// The same points in memory of their own, and in the same memory.
		b := copied([]impl.Feature{a})[0]
		b.Points, _ = roomy(b.Points, at(3, 3))
		if !impl.EqualFeatures(a, b) || !impl.EqualFeatures(b, a) || !impl.EqualFeatures(a, a) {
			t.Errorf("%v is not equal to itself", a)
		}
	}
	none, empty := feature(1, impl.KdPoint, 0, ""), impl.Feature{Id: 1, Kind: impl.KdPoint, Points: through()}
	if !impl.EqualFeatures(none, empty) || !impl.EqualFeatures(empty, none) {
		t.Error("features without points differ")
	}
	five := stairs(5)
	if impl.EqualFeatures(feature(1, impl.KdLine, 0, "", five...), feature(1, impl.KdLine, 0, "", five[:4]...)) {
		t.Error("features that share the memory of their points are equal, but one has more")
	}
}

func TestEqualSources(t *testing.T) {
	lists := [][]impl.Feature{
		plains(), plains(1), plains(2), plains(1, 2), plains(2, 1), plains(1, 2, 3), plains(1, 3), plains(2, 3), plains(1, 1), plains(1, 2, 2),
		plains(idsUpTo(16)...), plains(idsUpTo(15)...), plains(idsUpTo(17)...), plains(3, 6), plains(6, 3), {{}}, {{}, {}},
	}
	for _, f := range nearly()[1:] {
		lists = append(lists, []impl.Feature{f}, []impl.Feature{plain(1), f}, []impl.Feature{f, plain(99)}, []impl.Feature{plain(1), f, plain(99)})
	}
	for i, a := range lists {
		for j, b := range lists {
			if got := impl.EqualSources(a, copied(b)); got != (i == j) {
				t.Errorf("EqualSources(%v, %v) = %v: lists %d and %d", a, b, got, i, j)
			}
		}
		if !impl.EqualSources(a, a) {
			t.Errorf("%v is not equal to itself", a)
		}
	}
	if !impl.EqualSources(nil, nil) || !impl.EqualSources(nil, plains()) || !impl.EqualSources(plains(), nil) {
		t.Error("an empty list is not equal to a nil one")
	}
	if impl.EqualSources(nil, plains(1)) || impl.EqualSources(plains(1), nil) {
		t.Error("a nil list is equal to one with a feature")
	}
	for _, bad := range noSources() {
		if !impl.EqualSources(bad, copied(bad)) || impl.EqualSources(bad, append(copied(bad), plain(1))) || impl.EqualSources(bad, copied(bad)[1:]) {
			t.Errorf("%v is not equal to itself, or to a longer or shorter list", bad)
		}
	}
}

// featureMemory is the memory of a list of features and of their points,
// with all spare capacity.
type featureMemory struct {
	list   []impl.Feature
	points [][]impl.Point
}

func roomyFeatures(l []impl.Feature) ([]impl.Feature, featureMemory) {
	memory, given := featureMemory{}, slices.Clone(l)
	for i := range given {
		short, whole := roomy(given[i].Points, at(3, 3))
		given[i].Points = short
		memory.points = append(memory.points, whole)
	}
	given, memory.list = roomy(given, feature(88, impl.KdPoint, 8, "spare", at(8, 8)))
	return given, memory
}

func (m featureMemory) overwrite() {
	for _, points := range m.points {
		overwrite(points, at(4, 9))
	}
	overwrite(m.list, feature(77, impl.KdPoint, 7, "other", at(9, 4)))
}

// checkFeaturesApart is checkApartOf for a list of features and one more. No
// two features of a result may share points, either.
func checkFeaturesApart(t *testing.T, name string, l []impl.Feature, f impl.Feature, call func(l []impl.Feature, f impl.Feature) []impl.Feature) {
	t.Helper()
	list, listMemory := roomyFeatures(l)
	one, oneMemory := roomyFeatures([]impl.Feature{f})
	before := fmt.Sprint(listMemory, oneMemory)
	result := call(list, one[0])
	again := call(list, one[0])
	kept := copied(result)
	for i := range again {
		overwrite(again[i].Points, at(6, 6))
		if !sameFeatures(again[i+1:], kept[i+1:]) {
			t.Errorf("%s: feature %d of the result for %v shares points with one behind it", name, i, l)
		}
	}
	overwrite(again, feature(66, impl.KdPoint, 6, "mark", at(6, 6)))
	if got := fmt.Sprint(listMemory, oneMemory); got != before {
		t.Errorf("%s: the arguments are %s, were %s", name, got, before)
	}
	listMemory.overwrite()
	oneMemory.overwrite()
	if !sameFeatures(result, kept) {
		t.Errorf("%s: the result is %v, was %v", name, result, kept)
	}
}

func TestFeaturesShareNoMemory(t *testing.T) {
	lists := [][]impl.Feature{
		nil, plains(), plains(40), plains(30, 50), plains(30, 40, 50), plains(3, 6, 9), plains(idsUpTo(15)...), plains(idsUpTo(16)...),
	}
	// There are thousands, most of them much like their neighbours.
	for i, l := range noSources() {
		if i < 20 || i%37 == 0 {
			lists = append(lists, l)
		}
	}
	features := []impl.Feature{plain(40), plain(20), plain(60), plain(17), plain(3), feature(40, impl.KdLine, 0, "", stairs(10)...), {}, feature(40, 4, 0, "", at(5, 5)), feature(100, impl.KdPoint, 0, "", at(5, 5))}
	for _, l := range lists {
		for _, f := range features {
			checkFeaturesApart(t, "PutFeature", l, f, func(l []impl.Feature, f impl.Feature) []impl.Feature {
				got, _ := impl.PutFeature(l, f)
				return got
			})
			checkFeaturesApart(t, "TakeFeature", l, f, func(l []impl.Feature, f impl.Feature) []impl.Feature {
				got, _ := impl.TakeFeature(l, f.Id)
				return got
			})
			checkFeaturesApart(t, "the other functions", l, f, func(l []impl.Feature, f impl.Feature) []impl.Feature {
				impl.IsFeature(f)
				impl.IsSource(l)
				impl.FindFeature(l, f.Id)
				impl.EqualSources(l, append([]impl.Feature{f}, l...))
				for _, g := range l {
					impl.EqualFeatures(g, f)
				}
				return nil
			})
		}
	}
}

func TestFeaturesAtTheSamePlaceGetPointsOfTheirOwn(t *testing.T) {
	shared, _ := roomy(stairs(3), at(3, 3))
	l := []impl.Feature{}
	for _, id := range []int{10, 20, 30} {
		l = append(l, feature(id, impl.KdLine, 0, "", shared...))
	}
	check := func(got []impl.Feature) {
		t.Helper()
		for i := range got {
			kept := copied(got)
			overwrite(got[i].Points, at(6, 6))
			kept[i].Points = got[i].Points
			if !sameFeatures(got, kept) || !slices.Equal(shared, stairs(3)) {
				t.Errorf("feature %d shares its points: %v, %v", i, got, shared)
			}
		}
	}
	for _, id := range []int{5, 10, 15, 20, 30, 35, 0, 100} {
		put, _ := impl.PutFeature(l, feature(id, impl.KdLine, 0, "", shared...))
		check(put)
		taken, _ := impl.TakeFeature(l, id)
		check(taken)
		put, _ = impl.PutFeature(slices.Concat(l, l), l[0])
		check(put)
		taken, _ = impl.TakeFeature(slices.Concat(l, l), id)
		check(taken)
	}
}
