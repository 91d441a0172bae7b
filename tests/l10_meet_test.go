package tests

import (
	"fmt"
	"math"
	"math/rand/v2"
	"slices"
	"testing"

	"loop.example/g03005/impl"
)

func meet(a, b, how int) impl.Meet {
	return impl.Meet{A: a, B: b, How: how}
}

// mark, road and land are features of which only the points count.
func mark(coordinates ...int) impl.Feature {
	return feature(1, impl.KdPoint, 0, "", through(coordinates...)...)
}

func road(coordinates ...int) impl.Feature {
	return feature(2, impl.KdLine, 0, "", through(coordinates...)...)
}

func land(coordinates ...int) impl.Feature {
	return feature(3, impl.KdArea, 0, "", through(coordinates...)...)
}

// numbered gives the features of a list Ids.
func numbered(l []impl.Feature, ids ...int) []impl.Feature {
	given := slices.Clone(l)
	for i := range given {
		given[i].Id = ids[i]
	}
	return given
}

// sameWay are the features that have the same parts, some of them turned, as
// one: a line both ways, and an area from each of its points.
func sameWay(f impl.Feature) []impl.Feature {
	ways := [][]impl.Point{f.Points}
	switch f.Kind {
	case impl.KdLine:
		ways = [][]impl.Point{f.Points, backwards(f.Points)}
	case impl.KdArea:
		ways = everyWay(f.Points)
	}
	features := []impl.Feature{}
	for _, l := range ways {
		features = append(features, feature(f.Id, f.Kind, f.Rank, f.Name, l...))
	}
	return features
}

// partsAsSaid are the segments of a valid feature.
func partsAsSaid(f impl.Feature) []impl.Segment {
	switch f.Kind {
	case impl.KdLine:
		return joints(f.Points)
	case impl.KdArea:
		return ringJoints(f.Points)
	}
	return nil
}

func (m meetings) howFeaturesMeet(a, b impl.Feature) int {
	greatest := 0
	for _, s := range partsAsSaid(a) {
		for _, o := range partsAsSaid(b) {
			greatest = max(greatest, m.how(s, o))
		}
	}
	return greatest
}

// meetsAsSaid are the meetings of a list that is a source.
func (m meetings) meetsAsSaid(l []impl.Feature) []impl.Meet {
	meets := []impl.Meet{}
	for i, a := range l {
		for _, b := range l[i+1:] {
			if how := m.howFeaturesMeet(a, b); how != 0 {
				meets = append(meets, meet(a.Id, b.Id, how))
			}
		}
	}
	return meets
}

// checkFeaturesMeet checks a pair in both orders, and with the points of both
// in every way.
func checkFeaturesMeet(t *testing.T, a, b impl.Feature, want int) {
	t.Helper()
	for _, f := range sameWay(a) {
		for _, g := range sameWay(b) {
			if got := impl.FeaturesMeet(f, g); got != want {
				t.Fatalf("FeaturesMeet(%v, %v) = %d, want %d", f, g, got, want)
			}
			if got := impl.FeaturesMeet(g, f); got != want {
				t.Fatalf("FeaturesMeet(%v, %v) = %d, want %d", g, f, got, want)
			}
		}
	}
}

func checkMeetsOf(t *testing.T, l []impl.Feature, want []impl.Meet) {
	t.Helper()
	if got := impl.MeetsOf(l); !slices.Equal(got, want) {
		t.Errorf("MeetsOf(%v) = %v, want %v", l, got, want)
	}
}

func TestPartsOf(t *testing.T) {
	cases := []struct {
		f    impl.Feature
		want []impl.Segment
	}{
		{mark(5, 5), nil},
		{mark(0, 200), nil},
		{road(0, 0, 9, 9), []impl.Segment{from(0, 0, 9, 9)}},
		{road(9, 9, 0, 0), []impl.Segment{from(9, 9, 0, 0)}},
		{road(0, 0, 4, 0, 4, 3), []impl.Segment{from(0, 0, 4, 0), from(4, 0, 4, 3)}},
		{road(0, 0, 4, 0, 8, 0), []impl.Segment{from(0, 0, 4, 0), from(4, 0, 8, 0)}},
		{land(0, 0, 4, 0, 0, 4), []impl.Segment{from(0, 0, 4, 0), from(4, 0, 0, 4), from(0, 4, 0, 0)}},
		{land(4, 0, 0, 4, 0, 0), []impl.Segment{from(4, 0, 0, 4), from(0, 4, 0, 0), from(0, 0, 4, 0)}},
		{land(0, 0, 0, 4, 4, 0), []impl.Segment{from(0, 0, 0, 4), from(0, 4, 4, 0), from(4, 0, 0, 0)}},
		{land(0, 0, 200, 0, 200, 200, 0, 200), []impl.Segment{from(0, 0, 200, 0), from(200, 0, 200, 200), from(200, 200, 0, 200), from(0, 200, 0, 0)}},
	}
	for _, c := range cases {
		if got := impl.PartsOf(c.f); !slices.Equal(got, c.want) {
			t.Errorf("PartsOf(%v) = %v, want %v", c.f, got, c.want)
		}
	}
	ten := map[int]int{}
	for kind, lists := range goodPlaces() {
		for _, l := range lists {
			f := feature(99, kind, 9, "abcdefgh", l...)
			got := impl.PartsOf(f)
			if !slices.Equal(got, partsAsSaid(f)) {
				t.Errorf("PartsOf(%v) = %v", f, got)
			}
			ten[kind] = max(ten[kind], len(got))
		}
	}
	if ten[impl.KdPoint] != 0 || ten[impl.KdLine] != 9 || ten[impl.KdArea] != 10 {
		t.Errorf("the most parts of each kind are %v", ten)
	}
}

func TestPartsOfRejects(t *testing.T) {
	for _, f := range badFeatures(40) {
		if got := impl.PartsOf(f); len(got) != 0 {
			t.Errorf("PartsOf(%v) = %v", f, got)
		}
	}
}

// meetCases are pairs of features and how they meet.
func meetCases() map[string]struct {
	a, b impl.Feature
	want int
} {
	square := land(10, 10, 20, 10, 20, 20, 10, 20)
	return map[string]struct {
		a, b impl.Feature
		want int
	}{
		"lines that cross":                               {road(0, 0, 8, 8), road(0, 8, 8, 0), impl.MtCross},
		"lines that cross twice":                         {road(0, 0, 9, 0, 9, 9), road(5, 0, 5, 1, 12, 1, 12, 5, 3, 5), impl.MtCross},
		"lines that touch at an end of both":             {road(0, 0, 8, 8), road(8, 8, 8, 0), impl.MtTouch},
		"lines that touch at an end of one":              {road(0, 0, 8, 8), road(4, 4, 8, 0), impl.MtTouch},
		"lines that go on":                               {road(0, 0, 4, 4), road(4, 4, 8, 8), impl.MtTouch},
		"lines that go through a corner of the other":    {road(0, 0, 4, 4, 8, 0), road(4, 0, 4, 8), impl.MtTouch},
		"lines along one another":                        {road(0, 0, 8, 8), road(6, 6, 9, 9), impl.MtAlong},
		"lines along one another in between":             {road(0, 0, 9, 9), road(3, 3, 5, 5), impl.MtAlong},
		"lines along one another the other way":          {road(0, 0, 8, 0), road(9, 0, 1, 0), impl.MtAlong},
		"lines beside one another":                       {road(0, 0, 8, 0), road(0, 1, 8, 1), impl.MtNone},
		"lines on one straight line":                     {road(0, 0, 3, 0), road(4, 0, 8, 0), impl.MtNone},
		"lines apart":                                    {road(0, 0, 3, 0), road(100, 200, 200, 100), impl.MtNone},
		"lines along the edge of the map":                {road(0, 0, 200, 0, 200, 200), road(200, 100, 200, 200, 0, 200), impl.MtAlong},
		"diagonals of the map":                           {road(0, 0, 200, 200), road(0, 200, 200, 0), impl.MtCross},
		"a touch before a crossing":                      {road(0, 0, 8, 0, 8, 8), road(0, 0, 0, 4, 9, 4), impl.MtCross},
		"a crossing before a touch":                      {road(0, 0, 8, 0, 8, 8), road(4, 2, 4, 8, 8, 8), impl.MtTouch},
		"a crossing before an end":                       {road(0, 0, 8, 0, 8, 8), road(9, 4, 4, 4, 4, 0), impl.MtCross},
		"a crossing before a way along":                  {road(0, 1, 8, 1, 8, 8), road(4, 0, 4, 8, 8, 8, 8, 6), impl.MtAlong},
		"a touch, a crossing and a way along":            {road(0, 0, 4, 0, 8, 0, 12, 0), road(2, 0, 2, 3, 6, 3, 6, 2, 7, 2, 7, 1, 9, 1, 9, 0, 10, 0), impl.MtAlong},
		"areas that share a side":                        {square, land(20, 10, 30, 10, 30, 20, 20, 20), impl.MtAlong},
		"areas that share a slanting side":               {land(0, 0, 8, 8, 0, 8), land(0, 0, 8, 0, 8, 8), impl.MtAlong},
		"areas that share a part of a side":              {square, land(20, 13, 30, 13, 30, 17, 20, 17), impl.MtAlong},
		"areas that share the end of a side":             {square, land(20, 15, 30, 15, 30, 25, 20, 25), impl.MtAlong},
		"areas that share the side from last to first":   {land(0, 0, 4, 0, 4, 4, 0, 4), land(0, 4, 4, 4, 4, 8, 0, 8), impl.MtAlong},
		"areas that share one corner":                    {square, land(20, 20, 30, 20, 30, 30), impl.MtTouch},
		"areas with a corner on a side":                  {square, land(20, 15, 30, 10, 30, 20), impl.MtTouch},
		"areas with a corner on a side from inside":      {square, land(20, 15, 12, 12, 12, 18), impl.MtTouch},
		"areas that cross":                               {square, land(15, 15, 25, 15, 25, 25, 15, 25), impl.MtCross},
		"areas that cross as a star":                     {land(10, 20, 20, 20, 15, 10), land(10, 13, 20, 13, 15, 23), impl.MtCross},
		"one area inside the other":                      {square, land(12, 12, 18, 12, 18, 18, 12, 18), impl.MtNone},
		"one area inside the other at a side":            {square, land(12, 10, 18, 10, 18, 18, 12, 18), impl.MtAlong},
		"one area around the other":                      {land(14, 14, 16, 14, 15, 16), square, impl.MtNone},
		"areas apart":                                    {square, land(21, 10, 30, 10, 30, 20, 21, 20), impl.MtNone},
		"the whole map and an area inside":               {land(0, 0, 200, 0, 200, 200, 0, 200), land(1, 1, 199, 1, 199, 199), impl.MtNone},
		"the whole map and an area at the edge":          {land(0, 0, 200, 0, 200, 200, 0, 200), land(199, 199, 199, 1, 200, 5), impl.MtTouch},
		"an area and a line along its side":              {square, road(20, 0, 20, 30), impl.MtAlong},
		"an area and its side":                           {square, road(20, 10, 20, 20), impl.MtAlong},
		"an area and a part of its side":                 {square, road(20, 12, 20, 14), impl.MtAlong},
		"an area and its side from last to first":        {square, road(10, 12, 10, 14), impl.MtAlong},
		"an area and a line on from its side":            {square, road(20, 20, 20, 30), impl.MtTouch},
		"an area and a line across":                      {square, road(5, 15, 25, 15), impl.MtCross},
		"an area and a line into it":                     {square, road(5, 15, 15, 15), impl.MtCross},
		"an area and a line through two corners":         {square, road(5, 5, 25, 25), impl.MtTouch},
		"an area and a line past a corner":               {square, road(15, 25, 25, 15), impl.MtTouch},
		"an area and a line that ends on it":             {square, road(25, 15, 20, 15), impl.MtTouch},
		"an area and a line that ends at a corner":       {square, road(25, 5, 20, 10), impl.MtTouch},
		"an area and a line that ends on it, inside":     {square, road(15, 15, 10, 15), impl.MtTouch},
		"an area and a line that ends on it and crosses": {square, road(10, 15, 15, 15, 15, 25), impl.MtCross},
		"an area and a line inside":                      {square, road(12, 12, 18, 15, 12, 18), impl.MtNone},
		"an area and a line inside from side to side":    {square, road(10, 15, 20, 15), impl.MtTouch},
		"an area and a line beside":                      {square, road(21, 0, 21, 30), impl.MtNone},
		"an area and a line where it has none":           {land(0, 0, 8, 0, 8, 8), road(0, 2, 0, 8, 6, 8), impl.MtNone},
		"an area and a line across its last side":        {land(0, 0, 8, 0, 8, 8), road(0, 6, 4, 2), impl.MtCross},
		"a place and a line through it":                  {mark(4, 4), road(0, 0, 8, 8), impl.MtNone},
		"a place and a line that ends there":             {mark(8, 8), road(0, 0, 8, 8), impl.MtNone},
		"a place and an area around it":                  {mark(15, 15), square, impl.MtNone},
		"a place and an area with it as a corner":        {mark(10, 10), square, impl.MtNone},
		"a place and a place":                            {mark(4, 4), mark(4, 4), impl.MtNone},
	}
}

func TestFeaturesMeet(t *testing.T) {
	for name, c := range meetCases() {
		t.Run(name, func(t *testing.T) {
			checkFeaturesMeet(t, c.a, c.b, c.want)
			// Nothing but the kind and the points counts.
			for _, id := range []int{1, 50, 99} {
				a, b := c.a, c.b
				a.Id, a.Rank, a.Name = id, id%10, "abcdefgh"
				b.Id, b.Rank, b.Name = 50, 9-id%10, ""
				if got := impl.FeaturesMeet(a, b); got != c.want {
					t.Errorf("FeaturesMeet(%v, %v) = %d", a, b, got)
				}
			}
		})
	}
}

func TestFeaturesMeetThemselvesAlong(t *testing.T) {
	want := map[int]int{impl.KdPoint: impl.MtNone, impl.KdLine: impl.MtAlong, impl.KdArea: impl.MtAlong}
	for kind, lists := range goodPlaces() {
		for _, l := range lists {
			f := feature(40, kind, 3, "oak", l...)
			if got := impl.FeaturesMeet(f, f); got != want[kind] {
				t.Fatalf("%v meets itself as %d", f, got)
			}
			for _, other := range sameWay(f) {
				other.Id = 41
				if got := impl.FeaturesMeet(f, other); got != want[kind] {
					t.Fatalf("FeaturesMeet(%v, %v) = %d", f, other, got)
				}
			}
		}
	}
}

// Each part is met by a probe that meets no other one.
func TestEachPartCounts(t *testing.T) {
	corners := []impl.Point{}
	for _, p := range shapes()["stairs of ten"].l {
		corners = append(corners, at(20*p.X+20, 20*p.Y+20))
	}
	for _, f := range []impl.Feature{feature(2, impl.KdLine, 0, "", stairs(10)...), feature(3, impl.KdArea, 0, "", corners...)} {
		for _, s := range partsAsSaid(f) {
			x, y := (s.A.X+s.B.X)/2, (s.A.Y+s.B.Y)/2
			checkFeaturesMeet(t, f, road(x+1, y+1, x+3, y+3), impl.MtNone)
			checkFeaturesMeet(t, f, road(x, y, x+3, y+3), impl.MtTouch)
			checkFeaturesMeet(t, f, road(x-2, y-2, x+2, y+2), impl.MtCross)
			if s.A.Y == s.B.Y {
				checkFeaturesMeet(t, f, road(x, y, x+3, y), impl.MtAlong)
			} else {
				checkFeaturesMeet(t, f, road(x, y, x, y+3), impl.MtAlong)
			}
		}
	}
}

func TestFeaturesMeetRejects(t *testing.T) {
	good := []impl.Feature{
		road(0, 0, 200, 200), road(0, 4, 4, 0), road(10, 10, 30, 10, 30, 30), land(0, 0, 4, 0, 0, 4), land(0, 0, 200, 0, 200, 200, 0, 200), mark(5, 5),
	}
	for _, bad := range badFeatures(40) {
		for _, f := range append(good, bad) {
			if got := impl.FeaturesMeet(f, bad); got != impl.MtNone {
				t.Errorf("FeaturesMeet(%v, %v) = %d", f, bad, got)
			}
			if got := impl.FeaturesMeet(bad, f); got != impl.MtNone {
				t.Errorf("FeaturesMeet(%v, %v) = %d", bad, f, got)
			}
		}
	}
}

func TestFeaturesMeetAsTheirPartsDo(t *testing.T) {
	known, found := meetings{}, map[int]int{}
	features := []impl.Feature{mark(1, 1)}
	for _, l := range linesThrough(pointsOf([]int{0, 1, 2}), 3) {
		for kind := impl.KdLine; kind <= impl.KdArea; kind++ {
			if f := feature(40, kind, 0, "", l...); impl.IsFeature(f) {
				features = append(features, f)
			}
		}
	}
	for i, a := range features {
		// All pairs would take long.
		for j := i % 5; j < len(features); j += 5 {
			b := features[j]
			want := known.howFeaturesMeet(a, b)
			if got := impl.FeaturesMeet(a, b); got != want {
				t.Fatalf("FeaturesMeet(%v, %v) = %d, want %d", a, b, got, want)
			}
			found[want]++
		}
	}
	for how := impl.MtNone; how <= impl.MtAlong; how++ {
		if found[how] < 100 {
			t.Errorf("of %d pairs %d meet as %d", len(features)*len(features)/5, found[how], how)
		}
	}
}

// crowd are lines of which every pair meets: those with an even Id cross all
// with an odd one, and lie along one another like these.
func crowd(ids ...int) []impl.Feature {
	l := []impl.Feature{}
	for _, id := range ids {
		if id%2 == 0 {
			l = append(l, feature(id, impl.KdLine, 0, "", through(0, 50, 100+id, 50)...))
		} else {
			l = append(l, feature(id, impl.KdLine, 0, "", through(50, 0, 50, 100+id)...))
		}
	}
	return l
}

// crowdMeets are the meetings of a crowd.
func crowdMeets(ids ...int) []impl.Meet {
	meets := []impl.Meet{}
	for i, a := range ids {
		for _, b := range ids[i+1:] {
			how := impl.MtAlong
			if (a+b)%2 == 1 {
				how = impl.MtCross
			}
			meets = append(meets, meet(a, b, how))
		}
	}
	return meets
}

func TestMeetsOf(t *testing.T) {
	across, down, side, corner := road(0, 15, 30, 15), road(15, 0, 15, 30), land(10, 10, 20, 10, 20, 20, 10, 20), land(20, 20, 30, 20, 30, 30)
	far, place := road(100, 100, 200, 200), mark(15, 15)
	cases := []struct {
		name string
		l    []impl.Feature
		want []impl.Meet
	}{
		{"a nil list", nil, nil},
		{"an empty source", plains(), nil},
		{"one line", numbered([]impl.Feature{across}, 5), nil},
		{"one area", numbered([]impl.Feature{side}, 5), nil},
		{"one place", numbered([]impl.Feature{place}, 5), nil},
		{"two lines", numbered([]impl.Feature{across, down}, 5, 9), []impl.Meet{meet(5, 9, impl.MtCross)}},
		{"the least and the greatest Id", numbered([]impl.Feature{down, across}, 1, 99), []impl.Meet{meet(1, 99, impl.MtCross)}},
		{"two lines apart", numbered([]impl.Feature{across, far}, 5, 9), nil},
		{"two lines and one apart", numbered([]impl.Feature{across, far, down}, 5, 7, 9), []impl.Meet{meet(5, 9, impl.MtCross)}},
		{"two places", numbered([]impl.Feature{place, place}, 5, 9), nil},
		{"a place between lines", numbered([]impl.Feature{across, place, down}, 5, 7, 9), []impl.Meet{meet(5, 9, impl.MtCross)}},
		{"places around lines", numbered([]impl.Feature{place, across, place, place, down, place}, 1, 5, 6, 7, 9, 11), []impl.Meet{meet(5, 9, impl.MtCross)}},
		{"every kind of meeting", numbered([]impl.Feature{across, down, side, corner, far, place}, 2, 3, 5, 8, 13, 21), []impl.Meet{
			meet(2, 3, impl.MtCross), meet(2, 5, impl.MtCross), meet(3, 5, impl.MtCross), meet(5, 8, impl.MtTouch),
		}},
		{"the same in another order", numbered([]impl.Feature{corner, place, side, far, down, across}, 2, 3, 5, 8, 13, 21), []impl.Meet{
			meet(2, 5, impl.MtTouch), meet(5, 13, impl.MtCross), meet(5, 21, impl.MtCross), meet(13, 21, impl.MtCross),
		}},
		{"areas in a row", numbered([]impl.Feature{land(0, 0, 4, 0, 4, 4, 0, 4), land(4, 0, 8, 0, 8, 4, 4, 4), land(8, 0, 12, 0, 12, 4, 8, 4), land(12, 4, 12, 8, 8, 4)}, 10, 20, 30, 40), []impl.Meet{
			meet(10, 20, impl.MtAlong), meet(20, 30, impl.MtAlong), meet(20, 40, impl.MtTouch), meet(30, 40, impl.MtAlong),
		}},
		{"lines along one another", numbered([]impl.Feature{across, road(30, 15, 0, 15), across}, 5, 6, 7), []impl.Meet{meet(5, 6, impl.MtAlong), meet(5, 7, impl.MtAlong), meet(6, 7, impl.MtAlong)}},
		{"a crowd of three", crowd(1, 2, 3), []impl.Meet{meet(1, 2, impl.MtCross), meet(1, 3, impl.MtAlong), meet(2, 3, impl.MtCross)}},
		{"a crowd of fifteen", crowd(idsUpTo(15)...), crowdMeets(idsUpTo(15)...)},
		{"a crowd of sixteen", crowd(idsUpTo(16)...), crowdMeets(idsUpTo(16)...)},
	}
	for _, c := range cases {
		t.Run(c.name, func(t *testing.T) { checkMeetsOf(t, c.l, c.want) })
	}
	if got := len(impl.MeetsOf(crowd(idsUpTo(16)...))); got != 120 {
		t.Errorf("sixteen features have %d meetings", got)
	}
}

func TestEveryPairOfASourceIsTold(t *testing.T) {
	// In each source just one pair meets.
	for i := range 16 {
		for j := i + 1; j < 16; j++ {
			l := []impl.Feature{}
			for k := range 16 {
				l = append(l, feature(80+k, impl.KdLine, 0, "", through(0, 10*k, 5, 10*k)...))
			}
			l[j] = feature(80+j, impl.KdArea, 0, "", through(3, 10*i, 0, 10*i+4, 5, 10*i+4)...)
			checkMeetsOf(t, l, []impl.Meet{meet(80+i, 80+j, impl.MtTouch)})
			if i > 0 {
				l[j] = feature(80+j, impl.KdLine, 0, "", through(3, 10*i+4, 3, 10*i-4)...)
				checkMeetsOf(t, l, []impl.Meet{meet(80+i, 80+j, impl.MtCross)})
			}
		}
	}
}

// randomSource has features of all kinds near to one another.
func randomSource(random *rand.Rand, size int) []impl.Feature {
	l := []impl.Feature{}
	for id := random.IntN(5) + 1; len(l) < size; id += 1 + random.IntN(5) {
		f := impl.Feature{}
		for !impl.IsFeature(f) {
			f = feature(id, 1+random.IntN(3), random.IntN(10), goodNames[random.IntN(len(goodNames))])
			for range []int{1, 2 + random.IntN(3), 3 + random.IntN(3)}[f.Kind-1] {
				f.Points = append(f.Points, at(random.IntN(9), random.IntN(9)))
			}
		}
		l = append(l, f)
	}
	return l
}

func TestEveryMeetingOfASourceIsTold(t *testing.T) {
	random, known := rand.New(rand.NewPCG(10, 1)), meetings{}
	for round := range 300 {
		l := randomSource(random, round%17)
		want := known.meetsAsSaid(l)
		checkMeetsOf(t, l, want)
		told := map[[2]int]int{}
		for _, m := range impl.MeetsOf(l) {
			told[[2]int{m.A, m.B}] = m.How
		}
		for i, a := range l {
			for _, b := range l[i+1:] {
				if got := impl.FeaturesMeet(a, b); got != told[[2]int{a.Id, b.Id}] {
					t.Fatalf("FeaturesMeet(%v, %v) = %d, but %v is told", a, b, got, told)
				}
			}
		}
		// What is taken away takes its meetings with it.
		for _, f := range l {
			left, _ := impl.TakeFeature(l, f.Id)
			without := slices.DeleteFunc(slices.Clone(want), func(m impl.Meet) bool { return m.A == f.Id || m.B == f.Id })
			checkMeetsOf(t, left, without)
			if !impl.NoMore(without, want) || impl.NoMore(want, without) != (len(want) == len(without)) {
				t.Fatalf("NoMore of %v and %v is wrong", without, want)
			}
		}
	}
}

func TestMeetsOfRejects(t *testing.T) {
	for _, l := range noSources() {
		checkMeetsOf(t, l, nil)
	}
	checkMeetsOf(t, crowd(2, 1), nil)
	checkMeetsOf(t, crowd(1, 1), nil)
	checkMeetsOf(t, crowd(1, 2, 2), nil)
	checkMeetsOf(t, crowd(1, 3, 2), nil)
	checkMeetsOf(t, crowd(5, 3, 7), nil)
	checkMeetsOf(t, crowd(0, 1, 2), nil)
	checkMeetsOf(t, crowd(1, 2, 100), nil)
	checkMeetsOf(t, crowd(idsUpTo(17)...), nil)
	checkMeetsOf(t, crowd(idsUpTo(99)...), nil)
	checkMeetsOf(t, slices.Repeat(crowd(7), 500), nil)
	for _, bad := range badFeatures(5) {
		for place := range 3 {
			checkMeetsOf(t, slices.Insert(crowd(4, 6), place, bad), nil)
		}
	}
	for place := range 16 {
		l := crowd(idsUpTo(16)...)
		l[place].Rank = 10
		checkMeetsOf(t, l, nil)
	}
}

func TestCountMeets(t *testing.T) {
	l := []impl.Meet{
		meet(1, 2, impl.MtCross), meet(1, 3, impl.MtTouch), meet(2, 3, impl.MtCross), meet(1, 2, impl.MtCross), meet(3, 2, impl.MtAlong),
		meet(5, 5, 4), meet(0, 0, -1), meet(0, 0, math.MinInt), meet(0, 0, math.MaxInt), meet(-7, 300, -1), meet(9, 8, 1<<32+1),
	}
	cases := []struct {
		l         []impl.Meet
		how, want int
	}{
		{nil, impl.MtNone, 0}, {nil, impl.MtTouch, 0}, {[]impl.Meet{}, impl.MtAlong, 0}, {nil, -1, 0}, {nil, math.MinInt, 0},
		{l, impl.MtNone, 0}, {l, impl.MtTouch, 1}, {l, impl.MtCross, 3}, {l, impl.MtAlong, 1},
		{l, 4, 1}, {l, -1, 2}, {l, 5, 0}, {l, -2, 0}, {l, math.MinInt, 1}, {l, math.MaxInt, 1}, {l, 1<<32 + 1, 1}, {l, 1 << 32, 0},
		{[]impl.Meet{{}}, impl.MtNone, 1}, {make([]impl.Meet, 1000), impl.MtNone, 1000}, {make([]impl.Meet, 1000), impl.MtTouch, 0},
		{l[:1], impl.MtCross, 1}, {l[:1], impl.MtTouch, 0}, {l[4:5], impl.MtAlong, 1},
		{crowdMeets(idsUpTo(16)...), impl.MtCross, 64}, {crowdMeets(idsUpTo(16)...), impl.MtAlong, 56}, {crowdMeets(idsUpTo(16)...), impl.MtNone, 0},
	}
	for _, c := range cases {
		if got := impl.CountMeets(c.l, c.how); got != c.want {
			t.Errorf("CountMeets(%v, %d) = %d, want %d", c.l, c.how, got, c.want)
		}
	}
}

func TestNoMore(t *testing.T) {
	touch, cross, along := meet(1, 2, impl.MtTouch), meet(1, 2, impl.MtCross), meet(1, 2, impl.MtAlong)
	other, third := meet(2, 3, impl.MtCross), meet(1, 3, impl.MtCross)
	list := func(l ...impl.Meet) []impl.Meet { return l }
	cases := []struct {
		a, b []impl.Meet
		want bool
	}{
		{nil, nil, true}, {list(), nil, true}, {nil, list(), true}, {nil, list(cross), true}, {list(cross), nil, false}, {list(cross), list(), false},
		{list(meet(1, 2, impl.MtNone)), nil, false}, {list(meet(1, 2, -1)), nil, false}, {list(impl.Meet{}), nil, false}, {list(impl.Meet{}), list(impl.Meet{}), true},
		// The same pair, with an equal, a smaller and a greater How.
		{list(cross), list(cross), true}, {list(touch), list(cross), true}, {list(along), list(cross), false},
		{list(cross), list(along), true}, {list(touch), list(along), true}, {list(cross), list(touch), false}, {list(along), list(touch), false},
		// Another pair, one of whose Ids is the same, and a pair changed round.
		{list(cross), list(other), false}, {list(cross), list(third), false}, {list(third), list(other), false},
		{list(meet(2, 1, impl.MtCross)), list(cross), false}, {list(cross), list(meet(2, 1, impl.MtAlong)), false},
		{list(meet(2, 1, impl.MtTouch)), list(meet(2, 1, impl.MtTouch)), true}, {list(meet(2, 1, impl.MtTouch)), list(cross, meet(2, 1, impl.MtTouch)), true},
		{list(meet(12, 3, 1)), list(meet(1, 23, 1)), false}, {list(meet(1, 100, 1)), list(meet(2, 0, 1)), false}, {list(meet(1<<32+1, 2, 1)), list(cross), false},
		// Some of several.
		{list(cross), list(other, cross), true}, {list(cross, other), list(other, cross), true}, {list(other, cross), list(cross), false},
		{list(cross, other), list(cross), false}, {list(cross, third, other), list(third, other, cross), true}, {list(cross, along), list(other, cross), false},
		{list(other, third, along), list(other, third, cross), false}, {list(along, third, other), list(other, third, cross), false},
		// A pair twice in the first list, and in the second one.
		{list(cross, cross), list(cross), true}, {list(touch, cross), list(cross), true}, {list(cross, along), list(cross), false}, {list(along, cross), list(cross), false},
		{list(cross), list(cross, cross), true}, {list(cross), list(touch, cross), true}, {list(cross), list(cross, touch), true},
		{list(along), list(touch, cross), false}, {list(along), list(touch, along), true}, {list(along), list(along, touch), true}, {list(cross), list(touch, touch), false},
		{list(touch, along), list(cross, along), true}, {list(along, along), list(cross, cross), false},
		// How that is none of the numbers.
		{list(meet(1, 2, 4)), list(along), false}, {list(along), list(meet(1, 2, 4)), true}, {list(meet(1, 2, -1)), list(meet(1, 2, 0)), true}, {list(meet(1, 2, 0)), list(meet(1, 2, -1)), false},
		{list(meet(1, 2, math.MinInt)), list(meet(1, 2, math.MaxInt)), true}, {list(meet(1, 2, math.MaxInt)), list(meet(1, 2, math.MinInt)), false},
		{list(meet(1, 2, math.MinInt)), list(meet(1, 2, math.MinInt)), true}, {list(meet(1, 2, math.MaxInt)), list(meet(1, 2, math.MaxInt)), true},
		// Ids that no feature has.
		{list(meet(-7, 300, 1)), list(meet(-7, 300, 1)), true}, {list(meet(5, 5, 2)), list(meet(5, 5, 1)), false}, {list(meet(math.MinInt, math.MaxInt, 2)), list(meet(math.MinInt, math.MaxInt, 3)), true},
		{crowdMeets(idsUpTo(16)...), crowdMeets(idsUpTo(16)...), true}, {crowdMeets(idsUpTo(15)...), crowdMeets(idsUpTo(16)...), true}, {crowdMeets(idsUpTo(16)...), crowdMeets(idsUpTo(15)...), false},
	}
	for _, c := range cases {
		if got := impl.NoMore(c.a, c.b); got != c.want {
			t.Errorf("NoMore(%v, %v) = %v", c.a, c.b, got)
		}
	}
}

func TestNoMoreFollowsItsDefinition(t *testing.T) {
	choices := []impl.Meet{meet(1, 2, 1), meet(1, 2, 2), meet(1, 2, 3), meet(2, 1, 2), meet(1, 3, 2)}
	lists := [][]impl.Meet{nil}
	for begin := 0; begin < len(lists) && len(lists[begin]) < 3; begin++ {
		for _, m := range choices {
			lists = append(lists, append(slices.Clone(lists[begin]), m))
		}
	}
	for _, a := range lists {
		for _, b := range lists {
			greatest := map[[2]int]int{}
			for _, m := range b {
				greatest[[2]int{m.A, m.B}] = max(m.How, greatest[[2]int{m.A, m.B}])
			}
			want := true
			for _, m := range a {
				want = want && m.How <= greatest[[2]int{m.A, m.B}]
			}
			if got := impl.NoMore(a, b); got != want {
				t.Fatalf("NoMore(%v, %v) = %v", a, b, got)
			}
		}
	}
}

// checkFeatureResult calls a function with features in roomy memory. Nothing
// may change there in the call or when its result is overwritten, and the
// result may not change when the memory is overwritten.
func checkFeatureResult[R comparable](t *testing.T, name string, l []impl.Feature, mark R, call func(l []impl.Feature) []R) {
	t.Helper()
	list, memory := roomyFeatures(l)
	before := fmt.Sprint(memory)
	result, again := call(list), call(list)
	kept := slices.Clone(result)
	overwrite(again, mark)
	if got := fmt.Sprint(memory); got != before {
		t.Errorf("%s: the arguments are %s, were %s", name, got, before)
	}
	memory.overwrite()
	if !slices.Equal(result, kept) {
		t.Errorf("%s: the result is %v, was %v", name, result, kept)
	}
}

func TestMeetingsShareNoMemory(t *testing.T) {
	lists := [][]impl.Feature{nil, plains(), plains(40), plains(1, 2, 3), crowd(1, 2), crowd(2, 1), crowd(idsUpTo(16)...), crowd(idsUpTo(17)...)}
	for _, f := range badFeatures(40) {
		lists = append(lists, []impl.Feature{f, plain(50)})
	}
	for _, l := range lists {
		checkFeatureResult(t, "MeetsOf", l, meet(66, 66, 66), impl.MeetsOf)
		checkFeatureResult(t, "PartsOf", l, from(7, 7, 8, 8), func(l []impl.Feature) []impl.Segment {
			if len(l) == 0 {
				return nil
			}
			return impl.PartsOf(l[0])
		})
		checkFeatureResult(t, "FeaturesMeet", l, 33, func(l []impl.Feature) []int {
			meets := []int{}
			for _, f := range l {
				meets = append(meets, impl.FeaturesMeet(l[0], f))
			}
			return meets
		})
	}
	meets := [][]impl.Meet{nil, {}, {meet(1, 2, 3)}, crowdMeets(1, 2, 3), crowdMeets(idsUpTo(16)...)}
	for _, a := range meets {
		for _, b := range meets {
			checkApartOf(t, "CountMeets and NoMore", [][]impl.Meet{a, b}, meet(8, 8, 1), meet(9, 9, 2), 33, func(args [][]impl.Meet) []int {
				count := impl.CountMeets(args[0], impl.MtCross)
				if impl.NoMore(args[0], args[1]) {
					count = -count - 1
				}
				return []int{count}
			})
		}
	}
}
