package tests

import (
	"math"
	"slices"
	"testing"

	"loop.example/g03005/impl"
)

// shapes are rings with the sums of their chapter, taken along a.X*b.Y -
// a.Y*b.X by hand. Turned round, each has the opposite sum.
func shapes() map[string]struct {
	l    []impl.Point
	area int
} {
	return map[string]struct {
		l    []impl.Point
		area int
	}{
		"smallest triangle":  {through(0, 0, 1, 0, 0, 1), 1},
		"triangle":           {through(5, 5, 9, 5, 5, 8), 12},
		"thin triangle":      {through(0, 0, 200, 199, 199, 198), -1},
		"half of the map":    {through(0, 0, 200, 0, 200, 200), 40000},
		"square":             {through(2, 2, 6, 2, 6, 6, 2, 6), 32},
		"whole map":          {through(0, 0, 200, 0, 200, 200, 0, 200), 80000},
		"along the edge":     {through(0, 0, 100, 0, 200, 0, 200, 200, 100, 200, 0, 200, 0, 100), 80000},
		"dart":               {through(0, 0, 4, 2, 8, 0, 4, 8), 48},
		"dart to the right":  {through(0, 0, 8, 4, 0, 8, 2, 4), 48},
		"flat dart":          {through(0, 0, 4, 1, 8, 0, 4, 2), 8},
		"dart at the corner": {through(0, 0, 200, 100, 0, 200, 199, 100), 200},
		"arrow":              {through(0, 4, 4, 0, 8, 4, 6, 4, 6, 8, 2, 8, 2, 4), 64},
		"bend":               {through(0, 0, 8, 0, 8, 4, 4, 4, 4, 8, 0, 8), 96},
		"cup":                {through(0, 0, 9, 0, 9, 6, 6, 6, 6, 3, 3, 3, 3, 6, 0, 6), 90},
		"comb of ten":        {through(0, 0, 9, 0, 9, 6, 7, 2, 6, 6, 5, 2, 4, 6, 3, 2, 1, 6, 0, 3), 73},
		"stairs of ten":      {through(0, 0, 8, 0, 8, 2, 6, 2, 6, 4, 4, 4, 4, 6, 2, 6, 2, 8, 0, 8), 80},
		"spiral of ten":      {through(0, 0, 8, 0, 8, 8, 2, 8, 2, 3, 5, 3, 5, 5, 6, 5, 6, 1, 0, 1), 80},
		"corner on a side":   {through(0, 0, 4, 0, 8, 0, 8, 8), 64},
	}
}

// everyWay gives a list of points from each of its points on, in both
// directions.
func everyWay(l []impl.Point) [][]impl.Point {
	ways := [][]impl.Point{}
	for i := range l {
		begun := slices.Concat(l[i:], l[:i])
		ways = append(ways, begun, backwards(begun))
	}
	return ways
}

// ringJoints are the segments from each point to the next, and from the last
// to the first.
func ringJoints(l []impl.Point) []impl.Segment {
	return joints(append(slices.Clone(l), l[0]))
}

// noRings are lists of points that make no ring.
func noRings() [][]impl.Point {
	bad := [][]impl.Point{
		nil, {}, through(0, 0), through(0, 0, 4, 0), through(0, 0, 200, 200), through(4, 4, 4, 4),
		// Neighbours that are the same.
		through(0, 0, 4, 0, 4, 0, 0, 4), through(0, 0, 0, 0, 4, 0, 0, 4), through(0, 0, 4, 0, 0, 0), through(4, 4, 4, 4, 4, 4),
		through(0, 0, 4, 0, 0, 4, 0, 4),
		// The last point is the first one.
		through(0, 0, 4, 0, 0, 4, 0, 0), through(0, 0, 8, 0, 8, 8, 0, 8, 0, 0), through(0, 0, 4, 2, 8, 0, 4, 8, 0, 0),
		// Crosses itself.
		through(0, 0, 4, 4, 4, 0, 0, 4), through(0, 0, 4, 0, 0, 4, 4, 4), through(0, 0, 8, 8, 8, 0, 4, 7, 0, 8),
		through(0, 0, 200, 200, 200, 0, 0, 200), through(4, 0, 6, 8, 0, 3, 8, 3, 2, 8),
		// Touches itself: a corner at a side, and at a corner.
		through(0, 0, 8, 0, 8, 8, 4, 0), through(0, 0, 8, 0, 8, 8, 4, 0, 0, 8), through(0, 0, 4, 4, 8, 0, 8, 8, 4, 4, 0, 8),
		through(0, 0, 8, 0, 8, 8, 0, 8, 8, 4), through(4, 8, 0, 0, 4, 0, 8, 0, 4, 0),
		// Turns back on itself.
		through(0, 0, 8, 0, 4, 0, 4, 4), through(0, 0, 4, 0, 8, 0, 2, 0, 4, 4), through(0, 0, 8, 0, 8, 8, 8, 4), through(4, 0, 4, 8, 4, 4, 0, 4),
		through(0, 0, 8, 0, 8, 8, 8, 0), through(0, 0, 8, 0, 0, 0, 0, 8), through(0, 0, 8, 0, 8, 8, 0, 8, 0, 9),
		// Comes along itself later.
		through(0, 0, 8, 0, 8, 8, 6, 8, 6, 0, 2, 0, 2, 8, 0, 8), through(0, 0, 8, 0, 8, 8, 8, 0, 0, 8),
		// On one straight line.
		through(0, 0, 4, 0, 8, 0), through(0, 0, 8, 0, 4, 0), through(3, 3, 5, 5, 9, 9), through(0, 0, 0, 1, 0, 2, 0, 3),
		through(0, 0, 200, 200, 100, 100), through(0, 0, 2, 0, 6, 0, 4, 0),
	}
	ten := shapes()["stairs of ten"].l
	bad = append(bad, slices.Insert(slices.Clone(ten), 1, at(4, 0)), slices.Concat(ten, through(0, 4)), slices.Concat(ten, ten))
	for _, p := range offMap {
		for i := range 4 {
			bad = append(bad, slices.Insert(through(0, 0, 8, 0, 0, 8), i, p))
		}
		bad = append(bad, slices.Concat(ten[:9], []impl.Point{p}), []impl.Point{p, p, p}, []impl.Point{at(0, 0), p, at(0, 8)})
	}
	return bad
}

// ring reports whether a list of three points or more is a ring, as the
// chapter says.
func (m meetings) ring(l []impl.Point) bool {
	segments := ringJoints(l)
	for i, s := range segments {
		if s.A == s.B {
			return false
		}
		for j := range i {
			want := 0
			if j == i-1 || j == 0 && i == len(l)-1 {
				want = 1
			}
			if m.how(segments[j], s) != want {
				return false
			}
		}
	}
	return true
}

// isAt reports whether a point is on a segment.
func isAt(s impl.Segment, p impl.Point) bool {
	return twiceTheArea(s.A, s.B, p) == 0 && min(s.A.X, s.B.X) <= p.X && p.X <= max(s.A.X, s.B.X) &&
		min(s.A.Y, s.B.Y) <= p.Y && p.Y <= max(s.A.Y, s.B.Y)
}

// inside counts the segments that a nearly level way from the point leaves
// through. The way is too flat to meet another point of the grid.
func inside(l []impl.Point, p impl.Point) bool {
	far := at(p.X+1_000_003, p.Y+1)
	odd := false
	for _, s := range ringJoints(l) {
		if isAt(s, p) {
			return true
		}
		apart := (twiceTheArea(p, far, s.A) > 0) != (twiceTheArea(p, far, s.B) > 0)
		if apart && (twiceTheArea(s.A, s.B, p) > 0) != (twiceTheArea(s.A, s.B, far) > 0) {
			odd = !odd
		}
	}
	return odd
}

// pointsAround are the points of the map from the corner up to a limit.
func pointsAround(limit int) []impl.Point {
	coordinates := []int{}
	for i := range limit + 1 {
		coordinates = append(coordinates, i)
	}
	return pointsOf(coordinates)
}

func checkNoRing(t *testing.T, l []impl.Point) {
	t.Helper()
	if impl.IsRing(l) {
		t.Errorf("%v is a ring", l)
	}
	if got := impl.TwiceArea(l); got != 0 {
		t.Errorf("TwiceArea(%v) = %d", l, got)
	}
	if got := impl.RingSegments(l); len(got) != 0 {
		t.Errorf("RingSegments(%v) = %v", l, got)
	}
	for _, p := range append(through(0, 0, 1, 1, 4, 4, 2, 1, 8, 0), l...) {
		if impl.IsInside(l, p) {
			t.Errorf("%v is inside of %v", p, l)
		}
	}
}

func checkRing(t *testing.T, l []impl.Point, area int) {
	t.Helper()
	if !impl.IsRing(l) {
		t.Errorf("%v is no ring", l)
	}
	if got := impl.TwiceArea(l); got != area {
		t.Errorf("TwiceArea(%v) = %d, want %d", l, got, area)
	}
	if got := impl.RingSegments(l); !slices.Equal(got, ringJoints(l)) {
		t.Errorf("RingSegments(%v) = %v", l, got)
	}
}

func TestRingsAndTheirAreas(t *testing.T) {
	for name, shape := range shapes() {
		if len(shape.l) < 3 || len(shape.l) > 10 {
			t.Errorf("%s has %d points", name, len(shape.l))
		}
		for i, l := range everyWay(shape.l) {
			area := shape.area
			if i%2 == 1 {
				area = -area
			}
			checkRing(t, l, area)
		}
	}
}

func TestNoRings(t *testing.T) {
	for _, bad := range noRings() {
		checkNoRing(t, bad)
		for _, l := range everyWay(bad) {
			checkNoRing(t, l)
		}
	}
}

func TestTurningARingChangesTheSignOfItsArea(t *testing.T) {
	lists := noRings()
	for _, shape := range shapes() {
		lists = append(lists, everyWay(shape.l)...)
	}
	for count := 3; count <= 4; count++ {
		lists = append(lists, linesThrough(pointsOf([]int{0, 3, 200}), count)...)
	}
	rings := 0
	for _, l := range lists {
		turned := impl.TurnRing(l)
		if impl.IsRing(l) != impl.IsRing(turned) || impl.TwiceArea(turned) != -impl.TwiceArea(l) {
			t.Fatalf("%v has the area %d, turned round %d", l, impl.TwiceArea(l), impl.TwiceArea(turned))
		}
		if impl.IsRing(l) == (impl.TwiceArea(l) == 0) {
			t.Fatalf("IsRing(%v) = %v, its area is %d", l, impl.IsRing(l), impl.TwiceArea(l))
		}
		if impl.IsRing(l) {
			rings++
		}
		for k := range l {
			if got := impl.TwiceArea(impl.RotateRing(l, k)); got != impl.TwiceArea(l) {
				t.Fatalf("%v has the area %d, from %d on %d", l, impl.TwiceArea(l), k, got)
			}
		}
	}
	if rings < 1000 {
		t.Errorf("%d of %d lists are rings", rings, len(lists))
	}
}

func TestRingsFollowTheirDefinition(t *testing.T) {
	known := meetings{}
	lists := [][]impl.Point{}
	for _, coordinates := range [][]int{{0, 1, 2}, {0, 100, 200}} {
		for count := 3; count <= 4; count++ {
			lists = append(lists, linesThrough(pointsOf(coordinates), count)...)
		}
	}
	for count := 5; count <= 6; count++ {
		lists = append(lists, linesThrough(through(0, 0, 4, 0, 4, 4, 0, 4, 2, 2, 2, 1), count)...)
	}
	for _, l := range lists {
		want := known.ring(l)
		if got := impl.IsRing(l); got != want {
			t.Fatalf("IsRing(%v) = %v", l, got)
		}
		if !want {
			continue
		}
		for _, p := range pointsAround(4) {
			if got := impl.IsInside(l, p); got != inside(l, p) {
				t.Fatalf("IsInside(%v, %v) = %v", l, p, got)
			}
		}
	}
}

func TestIsInside(t *testing.T) {
	cases := []struct {
		name    string
		in, out []impl.Point
	}{
		// In the notch, above and beside it, on the lengthening of its edges.
		{"dart", through(0, 0, 4, 2, 8, 0, 4, 8, 2, 1, 6, 1, 4, 3, 4, 7, 2, 2, 3, 2, 5, 2, 2, 4, 1, 1, 7, 1),
			through(4, 1, 4, 0, 3, 1, 5, 1, 2, 0, 6, 0, 0, 2, 8, 2, 0, 8, 8, 8, 9, 0, 4, 9, 6, 5, 1, 4, 7, 4)},
		{"dart to the right", through(0, 0, 2, 4, 0, 8, 8, 4, 1, 2, 1, 6, 3, 4, 2, 3, 2, 5, 7, 4),
			through(0, 4, 1, 4, 0, 2, 0, 6, 1, 3, 1, 5, 9, 4, 0, 9, 4, 8, 8, 0, 3, 7)},
		{"flat dart", through(0, 0, 4, 1, 8, 0, 4, 2, 2, 1, 6, 1, 3, 1, 5, 1), through(4, 0, 2, 0, 6, 0, 1, 1, 7, 1, 4, 3, 8, 1, 8, 2, 0, 2)},
		{"smallest triangle", through(0, 0, 1, 0, 0, 1), through(1, 1, 2, 0, 0, 2, 200, 0, 0, 200)},
		{"half of the map", through(0, 0, 200, 0, 200, 200, 100, 100, 101, 100, 200, 1, 199, 199, 200, 199, 1, 0),
			through(0, 1, 0, 200, 199, 200, 100, 101, 1, 2)},
		{"whole map", through(0, 0, 200, 200, 0, 200, 200, 0, 0, 100, 100, 0, 200, 100, 100, 200, 1, 1, 199, 199, 77, 123), nil},
		{"along the edge", through(0, 0, 200, 200, 0, 200, 200, 0, 0, 100, 100, 0, 200, 100, 100, 200, 0, 99, 101, 0, 50, 100), nil},
		{"dart at the corner", through(0, 0, 200, 100, 199, 100, 0, 200, 2, 1, 2, 199), through(0, 1, 198, 100, 0, 100, 200, 0, 200, 200, 100, 100, 200, 99, 3, 1)},
		{"bend", through(0, 0, 2, 2, 2, 6, 6, 2, 4, 6, 4, 4, 5, 4, 8, 4, 0, 4, 1, 4, 3, 4, 0, 8, 4, 8, 8, 2),
			through(5, 5, 6, 6, 4, 9, 9, 4, 5, 8, 8, 8, 9, 0, 12, 0, 8, 5)},
		{"cup", through(0, 0, 9, 6, 6, 6, 6, 3, 3, 3, 4, 3, 3, 6, 0, 6, 1, 6, 7, 6, 1, 3, 2, 3, 7, 3, 8, 3, 4, 2, 9, 3),
			through(4, 4, 5, 5, 4, 6, 5, 6, 10, 6, 10, 3, 10, 0, 0, 7, 4, 7, 12, 3)},
		{"comb of ten", through(7, 2, 5, 2, 3, 2, 6, 2, 4, 2, 8, 2, 0, 3, 1, 3, 9, 6, 6, 6, 6, 5, 4, 5, 8, 4, 8, 3),
			through(5, 3, 5, 4, 7, 3, 7, 6, 5, 6, 2, 6, 0, 4, 0, 6, 10, 2, 10, 6, 3, 3, 2, 5)},
		{"arrow", through(0, 4, 1, 4, 2, 4, 4, 4, 7, 4, 8, 4, 4, 0, 4, 8, 6, 6, 1, 3), through(9, 4, 1, 5, 7, 5, 0, 3, 0, 8, 8, 8, 1, 2, 8, 0)},
		{"stairs of ten", through(7, 2, 8, 2, 1, 2, 5, 4, 3, 6, 1, 8, 6, 3, 0, 8, 3, 5), through(7, 3, 5, 5, 9, 2, 8, 4, 3, 7, 3, 8, 0, 9)},
		{"spiral of ten", through(1, 0, 7, 1, 6, 1, 7, 5, 3, 3, 4, 3, 2, 4, 2, 3, 5, 4, 3, 5, 0, 1, 1, 1, 4, 8), through(1, 3, 1, 2, 4, 2, 5, 2, 1, 5, 9, 3, 0, 3, 0, 8)},
	}
	for _, c := range cases {
		for _, l := range everyWay(shapes()[c.name].l) {
			for _, p := range c.in {
				if !impl.IsInside(l, p) {
					t.Errorf("%s: %v is not inside of %v", c.name, p, l)
				}
			}
			for _, p := range slices.Concat(c.out, offMap) {
				if impl.IsInside(l, p) {
					t.Errorf("%s: %v is inside of %v", c.name, p, l)
				}
			}
		}
	}
}

func TestIsInsideRejectsPointsOffTheMap(t *testing.T) {
	whole := shapes()["whole map"].l
	for _, far := range []int{-1, 201, math.MinInt, math.MaxInt, math.MinInt + 100, math.MaxInt - 100} {
		for _, near := range []int{0, 1, 100, 200} {
			for _, p := range through(far, near, near, far, far, far) {
				if impl.IsInside(whole, p) {
					t.Errorf("%v is inside of the map", p)
				}
			}
		}
	}
}

func TestIsInsideFollowsItsDefinition(t *testing.T) {
	for name, shape := range shapes() {
		for _, l := range everyWay(shape.l) {
			for _, p := range append(pointsAround(10), pointsOf([]int{0, 1, 99, 100, 101, 198, 199, 200})...) {
				if got := impl.IsInside(l, p); got != inside(l, p) {
					t.Fatalf("%s: IsInside(%v, %v) = %v", name, l, p, got)
				}
			}
		}
	}
}

// commonStep is the number of grid points on a segment without its first
// end.
func commonStep(s impl.Segment) int {
	m, n := s.B.X-s.A.X, s.B.Y-s.A.Y
	for n != 0 {
		m, n = n, m%n
	}
	return max(m, -m)
}

// The theorem of Pick: the sum of a ring on the grid follows from how many
// points are inside and how many of these are on its segments.
func TestTheAreaFollowsFromThePointsInside(t *testing.T) {
	for name, shape := range shapes() {
		if slices.Max(coordinatesOf(shape.l)) > 10 {
			continue
		}
		held, border := 0, 0
		for _, p := range pointsAround(10) {
			if impl.IsInside(shape.l, p) {
				held++
			}
		}
		for _, s := range impl.RingSegments(shape.l) {
			border += commonStep(s)
		}
		if area := impl.TwiceArea(shape.l); max(area, -area) != 2*held-border-2 {
			t.Errorf("%s: the area is %d, %d points are inside, and %d of them on the border", name, area, held, border)
		}
	}
}

func coordinatesOf(l []impl.Point) []int {
	coordinates := []int{}
	for _, p := range l {
		coordinates = append(coordinates, p.X, p.Y)
	}
	return coordinates
}

func TestTurnRing(t *testing.T) {
	cases := []struct{ l, want []impl.Point }{
		{nil, nil},
		{through(), nil},
		{through(1, 2), through(1, 2)},
		{through(1, 2, 3, 4), through(1, 2, 3, 4)},
		{through(0, 0, 8, 0, 0, 8), through(0, 0, 0, 8, 8, 0)},
		{through(0, 0, 8, 0, 8, 8, 0, 8), through(0, 0, 0, 8, 8, 8, 8, 0)},
		{through(0, 0, 4, 2, 8, 0, 4, 8), through(0, 0, 4, 8, 8, 0, 4, 2)},
		// What is no ring is turned, too.
		{through(0, 0, 4, 4, 4, 0, 0, 4), through(0, 0, 0, 4, 4, 0, 4, 4)},
		{through(5, 5, 5, 5, 1, 1), through(5, 5, 1, 1, 5, 5)},
		{through(-1, 201, 5, 5, math.MinInt, math.MaxInt), through(-1, 201, math.MinInt, math.MaxInt, 5, 5)},
		{stairs(12), append(stairs(1), backwards(stairs(12)[1:])...)},
	}
	for _, c := range cases {
		if got := impl.TurnRing(c.l); !slices.Equal(got, c.want) {
			t.Errorf("TurnRing(%v) = %v, want %v", c.l, got, c.want)
		}
	}
	for _, l := range noRings() {
		if got := impl.TurnRing(impl.TurnRing(l)); !slices.Equal(got, l) {
			t.Errorf("%v, turned twice, is %v", l, got)
		}
	}
}

func TestRotateRing(t *testing.T) {
	cases := []struct {
		l    []impl.Point
		k    int
		want []impl.Point
	}{
		{through(0, 0, 4, 2, 8, 0, 4, 8), 0, through(0, 0, 4, 2, 8, 0, 4, 8)},
		{through(0, 0, 4, 2, 8, 0, 4, 8), 1, through(4, 2, 8, 0, 4, 8, 0, 0)},
		{through(0, 0, 4, 2, 8, 0, 4, 8), 2, through(8, 0, 4, 8, 0, 0, 4, 2)},
		{through(0, 0, 4, 2, 8, 0, 4, 8), 3, through(4, 8, 0, 0, 4, 2, 8, 0)},
		// What is no ring is rotated, too.
		{through(1, 2), 0, through(1, 2)},
		{through(1, 2, 3, 4), 1, through(3, 4, 1, 2)},
		{through(0, 0, 4, 4, 4, 0, 0, 4), 3, through(0, 4, 0, 0, 4, 4, 4, 0)},
		{through(-1, 201, 5, 5, math.MinInt, math.MaxInt), 2, through(math.MinInt, math.MaxInt, -1, 201, 5, 5)},
		{stairs(12), 11, append(stairs(12)[11:], stairs(11)...)},
	}
	for _, c := range cases {
		if got := impl.RotateRing(c.l, c.k); !slices.Equal(got, c.want) {
			t.Errorf("RotateRing(%v, %d) = %v, want %v", c.l, c.k, got, c.want)
		}
	}
	for _, l := range append(noRings(), stairs(3), stairs(10), stairs(12)) {
		size := len(l)
		for _, k := range []int{0, -1, -2, -size, size, size + 1, 2 * size, 3*size + 1, math.MinInt, math.MaxInt} {
			if got := impl.RotateRing(l, k); !slices.Equal(got, l) {
				t.Errorf("RotateRing(%v, %d) = %v", l, k, got)
			}
		}
	}
}

func TestRingsShareNoMemory(t *testing.T) {
	lists := noRings()
	for _, shape := range shapes() {
		lists = append(lists, shape.l)
	}
	spare, other := at(3, 3), at(4, 9)
	for _, l := range lists {
		one := [][]impl.Point{l}
		checkApartOf(t, "RingSegments", one, spare, other, from(7, 7, 8, 8), func(args [][]impl.Point) []impl.Segment {
			return impl.RingSegments(args[0])
		})
		checkApartOf(t, "TurnRing", one, spare, other, other, func(args [][]impl.Point) []impl.Point {
			return impl.TurnRing(args[0])
		})
		for _, k := range []int{-1, 0, 1, len(l) - 1, len(l)} {
			checkApartOf(t, "RotateRing", one, spare, other, other, func(args [][]impl.Point) []impl.Point {
				return impl.RotateRing(args[0], k)
			})
		}
		checkApartOf(t, "TwiceArea", one, spare, other, 33, func(args [][]impl.Point) []int {
			return []int{impl.TwiceArea(args[0])}
		})
		checkApartOf(t, "IsRing and IsInside", one, spare, other, false, func(args [][]impl.Point) []bool {
			return []bool{impl.IsRing(args[0]), impl.IsInside(args[0], at(2, 1))}
		})
	}
}
