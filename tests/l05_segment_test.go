package tests

import (
	"math"
	"math/big"
	"testing"

	"loop.example/g03005/impl"
)

func from(ax, ay, bx, by int) impl.Segment {
	return impl.Segment{A: at(ax, ay), B: at(bx, by)}
}

func turned(s impl.Segment) impl.Segment {
	return impl.Segment{A: s.B, B: s.A}
}

func segmentsOf(points []impl.Point) []impl.Segment {
	segments := []impl.Segment{}
	for _, a := range points {
		for _, b := range points {
			if a != b {
				segments = append(segments, impl.Segment{A: a, B: b})
			}
		}
	}
	return segments
}

// noSegments are pairs of ends that make no segment.
func noSegments() []impl.Segment {
	bad := []impl.Segment{
		from(0, 0, 0, 0), from(3, 3, 3, 3), from(200, 200, 200, 200), from(0, 200, 0, 200),
		from(-1, -1, 201, 201), from(-1, 3, 201, 3), from(3, 201, 3, -1),
		from(math.MinInt, math.MinInt, math.MaxInt, math.MaxInt),
	}
	for _, p := range offMap {
		for _, q := range []impl.Point{at(0, 0), at(3, 3), at(200, 200), at(0, 200), p} {
			bad = append(bad, impl.Segment{A: p, B: q}, impl.Segment{A: q, B: p})
		}
	}
	return bad
}

// pointsAlong walks from one end to the other in the smallest whole steps,
// so it returns all points of the grid on the segment.
func pointsAlong(s impl.Segment) []impl.Point {
	dx, dy := s.B.X-s.A.X, s.B.Y-s.A.Y
	wide, high := new(big.Int).Abs(big.NewInt(int64(dx))), new(big.Int).Abs(big.NewInt(int64(dy)))
	steps := int(new(big.Int).GCD(nil, nil, wide, high).Int64())
	points := []impl.Point{}
	for i := 0; i <= steps; i++ {
		points = append(points, at(s.A.X+dx/steps*i, s.A.Y+dy/steps*i))
	}
	return points
}

// howLinesCross solves a + t*d = c + u*e for segments that are not parallel.
func howLinesCross(s, o impl.Segment) int {
	dx, dy := s.B.X-s.A.X, s.B.Y-s.A.Y
	ex, ey := o.B.X-o.A.X, o.B.Y-o.A.Y
	fx, fy := o.A.X-s.A.X, o.A.Y-s.A.Y
	whole := int64(dx*ey - dy*ex)
	t, u := big.NewRat(int64(fx*ey-fy*ex), whole), big.NewRat(int64(fx*dy-fy*dx), whole)
	zero, one := big.NewRat(0, 1), big.NewRat(1, 1)
	atEnd := false
	for _, share := range []*big.Rat{t, u} {
		if share.Cmp(zero) < 0 || share.Cmp(one) > 0 {
			return 0
		}
		atEnd = atEnd || share.Cmp(zero) == 0 || share.Cmp(one) == 0
	}
	if atEnd {
		return 1
	}
	return 2
}

// howParallelsMeet compares where the ends of both are in the direction of s.
func howParallelsMeet(s, o impl.Segment) int {
	dx, dy := s.B.X-s.A.X, s.B.Y-s.A.Y
	if dx*(o.A.Y-s.A.Y) != dy*(o.A.X-s.A.X) {
		return 0
	}
	along := func(p impl.Point) int { return (p.X-s.A.X)*dx + (p.Y-s.A.Y)*dy }
	first := max(0, min(along(o.A), along(o.B)))
	last := min(along(s.B), max(along(o.A), along(o.B)))
	switch {
	case first > last:
		return 0
	case first == last:
		return 1
	}
	return 3
}

func howTheyMeet(s, o impl.Segment) int {
	if (s.B.X-s.A.X)*(o.B.Y-o.A.Y) == (s.B.Y-s.A.Y)*(o.B.X-o.A.X) {
		return howParallelsMeet(s, o)
	}
	return howLinesCross(s, o)
}

// checkMeet checks a pair in both orders and all directions.
func checkMeet(t *testing.T, s, o impl.Segment, want int) {
	t.Helper()
	for _, a := range []impl.Segment{s, turned(s)} {
		for _, b := range []impl.Segment{o, turned(o)} {
			if got := impl.HowMeet(a, b); got != want {
				t.Fatalf("HowMeet(%v, %v) = %d, want %d", a, b, got, want)
			}
			if got := impl.HowMeet(b, a); got != want {
				t.Fatalf("HowMeet(%v, %v) = %d, want %d", b, a, got, want)
			}
		}
	}
}

func TestMeetCodes(t *testing.T) {
	codes := [...]int{impl.MtNone, impl.MtTouch, impl.MtCross, impl.MtAlong}
	if codes != [...]int{0, 1, 2, 3} {
		t.Errorf("the codes are %v", codes)
	}
}

func TestIsSegment(t *testing.T) {
	for _, s := range []impl.Segment{
		from(0, 0, 1, 0), from(0, 0, 0, 1), from(1, 0, 0, 0), from(0, 1, 0, 0), from(5, 7, 3, 9),
		from(0, 0, 200, 200), from(200, 0, 0, 200), from(200, 200, 200, 199), from(0, 200, 200, 200),
	} {
		if !impl.IsSegment(s) {
			t.Errorf("%v is not a segment", s)
		}
	}
	for _, s := range noSegments() {
		if impl.IsSegment(s) {
			t.Errorf("%v is a segment", s)
		}
	}
	points := pointsOf([]int{math.MinInt, -1, 0, 1, 200, 201, math.MaxInt})
	for _, a := range points {
		for _, b := range points {
			if got := impl.IsSegment(impl.Segment{A: a, B: b}); got != (onMap(a, b) && a != b) {
				t.Errorf("IsSegment(%v, %v) = %v", a, b, got)
			}
		}
	}
}

func TestIsOnAndIsBetween(t *testing.T) {
	cases := []struct {
		s           impl.Segment
		p           impl.Point
		on, between bool
	}{
		{from(0, 0, 6, 6), at(0, 0), true, false},
		{from(0, 0, 6, 6), at(6, 6), true, false},
		{from(0, 0, 6, 6), at(3, 3), true, true},
		{from(0, 0, 6, 6), at(1, 1), true, true},
		{from(0, 0, 6, 6), at(5, 5), true, true},
		{from(1, 1, 6, 6), at(0, 0), false, false},
		{from(0, 0, 6, 6), at(7, 7), false, false},
		{from(0, 0, 6, 6), at(3, 4), false, false},
		{from(0, 0, 6, 6), at(4, 3), false, false},
		{from(0, 0, 6, 6), at(0, 6), false, false},
		{from(0, 0, 6, 6), at(6, 0), false, false},
		{from(2, 9, 8, 0), at(4, 6), true, true},
		{from(2, 9, 8, 0), at(6, 3), true, true},
		{from(2, 9, 8, 0), at(5, 5), false, false},
		{from(2, 9, 8, 0), at(5, 4), false, false},
		{from(2, 6, 8, 0), at(0, 8), false, false},
		{from(3, 2, 3, 8), at(3, 2), true, false},
		{from(3, 2, 3, 8), at(3, 5), true, true},
		{from(3, 2, 3, 8), at(3, 8), true, false},
		{from(3, 2, 3, 8), at(3, 1), false, false},
		{from(3, 2, 3, 8), at(3, 9), false, false},
		{from(3, 2, 3, 8), at(2, 5), false, false},
		{from(3, 2, 3, 8), at(4, 5), false, false},
		{from(2, 3, 8, 3), at(5, 3), true, true},
		{from(2, 3, 8, 3), at(1, 3), false, false},
		{from(2, 3, 8, 3), at(9, 3), false, false},
		{from(2, 3, 8, 3), at(5, 2), false, false},
		{from(2, 3, 8, 3), at(5, 4), false, false},
		{from(4, 4, 5, 4), at(4, 4), true, false},
		{from(4, 4, 5, 4), at(5, 4), true, false},
		{from(0, 0, 0, 200), at(0, 100), true, true},
		{from(0, 0, 0, 200), at(0, 200), true, false},
		{from(0, 200, 200, 200), at(199, 200), true, true},
		{from(0, 200, 200, 200), at(200, 199), false, false},
		{from(200, 0, 200, 200), at(200, 1), true, true},
		{from(0, 0, 200, 199), at(100, 100), false, false},
	}
	for _, c := range cases {
		for _, s := range []impl.Segment{c.s, turned(c.s)} {
			if got := impl.IsOn(s, c.p); got != c.on {
				t.Errorf("IsOn(%v, %v) = %v", s, c.p, got)
			}
			if got := impl.IsBetween(s, c.p); got != c.between {
				t.Errorf("IsBetween(%v, %v) = %v", s, c.p, got)
			}
		}
	}
}

func TestIsOnFindsThePointsOfTheGrid(t *testing.T) {
	for _, coordinates := range [][]int{{0, 1, 2, 3, 4, 5, 6}, {0, 1, 50, 100, 199, 200}} {
		points := pointsOf(coordinates)
		for _, s := range segmentsOf(points) {
			along := map[impl.Point]bool{}
			for _, p := range pointsAlong(s) {
				along[p] = true
				if between := impl.IsBetween(s, p); !impl.IsOn(s, p) || between != (p != s.A && p != s.B) {
					t.Fatalf("%v is a point of %v: IsBetween is %v", p, s, between)
				}
			}
			for _, p := range points {
				if !along[p] && (impl.IsOn(s, p) || impl.IsBetween(s, p)) {
					t.Fatalf("%v is no point of %v", p, s)
				}
			}
		}
	}
}

func TestIsOnAndIsBetweenReject(t *testing.T) {
	for _, p := range append([]impl.Point{at(0, 0), at(3, 3), at(200, 200), at(0, 200), at(0, 3)}, offMap...) {
		for _, s := range noSegments() {
			if impl.IsOn(s, p) || impl.IsBetween(s, p) {
				t.Errorf("%v is on %v", p, s)
			}
		}
	}
	for _, p := range offMap {
		for _, s := range []impl.Segment{
			from(0, 0, 200, 200), from(200, 0, 0, 200), from(0, 0, 200, 0), from(0, 0, 0, 200), from(5, 0, 5, 9),
			from(0, 5, 9, 5), from(0, 7, 200, 7), from(7, 0, 7, 200), from(200, 0, 200, 200), from(0, 200, 200, 200),
		} {
			if impl.IsOn(s, p) || impl.IsBetween(s, p) || impl.IsOn(turned(s), p) || impl.IsBetween(turned(s), p) {
				t.Errorf("%v is on %v", p, s)
			}
		}
	}
}

func TestHowMeet(t *testing.T) {
	cases := []struct {
		s, o impl.Segment
		want int
	}{
		{from(0, 0, 6, 6), from(0, 6, 6, 0), impl.MtCross},
		{from(0, 0, 6, 6), from(3, 2, 3, 4), impl.MtCross},
		{from(0, 0, 5, 5), from(0, 5, 5, 0), impl.MtCross},
		{from(0, 4, 8, 4), from(5, 0, 5, 9), impl.MtCross},
		{from(0, 0, 200, 199), from(0, 1, 200, 198), impl.MtCross},
		// An end of both.
		{from(0, 0, 6, 6), from(6, 6, 9, 0), impl.MtTouch},
		{from(0, 0, 6, 6), from(6, 6, 5, 6), impl.MtTouch},
		{from(2, 3, 2, 9), from(2, 3, 9, 3), impl.MtTouch},
		// An end of one, inside the other.
		{from(0, 0, 6, 6), from(3, 3, 9, 0), impl.MtTouch},
		{from(0, 0, 6, 6), from(0, 9, 3, 3), impl.MtTouch},
		{from(0, 4, 8, 4), from(5, 4, 5, 9), impl.MtTouch},
		{from(0, 4, 8, 4), from(5, 0, 5, 4), impl.MtTouch},
		// An end of one, on the line of the other beyond it.
		{from(0, 0, 6, 6), from(7, 7, 9, 0), impl.MtNone},
		{from(2, 2, 6, 6), from(1, 1, 9, 0), impl.MtNone},
		{from(0, 4, 8, 4), from(9, 4, 9, 9), impl.MtNone},
		// On one line.
		{from(0, 0, 3, 3), from(5, 5, 9, 9), impl.MtNone},
		{from(0, 0, 3, 3), from(4, 4, 9, 9), impl.MtNone},
		{from(0, 0, 3, 3), from(3, 3, 9, 9), impl.MtTouch},
		{from(0, 0, 4, 4), from(3, 3, 9, 9), impl.MtAlong},
		{from(0, 0, 9, 9), from(3, 3, 5, 5), impl.MtAlong},
		{from(0, 0, 9, 9), from(0, 0, 5, 5), impl.MtAlong},
		{from(0, 0, 9, 9), from(4, 4, 9, 9), impl.MtAlong},
		{from(0, 9, 9, 0), from(3, 6, 5, 4), impl.MtAlong},
		{from(0, 9, 4, 5), from(4, 5, 9, 0), impl.MtTouch},
		{from(0, 9, 4, 5), from(5, 4, 9, 0), impl.MtNone},
		{from(1, 1, 3, 2), from(5, 3, 7, 4), impl.MtNone},
		{from(1, 1, 5, 3), from(3, 2, 7, 4), impl.MtAlong},
		{from(7, 1, 7, 5), from(7, 5, 7, 9), impl.MtTouch},
		{from(7, 1, 7, 5), from(7, 4, 7, 9), impl.MtAlong},
		{from(7, 1, 7, 5), from(7, 6, 7, 9), impl.MtNone},
		{from(1, 7, 5, 7), from(5, 7, 9, 7), impl.MtTouch},
		{from(1, 7, 5, 7), from(4, 7, 9, 7), impl.MtAlong},
		{from(1, 7, 5, 7), from(6, 7, 9, 7), impl.MtNone},
		{from(3, 8, 5, 2), from(3, 8, 5, 2), impl.MtAlong},
		{from(4, 4, 5, 4), from(4, 4, 5, 4), impl.MtAlong},
		// Parallel, beside each other.
		{from(0, 0, 6, 6), from(1, 0, 7, 6), impl.MtNone},
		{from(7, 1, 7, 5), from(8, 1, 8, 5), impl.MtNone},
		{from(1, 7, 5, 7), from(1, 8, 5, 8), impl.MtNone},
		// Apart, though their boxes have points in common.
		{from(0, 0, 6, 6), from(0, 6, 2, 4), impl.MtNone},
		{from(0, 0, 6, 6), from(2, 0, 6, 1), impl.MtNone},
		{from(0, 0, 200, 200), from(199, 200, 0, 1), impl.MtNone},
		// Apart.
		{from(0, 0, 6, 6), from(7, 0, 7, 9), impl.MtNone},
		{from(0, 0, 6, 6), from(0, 7, 9, 7), impl.MtNone},
		// Along the edge of the map.
		{from(0, 0, 200, 0), from(200, 0, 200, 200), impl.MtTouch},
		{from(0, 0, 200, 0), from(0, 200, 200, 200), impl.MtNone},
		{from(0, 0, 0, 200), from(0, 100, 200, 100), impl.MtTouch},
		{from(0, 200, 200, 200), from(199, 200, 200, 200), impl.MtAlong},
		{from(200, 0, 200, 100), from(200, 100, 200, 200), impl.MtTouch},
		{from(200, 0, 200, 100), from(200, 101, 200, 200), impl.MtNone},
		{from(0, 0, 200, 200), from(0, 200, 200, 0), impl.MtCross},
	}
	for _, c := range cases {
		checkMeet(t, c.s, c.o, c.want)
	}
}

func TestHowMeetDoesNotDependOnTheOrder(t *testing.T) {
	for _, coordinates := range [][]int{{0, 1, 2, 3}, {197, 198, 199, 200}, {0, 3, 199, 200}, {0, 100, 101, 200}} {
		segments := segmentsOf(pointsOf(coordinates))
		for i, s := range segments {
			for _, o := range segments[i:] {
				checkMeet(t, s, o, howTheyMeet(s, o))
			}
		}
	}
}

func TestSegmentsMeetThemselvesAlong(t *testing.T) {
	for _, s := range segmentsOf(pointsOf([]int{0, 1, 5, 199, 200})) {
		checkMeet(t, s, s, impl.MtAlong)
	}
}

func TestSegmentsMeetAtAnEndOnTheOther(t *testing.T) {
	segments := segmentsOf(pointsOf([]int{0, 1, 2, 5, 200}))
	for _, s := range segments {
		for _, o := range segments {
			for _, p := range []impl.Point{o.A, o.B} {
				if impl.IsOn(s, p) && impl.HowMeet(s, o) != impl.MtTouch && impl.HowMeet(s, o) != impl.MtAlong {
					t.Fatalf("%v is on %v and an end of %v, but HowMeet is %d", p, s, o, impl.HowMeet(s, o))
				}
			}
		}
	}
}

func TestHowMeetRejects(t *testing.T) {
	valid := []impl.Segment{from(0, 0, 6, 6), from(0, 0, 200, 200), from(0, 200, 200, 0), from(0, 3, 200, 3), from(3, 0, 3, 200)}
	for _, bad := range noSegments() {
		for _, s := range append(valid, bad) {
			checkMeet(t, s, bad, impl.MtNone)
		}
	}
}

func TestTurnSegment(t *testing.T) {
	segments := append(noSegments(), segmentsOf(pointsOf([]int{math.MinInt, -1, 0, 7, 200, 201, math.MaxInt}))...)
	for _, s := range segments {
		if got := impl.TurnSegment(s); got != turned(s) {
			t.Errorf("TurnSegment(%v) = %v", s, got)
		}
		if got := impl.TurnSegment(impl.TurnSegment(s)); got != s {
			t.Errorf("%v, turned twice, is %v", s, got)
		}
	}
}
