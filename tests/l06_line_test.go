package tests

import (
	"fmt"
	"math"
	"math/rand/v2"
	"slices"
	"testing"

	"loop.example/g03005/impl"
)

// through makes a list of points from their coordinates, two for each.
func through(coordinates ...int) []impl.Point {
	points := []impl.Point{}
	for pair := range slices.Chunk(coordinates, 2) {
		points = append(points, at(pair[0], pair[1]))
	}
	return points
}

func backwards(l []impl.Point) []impl.Point {
	turned := slices.Clone(l)
	slices.Reverse(turned)
	return turned
}

// stairs has a step to the right for each odd point, and one up for each
// even one.
func stairs(points int) []impl.Point {
	l := []impl.Point{}
	for i := range points {
		l = append(l, at(10+(i+1)/2*20, 10+i/2*20))
	}
	return l
}

// noLines are lists that make no line. Most have neighbours that would be a
// segment.
func noLines() [][]impl.Point {
	bad := [][]impl.Point{
		nil, {}, through(1, 1), through(0, 0), through(201, -1), stairs(11), stairs(12), stairs(19),
		through(5, 5, 5, 5), through(0, 0, 0, 0, 9, 0), through(0, 0, 9, 0, 9, 0), through(0, 0, 9, 9, 9, 9, 4, 4),
		append(stairs(9), stairs(9)[8]), append(stairs(1), stairs(9)...),
		slices.Repeat(through(0, 0, 9, 9), 500),
	}
	for _, p := range offMap {
		bad = append(bad, []impl.Point{p}, []impl.Point{p, p})
		for i := range 4 {
			bad = append(bad, slices.Insert(through(0, 0, 9, 9, 200, 200), i, p))
		}
		bad = append(bad, append(stairs(9), p), append([]impl.Point{p}, stairs(9)...))
	}
	return bad
}

// linesThrough are all lines of the given number of points from a list.
func linesThrough(points []impl.Point, count int) [][]impl.Point {
	lines := [][]impl.Point{{}}
	for range count {
		longer := [][]impl.Point{}
		for _, l := range lines {
			for _, p := range points {
				if len(l) == 0 || l[len(l)-1] != p {
					longer = append(longer, append(slices.Clone(l), p))
				}
			}
		}
		lines = longer
	}
	return lines
}

// joints are the segments from each point to the next.
func joints(l []impl.Point) []impl.Segment {
	segments := []impl.Segment{}
	for i := 0; i+1 < len(l); i++ {
		segments = append(segments, impl.Segment{A: l[i], B: l[i+1]})
	}
	return segments
}

// meetings remembers how segments meet, because it is slow to find out.
type meetings map[[2]impl.Segment]int

func (m meetings) how(s, o impl.Segment) int {
	pair := [2]impl.Segment{s, o}
	how, known := m[pair]
	if !known {
		how = howTheyMeet(s, o)
		m[pair] = how
	}
	return how
}

func (m meetings) howLinesMeet(a, b []impl.Point) int {
	greatest := 0
	for _, s := range joints(a) {
		for _, o := range joints(b) {
			greatest = max(greatest, m.how(s, o))
		}
	}
	return greatest
}

func (m meetings) simple(l []impl.Point) bool {
	segments := joints(l)
	for i := range segments {
		for j := i + 2; j < len(segments); j++ {
			if m.how(segments[i], segments[j]) != 0 {
				return false
			}
		}
		if i > 0 && m.how(segments[i-1], segments[i]) != 1 {
			return false
		}
	}
	return true
}

// checkLinesMeet checks a pair in both orders and all directions.
func checkLinesMeet(t *testing.T, a, b []impl.Point, want int) {
	t.Helper()
	for _, l := range [][]impl.Point{a, backwards(a)} {
		for _, o := range [][]impl.Point{b, backwards(b)} {
			if got := impl.LinesMeet(l, o); got != want {
				t.Fatalf("LinesMeet(%v, %v) = %d, want %d", l, o, got, want)
			}
			if got := impl.LinesMeet(o, l); got != want {
				t.Fatalf("LinesMeet(%v, %v) = %d, want %d", o, l, got, want)
			}
		}
	}
}

// checkSimple checks a line in both directions.
func checkSimple(t *testing.T, l []impl.Point, want bool) {
	t.Helper()
	for _, o := range [][]impl.Point{l, backwards(l)} {
		if !impl.IsLine(o) {
			t.Errorf("%v is not a line", o)
		}
		if got := impl.IsSimple(o); got != want {
			t.Errorf("IsSimple(%v) = %v", o, got)
		}
	}
}

func TestMaxPoints(t *testing.T) {
	if impl.MaxPoints != 10 {
		t.Errorf("MaxPoints = %d", impl.MaxPoints)
	}
}

func TestSimpleLines(t *testing.T) {
	for _, l := range [][]impl.Point{
		through(0, 0, 1, 0), through(5, 7, 5, 9), through(0, 0, 200, 200), through(200, 0, 0, 200),
		through(0, 0, 4, 0, 4, 3), through(0, 0, 4, 0, 8, 0), through(3, 1, 3, 2, 3, 9), through(1, 1, 3, 2, 7, 4),
		through(0, 0, 4, 0, 4, 3, 1, 3),
		// Nearly closed.
		through(0, 0, 4, 0, 4, 4, 0, 4, 0, 1), through(0, 0, 4, 0, 0, 4, 1, 1),
		// Ends beside the line.
		through(0, 0, 9, 0, 9, 5, 4, 1), through(0, 0, 9, 9, 9, 3, 5, 4),
		// Around the edge of the map.
		through(0, 0, 200, 0, 200, 200, 0, 200, 0, 1), through(0, 200, 0, 0), through(0, 200, 100, 200, 200, 200),
		through(200, 0, 200, 199, 200, 200, 199, 200),
	} {
		checkSimple(t, l, true)
	}
	for points := 2; points <= 10; points++ {
		checkSimple(t, stairs(points), true)
	}
	// All ten points in a row, and a spiral of ten points.
	checkSimple(t, through(0, 9, 1, 9, 2, 9, 3, 9, 4, 9, 5, 9, 6, 9, 7, 9, 8, 9, 9, 9), true)
	checkSimple(t, through(0, 0, 8, 0, 8, 8, 0, 8, 0, 2, 6, 2, 6, 6, 2, 6, 2, 4, 4, 4), true)
}

func TestLinesThatAreNotSimple(t *testing.T) {
	for _, l := range [][]impl.Point{
		// Back on itself, all the way, less far, and farther.
		through(0, 0, 4, 0, 0, 0), through(0, 0, 4, 0, 2, 0), through(2, 2, 4, 4, 0, 0), through(7, 1, 7, 9, 7, 8),
		through(0, 0, 9, 0, 9, 5, 9, 2), through(0, 0, 4, 0, 8, 0, 7, 0), through(0, 200, 200, 200, 199, 200),
		// Ends where it begins.
		through(0, 0, 4, 0, 0, 4, 0, 0), through(0, 0, 4, 0, 4, 4, 0, 4, 0, 0),
		through(0, 0, 200, 0, 200, 200, 0, 200, 0, 0),
		// Crosses itself.
		through(0, 0, 4, 0, 4, 3, 1, 3, 1, 0), through(0, 0, 9, 9, 9, 0, 0, 9), through(0, 4, 9, 4, 9, 0, 3, 0, 3, 9),
		through(0, 0, 200, 200, 200, 0, 0, 200),
		// Touches itself with an end, in a corner, or at the side.
		through(0, 0, 9, 0, 9, 5, 4, 0), through(0, 0, 9, 9, 9, 3, 5, 5), through(0, 0, 4, 4, 8, 0, 8, 8, 4, 4, 0, 8),
		through(0, 0, 9, 0, 9, 5, 4, 0, 2, 5), through(0, 0, 4, 0, 0, 4, 4, 0, 9, 9), through(0, 0, 0, 200, 9, 200, 0, 100),
		// Comes along itself later.
		through(0, 0, 9, 0, 9, 5, 5, 5, 5, 0, 2, 0), through(0, 0, 9, 0, 9, 5, 0, 0, 9, 0), through(0, 0, 4, 0, 4, 3, 0, 0, 4, 0, 9, 0),
	} {
		checkSimple(t, l, false)
	}
	// The last of ten points spoils the line.
	spiral := through(0, 0, 8, 0, 8, 8, 0, 8, 0, 2, 6, 2, 6, 6, 2, 6, 2, 4)
	for _, last := range through(0, 0, 8, 4, 9, 4, 6, 4, 2, 7, 2, 8, 2, 5, 0, 2, 2, 2, 1, 2, 6, 6) {
		checkSimple(t, append(slices.Clone(spiral), last), false)
	}
}

func TestSimpleFollowsItsDefinition(t *testing.T) {
	known := meetings{}
	for _, coordinates := range [][]int{{0, 1, 2}, {198, 199, 200}, {0, 100, 200}} {
		for count := 2; count <= 4; count++ {
			for _, l := range linesThrough(pointsOf(coordinates), count) {
				checkSimple(t, l, known.simple(l))
			}
		}
	}
	for count := 5; count <= 7; count++ {
		for _, l := range linesThrough(through(0, 0, 2, 0, 2, 2, 1, 1), count) {
			checkSimple(t, l, known.simple(l))
		}
	}
}

// randomLine goes to the right, a little back at times; a loose end is
// anywhere.
func randomLine(random *rand.Rand, points int, loose bool) []impl.Point {
	l := []impl.Point{}
	for i := range points {
		l = append(l, at(i*3+random.IntN(5), random.IntN(12)))
	}
	if loose {
		l[points-1] = at(random.IntN(30), random.IntN(30))
	}
	return l
}

func TestLongLinesFollowTheirDefinition(t *testing.T) {
	random := rand.New(rand.NewPCG(6, 6))
	known := meetings{}
	simple, met := map[bool]int{}, map[int]int{}
	other := stairs(10)
	for i := range 3000 {
		l := randomLine(random, 10, i%2 == 0)
		if len(slices.Compact(slices.Clone(l))) < len(l) {
			continue
		}
		want := known.simple(l)
		checkSimple(t, l, want)
		how := known.howLinesMeet(l, other)
		checkLinesMeet(t, l, other, how)
		simple[want]++
		met[how]++
		other = l
	}
	if simple[true] < 100 || simple[false] < 100 || len(met) < 3 {
		t.Errorf("the lines are too much alike: %v, %v", simple, met)
	}
}

func TestSegmentsOf(t *testing.T) {
	cases := []struct {
		l    []impl.Point
		want []impl.Segment
	}{
		{through(3, 4, 9, 1), []impl.Segment{from(3, 4, 9, 1)}},
		{through(9, 1, 3, 4), []impl.Segment{from(9, 1, 3, 4)}},
		{through(0, 0, 4, 0, 4, 3), []impl.Segment{from(0, 0, 4, 0), from(4, 0, 4, 3)}},
		// A line need not be simple.
		{through(0, 0, 4, 0, 0, 0), []impl.Segment{from(0, 0, 4, 0), from(4, 0, 0, 0)}},
		{through(0, 0, 4, 0, 0, 4, 0, 0), []impl.Segment{from(0, 0, 4, 0), from(4, 0, 0, 4), from(0, 4, 0, 0)}},
		{
			through(0, 0, 200, 0, 200, 200, 0, 200),
			[]impl.Segment{from(0, 0, 200, 0), from(200, 0, 200, 200), from(200, 200, 0, 200)},
		},
	}
	for _, c := range cases {
		if got := impl.SegmentsOf(c.l); !slices.Equal(got, c.want) {
			t.Errorf("SegmentsOf(%v) = %v, want %v", c.l, got, c.want)
		}
	}
	for points := 2; points <= 10; points++ {
		l := stairs(points)
		if got := impl.SegmentsOf(l); len(got) != points-1 || !slices.Equal(got, joints(l)) {
			t.Errorf("SegmentsOf(%v) = %v", l, got)
		}
	}
}

func TestLineSteps(t *testing.T) {
	cases := []struct {
		l    []impl.Point
		want int
	}{
		{through(3, 4, 9, 1), 9},
		{through(0, 0, 1, 0), 1},
		{through(0, 0, 200, 200), 400},
		{through(0, 0, 4, 0, 4, 3, 1, 3), 10},
		{through(0, 0, 4, 0, 0, 0), 8},
		{through(0, 0, 4, 0, 2, 0), 6},
		{through(0, 0, 4, 0, 0, 4, 0, 0), 16},
		{through(0, 0, 200, 0, 200, 200, 0, 200), 600},
		{stairs(10), 180},
		{through(0, 0, 200, 200, 0, 0, 200, 200, 0, 0, 200, 200, 0, 0, 200, 200, 0, 0, 200, 200), 3600},
	}
	for _, c := range cases {
		if got := impl.LineSteps(c.l); got != c.want {
			t.Errorf("LineSteps(%v) = %d, want %d", c.l, got, c.want)
		}
		if got := impl.LineSteps(backwards(c.l)); got != c.want {
			t.Errorf("LineSteps(%v) = %d, want %d", backwards(c.l), got, c.want)
		}
	}
}

func TestTurnLine(t *testing.T) {
	cases := []struct{ l, want []impl.Point }{
		{through(3, 4, 9, 1), through(9, 1, 3, 4)},
		{through(0, 0, 4, 0, 4, 3), through(4, 3, 4, 0, 0, 0)},
		{through(0, 0, 4, 0, 4, 3, 1, 3), through(1, 3, 4, 3, 4, 0, 0, 0)},
		{through(0, 0, 4, 0, 0, 0), through(0, 0, 4, 0, 0, 0)},
		// What is no line is turned, too.
		{nil, nil},
		{through(), nil},
		{through(1, 2), through(1, 2)},
		{through(1, 2, 1, 2, 3, 4), through(3, 4, 1, 2, 1, 2)},
		{through(-1, 201, 5, 5, math.MinInt, math.MaxInt), through(math.MinInt, math.MaxInt, 5, 5, -1, 201)},
	}
	for _, c := range cases {
		if got := impl.TurnLine(c.l); !slices.Equal(got, c.want) {
			t.Errorf("TurnLine(%v) = %v, want %v", c.l, got, c.want)
		}
	}
	for _, l := range append(noLines(), stairs(2), stairs(9), stairs(10)) {
		if got := impl.TurnLine(l); !slices.Equal(got, backwards(l)) {
			t.Errorf("TurnLine(%v) = %v", l, got)
		}
		if got := impl.TurnLine(impl.TurnLine(l)); !slices.Equal(got, l) {
			t.Errorf("%v, turned twice, is %v", l, got)
		}
	}
}

func TestATurnedLineHasItsSegmentsTurned(t *testing.T) {
	for _, l := range linesThrough(pointsOf([]int{0, 7, 200}), 3) {
		want := []impl.Segment{}
		for _, s := range slices.Backward(impl.SegmentsOf(l)) {
			want = append(want, turned(s))
		}
		if got := impl.SegmentsOf(impl.TurnLine(l)); len(got) != 2 || !slices.Equal(got, want) {
			t.Fatalf("%v, turned, has the segments %v, want %v", l, got, want)
		}
		if impl.LineSteps(l) == 0 || impl.LineSteps(impl.TurnLine(l)) != impl.LineSteps(l) {
			t.Fatalf("%v, turned, has another length", l)
		}
	}
}

func TestLinesMeet(t *testing.T) {
	line := through(0, 0, 4, 0, 4, 3, 1, 3)
	cases := []struct {
		a, b []impl.Point
		want int
	}{
		// Two lines of two points.
		{through(0, 0, 6, 6), through(0, 6, 6, 0), impl.MtCross},
		{through(0, 0, 6, 6), through(3, 3, 9, 0), impl.MtTouch},
		{through(0, 0, 6, 6), through(6, 6, 9, 0), impl.MtTouch},
		{through(0, 0, 6, 6), through(4, 4, 9, 9), impl.MtAlong},
		{through(0, 0, 6, 6), through(1, 0, 7, 6), impl.MtNone},
		{through(0, 0, 6, 6), through(7, 7, 9, 9), impl.MtNone},
		// A line of four points.
		{line, through(9, 9, 8, 8), impl.MtNone},
		{line, through(1, 1, 3, 2), impl.MtNone},
		{line, through(0, 0, 0, 5), impl.MtTouch},
		{line, through(1, 3, 0, 5), impl.MtTouch},
		{line, through(4, 0, 9, 0), impl.MtTouch},
		{line, through(2, 1, 2, 3), impl.MtTouch},
		{line, through(0, 1, 4, 1), impl.MtTouch},
		// Through a corner, which is an end of both segments.
		{line, through(2, 2, 6, 4), impl.MtTouch},
		{line, through(2, 2, 2, 5), impl.MtCross},
		{line, through(3, 2, 9, 2), impl.MtCross},
		{line, through(2, 2, 2, 5, 0, 5, 0, 0), impl.MtCross},
		{line, through(3, 3, 0, 3), impl.MtAlong},
		{line, through(4, 1, 4, 2), impl.MtAlong},
		{line, through(0, 1, 3, 1, 3, 0, 9, 0), impl.MtAlong},
		// The greatest counts, wherever it is.
		{line, through(0, 0, 2, 1, 2, 5), impl.MtCross},
		{line, through(2, 5, 2, 1, 0, 0), impl.MtCross},
		{line, through(2, 5, 2, 0, 0, 0), impl.MtAlong},
		{line, through(3, 2, 9, 2, 9, 0, 3, 0), impl.MtAlong},
		{line, through(3, 0, 9, 0, 9, 2, 3, 2), impl.MtAlong},
		{line, through(2, 3, 2, 1, 6, 1), impl.MtCross},
		// Lines that are not simple are lines.
		{through(0, 0, 9, 9, 9, 0, 0, 9), through(7, 0, 7, 3), impl.MtCross},
		{through(0, 0, 4, 0, 2, 0), through(3, 0, 3, 5), impl.MtTouch},
		{through(0, 0, 4, 0, 0, 0), through(0, 5, 4, 5, 0, 5), impl.MtNone},
		// Along the edge of the map.
		{through(0, 0, 200, 0, 200, 200), through(0, 1, 0, 200, 199, 200), impl.MtNone},
		{through(0, 0, 200, 0, 200, 200), through(0, 0, 0, 200, 200, 200), impl.MtTouch},
		{through(0, 0, 200, 0, 200, 200), through(0, 5, 0, 200, 200, 200, 200, 199), impl.MtAlong},
		{through(0, 0, 200, 0, 200, 200), through(100, 0, 100, 200), impl.MtTouch},
		{through(0, 0, 200, 200), through(0, 200, 200, 0), impl.MtCross},
	}
	for _, c := range cases {
		checkLinesMeet(t, c.a, c.b, c.want)
	}
}

func TestEachSegmentCounts(t *testing.T) {
	line := stairs(10)
	away := through(199, 0, 199, 1, 199, 2, 199, 3, 199, 4, 199, 5, 199, 6)
	for i, s := range joints(line) {
		right, up := (i+1)%2, i%2
		near := func(below, onward int) impl.Point {
			return at((s.A.X+s.B.X)/2+below*up+onward*right, (s.A.Y+s.B.Y)/2-below*right+onward*up)
		}
		probes := map[int][]impl.Point{
			impl.MtNone:  {near(3, 0), near(1, 0)},
			impl.MtTouch: {near(3, 0), near(0, 0)},
			impl.MtCross: {near(3, 0), near(-3, 0)},
			impl.MtAlong: {near(3, 0), near(0, 0), near(0, 3)},
		}
		for want, probe := range probes {
			// The way to the probe stays on the lower right of the stairs.
			for before := range len(away) + 1 {
				checkLinesMeet(t, line, append(slices.Clone(away[:before]), probe...), want)
			}
		}
	}
}

func TestALineTurnedRoundMeetsWhatItMet(t *testing.T) {
	square := through(0, 0, 200, 0, 200, 200, 0, 200, 100, 100)
	known, lines := meetings{}, append(linesThrough(square, 3), linesThrough(square, 4)...)
	for i, a := range lines {
		for _, b := range lines[i:] {
			checkLinesMeet(t, a, b, known.howLinesMeet(a, b))
		}
	}
	grid := pointsOf([]int{0, 1, 2})
	for _, a := range linesThrough(grid, 2) {
		for _, b := range linesThrough(grid, 3) {
			checkLinesMeet(t, a, b, known.howLinesMeet(a, b))
		}
	}
}

func TestLinesMeetThemselvesAlong(t *testing.T) {
	lines := linesThrough(pointsOf([]int{0, 3, 200}), 3)
	for points := 2; points <= 10; points++ {
		lines = append(lines, stairs(points))
	}
	for _, l := range lines {
		checkLinesMeet(t, l, l, impl.MtAlong)
		checkLinesMeet(t, l, impl.TurnLine(l), impl.MtAlong)
	}
}

func TestNoLines(t *testing.T) {
	for _, bad := range noLines() {
		for _, l := range [][]impl.Point{bad, backwards(bad)} {
			if impl.IsLine(l) || impl.IsSimple(l) {
				t.Errorf("%v is a line: simple %v", l, impl.IsSimple(l))
			}
			if got := impl.SegmentsOf(l); len(got) != 0 {
				t.Errorf("SegmentsOf(%v) = %v", l, got)
			}
			if got := impl.LineSteps(l); got != 0 {
				t.Errorf("LineSteps(%v) = %d", l, got)
			}
		}
		// These lines meet neighbours in most of the lists.
		for _, l := range [][]impl.Point{through(0, 0, 9, 9), through(0, 9, 9, 0, 200, 200), stairs(2), stairs(10), bad} {
			checkLinesMeet(t, l, bad, impl.MtNone)
		}
	}
}

func TestEqualLines(t *testing.T) {
	lists := append(noLines(), stairs(2), stairs(3), stairs(10), backwards(stairs(10)), append(stairs(9), at(1, 1)),
		through(3, 4, 9, 1), through(9, 1, 3, 4), through(3, 4, 9, 2), through(3, 4, 8, 1), through(3, 5, 9, 1), through(2, 4, 9, 1),
		through(4, 3, 1, 9), through(3, 4, 9, 1, 5, 5), through(5, 5, 3, 4, 9, 1), through(3, 4, 9, 1, 3, 4), through(4, 3))
	for i, a := range lists {
		for j, b := range lists {
			if got := impl.EqualLines(a, slices.Clone(b)); got != (fmt.Sprint(a) == fmt.Sprint(b)) {
				t.Errorf("EqualLines(%v, %v) = %v: lists %d and %d", a, b, got, i, j)
			}
		}
	}
	if !impl.EqualLines(nil, nil) || !impl.EqualLines(nil, through()) || !impl.EqualLines(through(), nil) {
		t.Error("an empty list is not equal to a nil one")
	}
	if impl.EqualLines(nil, through(0, 0)) || impl.EqualLines(through(0, 0), nil) {
		t.Error("a nil list is equal to one with a point")
	}
}

func TestLinesShareNoMemory(t *testing.T) {
	spare, other := at(3, 3), at(4, 9)
	for _, l := range append(noLines(), through(0, 0, 4, 0), through(0, 0, 4, 0, 2, 0), stairs(9), stairs(10)) {
		one, two := [][]impl.Point{l}, [][]impl.Point{l, through(0, 9, 9, 0)}
		checkApartOf(t, "TurnLine", one, spare, other, other, func(args [][]impl.Point) []impl.Point {
			return impl.TurnLine(args[0])
		})
		checkApartOf(t, "SegmentsOf", one, spare, other, from(7, 7, 8, 8), func(args [][]impl.Point) []impl.Segment {
			return impl.SegmentsOf(args[0])
		})
		checkApartOf(t, "LineSteps", one, spare, other, 33, func(args [][]impl.Point) []int {
			return []int{impl.LineSteps(args[0])}
		})
		checkApartOf(t, "LinesMeet", two, spare, other, 33, func(args [][]impl.Point) []int {
			return []int{impl.LinesMeet(args[0], args[1]), impl.LinesMeet(args[1], args[0])}
		})
		checkApartOf(t, "IsLine, IsSimple and EqualLines", two, spare, other, false, func(args [][]impl.Point) []bool {
			return []bool{impl.IsLine(args[0]), impl.IsSimple(args[0]), impl.EqualLines(args[0], args[1])}
		})
	}
}
