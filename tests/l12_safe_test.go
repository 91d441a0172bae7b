package tests

import (
	"fmt"
	"math"
	"math/rand/v2"
	"slices"
	"testing"

	"loop.example/g03005/impl"
)

// lines makes a list of lines, to be given as the others.
func lines(l ...[]impl.Point) [][]impl.Point {
	return l
}

// badIndices miss the corners of a line by a little or by a lot.
func badIndices(l []impl.Point) []int {
	return []int{-1, 0, len(l) - 1, len(l), -2, len(l) + 1, 1<<32 + 1, -(1 << 32) + 1, math.MinInt, math.MinInt + 1, math.MaxInt - 1, math.MaxInt}
}

func isCornerAsSaid(l []impl.Point, i int) bool {
	return isLineAsSaid(l) && i >= 1 && i <= len(l)-2
}

// areaAsSaid adds up what the three sides of the triangle have between them
// and the point 0, 0.
func areaAsSaid(l []impl.Point, i int) int {
	if !isCornerAsSaid(l, i) {
		return -1
	}
	a, b, c := l[i-1], l[i], l[i+1]
	area := a.X*b.Y - a.Y*b.X + b.X*c.Y - b.Y*c.X + c.X*a.Y - c.Y*a.X
	return max(area, -area)
}

// dropAsSaid gives nothing if the point cannot be dropped.
func dropAsSaid(l []impl.Point, i int) ([]impl.Point, bool) {
	left := []impl.Point{}
	for j, p := range l {
		if j != i {
			left = append(left, p)
		}
	}
	if !isCornerAsSaid(l, i) || !isLineAsSaid(left) {
		return nil, false
	}
	return left, true
}

func (m meetings) canDropAsSaid(l []impl.Point, i int, others [][]impl.Point) bool {
	left, ok := dropAsSaid(l, i)
	if !ok || !m.simple(left) {
		return false
	}
	for _, o := range others {
		if isLineAsSaid(o) && m.howLinesMeet(left, o) > m.howLinesMeet(l, o) {
			return false
		}
	}
	return true
}

// safeAsSaid looks through all points again after each one that is dropped.
func (m meetings) safeAsSaid(l []impl.Point, others [][]impl.Point, least int) []impl.Point {
	if !isLineAsSaid(l) || !m.simple(l) {
		return l
	}
	for {
		place := -1
		for i := 1; i < len(l)-1; i++ {
			area := areaAsSaid(l, i)
			if area < least && (place < 0 || area < areaAsSaid(l, place)) && m.canDropAsSaid(l, i, others) {
				place = i
			}
		}
		if place < 0 {
			return l
		}
		l, _ = dropAsSaid(l, place)
	}
}

// checkDrop checks one point: whether it is dropped, what is left, and its
// area. If it is not dropped, a copy of the line is given.
func checkDrop(t *testing.T, l []impl.Point, i int) {
	t.Helper()
	want, can := dropAsSaid(l, i)
	if !can {
		want = l
	}
	if got, ok := impl.DropPoint(l, i); ok != can || !slices.Equal(got, want) {
		t.Fatalf("DropPoint(%v, %d) = %v, %v", l, i, got, ok)
	}
	if got := impl.CornerArea(l, i); got != areaAsSaid(l, i) {
		t.Fatalf("CornerArea(%v, %d) = %d", l, i, got)
	}
}

// checkMeets checks how a line meets each of the others, and gives it.
func (m meetings) checkMeets(t *testing.T, l []impl.Point, others [][]impl.Point) []int {
	t.Helper()
	got := impl.MeetsAll(l, others)
	if len(got) != len(others) {
		t.Fatalf("MeetsAll(%v, %v) = %v", l, others, got)
	}
	for i, o := range others {
		want := impl.MtNone
		if isLineAsSaid(l) && isLineAsSaid(o) {
			want = m.howLinesMeet(l, o)
		}
		if got[i] != want {
			t.Fatalf("MeetsAll(%v, %v) = %v: %d is %d", l, others, got, i, want)
		}
	}
	return got
}

// checkSafe checks which points of a line are left, and what follows from it:
// the result is simple and a part of the line, has its ends, meets no other
// line more than the line did, and has no point that is still to be dropped.
func (m meetings) checkSafe(t *testing.T, l []impl.Point, others [][]impl.Point, least int, want []impl.Point) {
	t.Helper()
	got := impl.SafeSimplify(l, others, least)
	if !slices.Equal(got, want) {
		t.Fatalf("SafeSimplify(%v, %v, %d) = %v, want %v", l, others, least, got, want)
	}
	if !isLineAsSaid(l) || !m.simple(l) {
		return
	}
	if !m.simple(got) || !impl.IsPartOf(got, l) || got[0] != l[0] || got[len(got)-1] != l[len(l)-1] {
		t.Fatalf("%v is not a simpler line of %v", got, l)
	}
	before, after := m.checkMeets(t, l, others), m.checkMeets(t, got, others)
	for i := range others {
		if after[i] > before[i] {
			t.Fatalf("%v, the simpler line of %v, meets %v as %d, which it met as %d", got, l, others[i], after[i], before[i])
		}
	}
	for i := 1; i < len(got)-1; i++ {
		if impl.CornerArea(got, i) < least && impl.CanDrop(got, i, others) {
			t.Fatalf("%v, the simpler line of %v for %v and %d, has the point %d still", got, l, others, least, i)
		}
	}
}

// checkCanDrop checks one point in both directions of the line and of each
// of the others, and with the others in both orders.
func checkCanDrop(t *testing.T, l []impl.Point, i int, others [][]impl.Point, want bool) {
	t.Helper()
	turnedOthers := [][]impl.Point{}
	for _, o := range slices.Backward(others) {
		turnedOthers = append(turnedOthers, backwards(o))
	}
	for _, list := range [][][]impl.Point{others, turnedOthers} {
		if got := impl.CanDrop(l, i, list); got != want {
			t.Errorf("CanDrop(%v, %d, %v) = %v", l, i, list, got)
		}
		if i < -9 || i > 99 {
			continue
		}
		if got := impl.CanDrop(backwards(l), len(l)-1-i, list); got != want {
			t.Errorf("CanDrop(%v, %d, %v) = %v", backwards(l), len(l)-1-i, list, got)
		}
	}
}

func TestDropPoint(t *testing.T) {
	l := through(0, 0, 4, 1, 8, 0, 12, 6, 16, 0)
	twice := through(0, 0, 9, 0, 4, 4, 9, 0, 9, 9)
	closed := through(0, 0, 4, 0, 4, 4, 0, 0)
	cases := []struct {
		l    []impl.Point
		i    int
		want []impl.Point
		ok   bool
	}{
		{l, 1, through(0, 0, 8, 0, 12, 6, 16, 0), true},
		{l, 2, through(0, 0, 4, 1, 12, 6, 16, 0), true},
		{l, 3, through(0, 0, 4, 1, 8, 0, 16, 0), true},
		// The first and the last point are never dropped.
		{l, 0, l, false}, {l, 4, l, false}, {l, 5, l, false}, {l, -1, l, false}, {l, math.MinInt, l, false}, {l, math.MaxInt, l, false},
		// Lines of three points, and of two.
		{l[:3], 0, l[:3], false}, {l[:3], 1, through(0, 0, 8, 0), true}, {l[:3], 2, l[:3], false},
		{l[:2], 0, l[:2], false}, {l[:2], 1, l[:2], false}, {l[:2], 2, l[:2], false}, {l[:2], -1, l[:2], false},
		// On the way, and where the line goes back along itself.
		{through(0, 0, 4, 2, 6, 3), 1, through(0, 0, 6, 3), true}, {through(0, 0, 4, 0, 2, 0), 1, through(0, 0, 2, 0), true}, {through(2, 0, 4, 0, 0, 0), 1, through(2, 0, 0, 0), true},
		// Between two equal points, and beside them.
		{through(0, 0, 4, 0, 0, 0), 1, through(0, 0, 4, 0, 0, 0), false},
		{twice, 2, twice, false}, {twice, 1, through(0, 0, 4, 4, 9, 0, 9, 9), true}, {twice, 3, through(0, 0, 9, 0, 4, 4, 9, 9), true},
		{through(0, 0, 9, 0, 0, 0, 9, 0), 1, through(0, 0, 9, 0, 0, 0, 9, 0), false}, {through(0, 0, 9, 0, 0, 0, 9, 0), 2, through(0, 0, 9, 0, 0, 0, 9, 0), false},
		// The line begins and ends at the same point.
		{closed, 1, through(0, 0, 4, 4, 0, 0), true}, {closed, 2, through(0, 0, 4, 0, 0, 0), true}, {closed, 0, closed, false}, {closed, 3, closed, false},
		// The line crosses itself, before or afterwards.
		{through(0, 0, 9, 9, 9, 0, 0, 9), 1, through(0, 0, 9, 0, 0, 9), true}, {through(0, 20, 20, 20, 20, 0, 10, 0, 10, 15), 1, through(0, 20, 20, 0, 10, 0, 10, 15), true},
	}
	for _, c := range cases {
		if got, ok := impl.DropPoint(c.l, c.i); ok != c.ok || !slices.Equal(got, c.want) {
			t.Errorf("DropPoint(%v, %d) = %v, %v", c.l, c.i, got, ok)
		}
		checkDrop(t, c.l, c.i)
	}
	for points := 2; points <= 12; points++ {
		for i := -1; i <= points; i++ {
			checkDrop(t, stairs(points), i)
		}
	}
	if got, ok := impl.DropPoint(stairs(10), 8); !ok || len(got) != 9 || got[8] != stairs(10)[9] {
		t.Errorf("DropPoint(%v, 8) = %v, %v", stairs(10), got, ok)
	}
}

func TestCornerArea(t *testing.T) {
	l := through(0, 0, 4, 1, 8, 0, 12, 6, 16, 0)
	cases := []struct {
		l       []impl.Point
		i, want int
	}{
		{l, 1, 8}, {l, 2, 28}, {l, 3, 48},
		{l, 0, -1}, {l, 4, -1}, {l, 5, -1}, {l, -1, -1}, {l, math.MinInt, -1}, {l, math.MaxInt, -1},
		{l[:3], 1, 8}, {l[:3], 0, -1}, {l[:3], 2, -1}, {l[:2], 0, -1}, {l[:2], 1, -1},
		// To the left and to the right, level, steep and slanting.
		{through(0, 0, 4, 0, 4, 3), 1, 12}, {through(0, 3, 4, 3, 4, 0), 1, 12}, {through(5, 5, 5, 9, 2, 2), 1, 12}, {through(1, 2, 7, 3, 4, 9), 1, 39},
		// No area: on the way, back, back beyond the start, and back to it.
		{through(0, 0, 4, 0, 8, 0), 1, 0}, {through(1, 1, 3, 2, 7, 4), 1, 0}, {through(9, 9, 9, 5, 9, 0), 1, 0}, {through(0, 0, 200, 200, 199, 199), 1, 0},
		{through(0, 0, 4, 0, 2, 0), 1, 0}, {through(2, 0, 4, 0, 0, 0), 1, 0}, {through(0, 0, 4, 3, 0, 0), 1, 0},
		// The least area, and the greatest one.
		{through(0, 0, 1, 0, 1, 1), 1, 1}, {through(0, 0, 200, 199, 199, 198), 1, 1}, {through(0, 0, 100, 100, 200, 199), 1, 100}, {through(0, 0, 199, 200, 200, 200), 1, 200},
		{through(0, 0, 200, 0, 0, 200), 1, 40000}, {through(0, 0, 200, 200, 0, 200), 1, 40000}, {through(0, 200, 200, 200, 77, 0), 1, 40000},
	}
	for _, c := range cases {
		if got := impl.CornerArea(c.l, c.i); got != c.want {
			t.Errorf("CornerArea(%v, %d) = %d, want %d", c.l, c.i, got, c.want)
		}
		if c.i < -1 || c.i > len(c.l) {
			continue
		}
		if got := impl.CornerArea(backwards(c.l), len(c.l)-1-c.i); got != c.want {
			t.Errorf("CornerArea(%v, %d) = %d, want %d", backwards(c.l), len(c.l)-1-c.i, got, c.want)
		}
	}
}

func TestDroppingFollowsItsDefinition(t *testing.T) {
	for _, coordinates := range [][]int{{0, 1, 2}, {0, 3, 200}} {
		for count := 2; count <= 4; count++ {
			for _, l := range linesThrough(pointsOf(coordinates), count) {
				for i := range count {
					checkDrop(t, l, i)
				}
			}
		}
	}
	random := rand.New(rand.NewPCG(12, 1))
	for range 2000 {
		l := []impl.Point{}
		for range 2 + random.IntN(10) {
			l = append(l, at(random.IntN(201), random.IntN(201)))
		}
		for i := -1; i <= len(l); i++ {
			checkDrop(t, l, i)
		}
	}
}

func TestNoLineHasCorners(t *testing.T) {
	others := lines(through(0, 0, 200, 200), stairs(10))
	for _, l := range noLines() {
		for _, i := range append([]int{1, 2, 3, 4, 5, 8, 9, 10}, badIndices(l)...) {
			if got, ok := impl.DropPoint(l, i); ok || !slices.Equal(got, l) {
				t.Errorf("DropPoint(%v, %d) = %v, %v", l, i, got, ok)
			}
			if got := impl.CornerArea(l, i); got != -1 {
				t.Errorf("CornerArea(%v, %d) = %d", l, i, got)
			}
			if impl.CanDrop(l, i, nil) || impl.CanDrop(l, i, others) {
				t.Errorf("the point %d of %v can be dropped", i, l)
			}
		}
		for _, least := range []int{0, 1, -1, 50000, math.MinInt, math.MaxInt} {
			meetings{}.checkSafe(t, l, nil, least, l)
			meetings{}.checkSafe(t, l, others, least, l)
		}
		meetings{}.checkMeets(t, l, append(others, l))
	}
}

func TestNoOtherPointIsACorner(t *testing.T) {
	for _, l := range lines(through(0, 0, 9, 0), through(0, 0, 4, 0, 8, 0), through(0, 0, 4, 0, 0, 0), through(0, 0, 4, 4, 8, 0, 12, 4), stairs(9), stairs(10)) {
		for _, i := range badIndices(l) {
			if got, ok := impl.DropPoint(l, i); ok || !slices.Equal(got, l) {
				t.Errorf("DropPoint(%v, %d) = %v, %v", l, i, got, ok)
			}
			if got := impl.CornerArea(l, i); got != -1 {
				t.Errorf("CornerArea(%v, %d) = %d", l, i, got)
			}
			checkCanDrop(t, l, i, nil, false)
			checkCanDrop(t, l, i, lines(l), false)
		}
	}
}

func TestCanDrop(t *testing.T) {
	roof, level := through(0, 10, 10, 20, 20, 10), through(0, 10, 10, 10, 20, 10)
	long := through(0, 10, 10, 10, 10, 20, 20, 10, 30, 10)
	crossing := through(10, 5, 10, 15)
	cases := []struct {
		name   string
		l      []impl.Point
		i      int
		others [][]impl.Point
		want   bool
	}{
		{"no other lines", roof, 1, nil, true},
		{"an empty list of others", roof, 1, lines(), true},
		{"far away", roof, 1, lines(through(100, 100, 200, 200)), true},
		{"a line of two points", roof[:2], 1, nil, false},
		{"within the corner", roof, 1, lines(through(10, 12, 10, 15)), true},
		{"around the corner", roof, 1, lines(through(0, 5, 0, 0, 50, 0, 50, 50, 0, 50, 0, 30)), true},
		{"the line itself", roof, 1, lines(roof), true},
		{"the line itself, and across", roof, 1, lines(roof, crossing), false},
		{"what will be left", roof, 1, lines(through(0, 10, 20, 10)), false},
		{"a part of the line", roof, 1, lines(through(0, 10, 10, 20)), true},

		// The new segment meets what the line did not meet.
		{"across the new segment", roof, 1, lines(crossing), false},
		{"an end on the new segment", roof, 1, lines(through(10, 5, 10, 10)), false},
		{"a corner on the new segment", roof, 1, lines(through(5, 5, 10, 10, 15, 5)), false},
		{"along the new segment", roof, 1, lines(through(5, 10, 15, 10)), false},
		{"just above the new segment", roof, 1, lines(through(5, 11, 15, 11)), true},
		{"just below the new segment", roof, 1, lines(through(0, 9, 200, 9)), true},
		{"across both", roof, 1, lines(through(5, 5, 5, 25)), true},
		{"across another segment of the line", long, 2, lines(through(5, 5, 5, 15)), true},
		{"across another segment and the new one", long, 2, lines(through(5, 5, 5, 15, 12, 15, 12, 5)), true},

		// A meeting is taken away.
		{"a touch is taken away", roof, 1, lines(through(10, 20, 10, 30)), true},
		{"a touch at the corner is taken away", roof, 1, lines(through(0, 20, 50, 20)), true},
		{"two crossings are taken away", roof, 1, lines(through(0, 18, 20, 18)), true},
		{"a way along is taken away", roof, 1, lines(through(10, 20, 15, 15)), true},
		{"one of two crossings is taken away", roof, 1, lines(through(5, 5, 5, 25, 11, 25, 11, 17)), true},

		// A meeting becomes greater.
		{"a touch becomes a crossing", roof, 1, lines(through(10, 0, 10, 20)), false},
		{"a touch elsewhere, and a crossing", roof, 1, lines(through(0, 10, 0, 0, 10, 0, 10, 11)), false},
		{"a crossing becomes a way along", roof, 1, lines(through(5, 5, 5, 25, 12, 10, 8, 10)), false},
		{"a touch becomes a way along", roof, 1, lines(through(10, 20, 12, 10, 8, 10)), false},

		// A meeting stays what it was, or becomes less.
		{"a touch at an end stays", roof, 1, lines(through(0, 10, 0, 0)), true},
		{"a touch stays a touch elsewhere", roof, 1, lines(through(10, 20, 0, 20, 0, 0, 10, 0, 10, 10)), true},
		{"a crossing stays, and a touch comes", roof, 1, lines(through(10, 17, 10, 25, 5, 25, 5, 5, 10, 10)), true},
		{"a crossing becomes a touch", roof, 1, lines(through(5, 20, 15, 20, 15, 10)), true},
		{"a way along becomes a crossing", roof, 1, lines(through(5, 15, 8, 18, 8, 5)), true},
		{"a way along stays", roof, 1, lines(through(0, 10, 20, 10, 10, 20)), true},

		// A corner of no area.
		{"a point on the way", level, 1, nil, true},
		{"through the point on the way", level, 1, lines(crossing), false},
		{"slanting through the point on the way", through(0, 0, 3, 4, 9, 12), 1, lines(through(0, 5, 6, 3)), false},
		{"to the point on the way", level, 1, lines(through(10, 10, 10, 20)), true},
		{"to the point on the way and on along it", level, 1, lines(through(10, 20, 10, 10, 15, 10)), true},
		{"around the point on the way, with a corner there", level, 1, lines(through(10, 20, 10, 10, 10, 0)), true},
		{"through the point on the way, and across elsewhere", level, 1, lines(through(10, 0, 10, 20, 5, 20, 5, 5)), true},
		{"through the point on the way, another across elsewhere", level, 1, lines(through(5, 5, 5, 15), crossing), false},
		{"through the point on the way, from the line itself on", level, 1, lines(level, crossing), false},
		{"along the point on the way", level, 1, lines(through(5, 10, 15, 10)), true},
		{"from the point on the way there", through(0, 10, 10, 10, 12, 10, 20, 10), 2, lines(crossing), true},
		{"back along itself", through(0, 10, 10, 10, 5, 10), 1, nil, true},
		{"back along itself, to another line", through(0, 10, 10, 10, 5, 10), 1, lines(through(10, 10, 10, 20)), true},
		{"back along itself, across another line", through(0, 10, 10, 10, 5, 10), 1, lines(through(7, 0, 7, 20)), true},
		{"back along itself, ends on another line", through(0, 10, 10, 10, 5, 10), 1, lines(through(5, 0, 5, 20)), true},
		{"back along itself, beyond its start", through(5, 10, 10, 10, 0, 10), 1, lines(through(3, 0, 3, 20)), true},
		{"back to its start", through(0, 10, 10, 10, 0, 10), 1, nil, false},
		{"back to its start, and on", through(0, 10, 10, 10, 0, 10, 0, 20), 1, nil, false},
		{"back to its start, and on, later", through(0, 10, 10, 10, 0, 10, 0, 20), 2, nil, true},

		// Several other lines.
		{"the first one is in the way", roof, 1, lines(crossing, through(0, 0, 9, 0), through(0, 1, 9, 1)), false},
		{"the second one is in the way", roof, 1, lines(through(0, 0, 9, 0), crossing, through(0, 1, 9, 1)), false},
		{"the last one is in the way", roof, 1, lines(through(0, 0, 9, 0), through(0, 1, 9, 1), crossing), false},
		{"one in the way, one met along already", roof, 1, lines(through(0, 10, 10, 20), through(5, 10, 15, 10)), false},
		{"none is in the way", roof, 1, lines(through(0, 0, 9, 0), through(0, 10, 0, 0), roof, through(10, 20, 10, 30)), true},

		// The line meets itself, before or afterwards.
		{"it would cross itself", through(0, 20, 20, 20, 20, 0, 10, 0, 10, 15), 1, nil, false},
		{"it would touch itself", through(0, 20, 20, 20, 20, 0, 10, 0, 10, 10), 1, nil, false},
		{"it would end just before itself", through(0, 20, 20, 20, 20, 0, 10, 0, 10, 9), 1, nil, true},
		{"it would lie along itself", through(0, 20, 20, 20, 20, 0, 5, 0, 5, 15, 6, 14), 1, nil, false},
		{"it would go back along itself", through(10, 0, 0, 0, 0, 5, 20, 0), 2, nil, false},
		{"it would go on straight", through(10, 10, 20, 10, 20, 15, 30, 10), 2, nil, true},
		{"it would end where it begins", through(0, 0, 9, 0, 9, 9, 0, 0), 1, nil, false},
		{"it crosses itself, but no more", through(0, 0, 9, 9, 9, 0, 0, 9), 1, nil, true},
		{"it crosses itself still", through(0, 0, 9, 9, 9, 0, 0, 9, 0, 20), 3, nil, false},
		{"it crossed itself, and will meet another line", through(0, 0, 9, 9, 9, 0, 0, 9), 1, lines(through(5, 0, 5, 2)), false},
		{"a line that begins and ends at one point", through(0, 0, 9, 0, 9, 9, 0, 9, 0, 0), 2, nil, false},
	}
	for _, c := range cases {
		t.Run(c.name, func(t *testing.T) {
			if want := (meetings{}).canDropAsSaid(c.l, c.i, c.others); want != c.want {
				t.Errorf("the point %d of %v can be dropped: %v", c.i, c.l, want)
			}
			checkCanDrop(t, c.l, c.i, c.others, c.want)
		})
	}
}

func TestOtherListsThatAreNoLines(t *testing.T) {
	known, roof, loose := meetings{}, through(0, 10, 10, 20, 20, 10), through(10, 5, 10, 15, 11, 5, 11, 15)
	blocks := lines(
		nil, through(), through(10, 10), through(10, 10, 10, 10), through(10, 5, 10, 15, 10, 15), through(10, 5, 10, 5, 10, 15),
		through(10, 5, 10, 201), through(10, -1, 10, 15), through(10, 5, 10, 15, 201, 15), slices.Repeat(loose, 3)[:11], slices.Repeat(loose, 50),
	)
	for _, o := range blocks {
		checkCanDrop(t, roof, 1, lines(o), true)
		checkCanDrop(t, roof, 1, lines(o, roof, o), true)
		known.checkSafe(t, roof, lines(o), 201, through(0, 10, 20, 10))
		known.checkMeets(t, roof, lines(o, roof, o))
	}
	checkCanDrop(t, roof, 1, blocks, true)
	checkCanDrop(t, roof, 1, append(blocks, slices.Repeat(loose, 3)[:10]), false)
	known.checkSafe(t, roof, blocks, 201, through(0, 10, 20, 10))
	known.checkSafe(t, roof, append(blocks, slices.Repeat(loose, 3)[:10]), 201, roof)
}

func TestSafeSimplify(t *testing.T) {
	saw, even := through(0, 0, 10, 4, 20, 0, 30, 6, 40, 0), through(0, 0, 10, 5, 20, 0, 30, 5, 40, 0)
	falling, bow := through(0, 10, 10, 12, 20, 10, 100, 6), through(0, 0, 10, 10, 20, 6, 30, 0)
	row, hook := through(0, 9, 10, 9, 20, 9, 30, 9), through(0, 10, 10, 14, 20, 10, 10, 0, 10, 12)
	around := through(10, 12, 10, 30, 150, 30, 150, 0, 25, 0, 25, 9)
	cases := []struct {
		name   string
		l      []impl.Point
		others [][]impl.Point
		least  int
		want   []impl.Point
	}{
		// Areas of 80, 100 and 120. The corner of 100 becomes one of 120.
		{"no area is less than 0", saw, nil, 0, saw},
		{"no area is less than -1", saw, nil, -1, saw},
		{"no area is less than the least number", saw, nil, math.MinInt, saw},
		{"less than 1", saw, nil, 1, saw},
		{"just least", saw, nil, 80, saw},
		{"just below", saw, nil, 81, through(0, 0, 20, 0, 30, 6, 40, 0)},
		{"a corner becomes greater", saw, nil, 101, through(0, 0, 20, 0, 30, 6, 40, 0)},
		{"a corner becomes just least", saw, nil, 120, through(0, 0, 20, 0, 30, 6, 40, 0)},
		{"a corner becomes just less, and so does its neighbour", saw, nil, 121, through(0, 0, 30, 6, 40, 0)},
		{"the last corner is just least", saw, nil, 240, through(0, 0, 30, 6, 40, 0)},
		{"the last corner is just below", saw, nil, 241, through(0, 0, 40, 0)},
		{"all corners", saw, nil, math.MaxInt, through(0, 0, 40, 0)},

		// Areas of 100.
		{"equal corners, just least", even, nil, 100, even},
		{"equal corners, the first one is dropped", even, nil, 101, through(0, 0, 30, 5, 40, 0)},
		{"equal corners, from the other side", backwards(even), nil, 101, through(40, 0, 10, 5, 0, 0)},
		{"equal corners, the first one is not free", even, lines(through(10, 0, 10, 2)), 101, through(0, 0, 10, 5, 40, 0)},
		{"equal corners, the first one is free only later", even, lines(through(10, 0, 10, 1)), 101, through(0, 0, 30, 5, 40, 0)},

		// Areas of 40 and 120. The corner of 120 becomes one of 80.
		{"a corner does not become small enough", falling, nil, 80, through(0, 10, 20, 10, 100, 6)},
		{"a corner becomes small enough", falling, nil, 81, through(0, 10, 100, 6)},
		{"no corner is small", falling, nil, 40, falling},
		{"a touch is taken away and does not come back", falling, lines(around), 100, through(0, 10, 20, 10, 100, 6)},
		{"a touch is taken away and does not come back, for any area", falling, lines(around), 50000, through(0, 10, 20, 10, 100, 6)},
		{"a touch stays", falling, lines(through(0, 10, 0, 0), around[1:5]), 100, through(0, 10, 100, 6)},

		// Areas of 140 and 20, which becomes 180; or of 300, which was 140.
		{"dropped only once its neighbour is", bow, lines(through(19, 5, 20, 5)), 200, through(0, 0, 30, 0)},
		{"not dropped once its neighbour is", bow, lines(through(19, 5, 20, 5)), 180, through(0, 0, 20, 6, 30, 0)},
		{"not dropped as its neighbour is not", bow, lines(through(19, 5, 20, 5)), 140, bow},
		{"dropped no longer", bow, lines(through(15, 0, 15, 3)), 1000, through(0, 0, 10, 10, 30, 0)},
		{"dropped no longer, for its area", bow, nil, 300, through(0, 0, 10, 10, 30, 0)},
		{"dropped still", bow, lines(through(15, 1, 15, 3)), 301, through(0, 0, 30, 0)},

		// Corners of no area.
		{"on the way, for 0", row, nil, 0, row},
		{"on the way, for -1", row, nil, -1, row},
		{"on the way, for 1", row, nil, 1, through(0, 9, 30, 9)},
		{"on the way, a line through one of them", row, lines(through(20, 0, 20, 18)), 1, through(0, 9, 20, 9, 30, 9)},
		{"on the way, a line through the other one", row, lines(through(10, 0, 10, 18)), 50000, through(0, 9, 10, 9, 30, 9)},
		{"on the way, lines through both", row, lines(through(20, 0, 20, 18), through(10, 0, 10, 18)), 50000, row},
		{"on the way, a line through both", row, lines(through(20, 0, 20, 18, 10, 18, 10, 0)), 1, row},
		{"on the way, a line through one and across", row, lines(through(20, 0, 20, 18, 15, 18, 15, 0)), 1, through(0, 9, 30, 9)},
		{"on the way, a line to both", row, lines(through(10, 9, 10, 18, 20, 18, 20, 9)), 1, through(0, 9, 30, 9)},
		{"on the way, with corners of the other line there", row, lines(through(10, 0, 10, 9, 10, 18, 20, 18, 20, 9, 20, 0)), 1, through(0, 9, 30, 9)},
		{"on the way once the point between is dropped", through(0, 0, 10, 0, 15, 1, 20, 0, 40, 0), nil, 21, through(0, 0, 40, 0)},
		{"on the way, after a corner that is kept", through(0, 0, 10, 10, 20, 0, 30, 0, 40, 0), nil, 200, through(0, 0, 10, 10, 20, 0, 40, 0)},

		// Other lines in the way of some corners.
		{"the least corner is not free", saw, lines(through(10, 0, 10, 3)), 101, through(0, 0, 10, 4, 30, 6, 40, 0)},
		{"the least corner is free only later", saw, lines(through(10, 0, 10, 1)), 101, through(0, 0, 30, 6, 40, 0)},
		{"the greatest corner is not free", saw, lines(through(30, 0, 30, 1)), 50000, through(0, 0, 30, 6, 40, 0)},
		{"no corner is free", saw, lines(through(10, 0, 10, 3), through(20, 4, 20, 5), through(30, 0, 30, 1)), 50000, saw},
		{"the line itself", saw, lines(saw), 50000, through(0, 0, 40, 0)},
		{"the line itself, and one that is not", saw, lines(saw, through(30, 0, 30, 1)), 50000, through(0, 0, 30, 6, 40, 0)},
		{"what will be left", saw, lines(through(0, 0, 40, 0)), 50000, through(0, 0, 30, 6, 40, 0)},
		{"far away", saw, lines(through(100, 100, 200, 200), through(0, 200, 200, 200)), 50000, through(0, 0, 40, 0)},
		{"across all", saw, lines(through(0, 3, 40, 3), through(0, 1, 200, 1)), 50000, through(0, 0, 40, 0)},

		// Areas of 80, 140 and 120. The line would cross itself without the
		// first corner, but not without the last one.
		{"it would cross itself", hook, nil, 120, hook},
		{"it would cross itself no longer", hook, nil, 121, through(0, 10, 10, 12)},

		// Short lines, and great areas.
		{"short lines stay", through(0, 0, 9, 0), nil, 50000, through(0, 0, 9, 0)},
		{"a line of three points, just least", through(0, 0, 9, 0, 9, 9), nil, 81, through(0, 0, 9, 0, 9, 9)},
		{"a line of three points, just below", through(0, 0, 9, 0, 9, 9), nil, 82, through(0, 0, 9, 9)},
		{"the greatest area, just least", through(0, 0, 200, 0, 0, 200), nil, 40000, through(0, 0, 200, 0, 0, 200)},
		{"the greatest area, just below", through(0, 0, 200, 0, 0, 200), nil, 40001, through(0, 0, 0, 200)},
	}
	for _, c := range cases {
		t.Run(c.name, func(t *testing.T) {
			known := meetings{}
			if want := known.safeAsSaid(c.l, c.others, c.least); !slices.Equal(c.want, want) {
				t.Errorf("what is left of %v is %v", c.l, want)
			}
			known.checkSafe(t, c.l, c.others, c.least, c.want)
		})
	}
}

func TestLinesThatMeetThemselvesStay(t *testing.T) {
	for _, l := range lines(
		through(0, 0, 9, 9, 9, 0, 0, 9), through(0, 0, 4, 4, 4, 0, 0, 4), through(0, 0, 4, 0, 0, 0), through(0, 0, 4, 0, 2, 0), through(2, 0, 4, 0, 0, 0), through(0, 0, 5, 0, 9, 0, 7, 0),
		through(0, 0, 4, 0, 4, 4, 0, 0), through(0, 0, 4, 0, 4, 4, 0, 4, 0, 0), through(0, 0, 9, 0, 9, 5, 4, 0), through(0, 0, 4, 0, 0, 4, 4, 0, 9, 9),
		through(0, 9, 1, 9, 2, 9, 3, 9, 4, 9, 5, 9, 6, 9, 7, 9, 8, 9, 7, 9), slices.Repeat(through(0, 0, 9, 9), 5),
	) {
		for _, least := range []int{0, 1, -1, 50000, math.MaxInt} {
			for _, o := range lines(l, backwards(l)) {
				meetings{}.checkSafe(t, o, nil, least, o)
				meetings{}.checkSafe(t, o, lines(through(0, 9, 9, 0), l), least, o)
			}
		}
	}
}

func TestLinesOfEveryLengthAreMadeSimpler(t *testing.T) {
	known, straight := meetings{}, through(0, 9, 1, 9, 2, 9, 3, 9, 4, 9, 5, 9, 6, 9, 7, 9, 8, 9, 9, 9, 10, 9)
	for points := 2; points <= 10; points++ {
		ends := func(l []impl.Point) []impl.Point { return []impl.Point{l[0], l[points-1]} }
		known.checkSafe(t, straight[:points], nil, 0, straight[:points])
		known.checkSafe(t, straight[:points], nil, 1, ends(straight))
		known.checkSafe(t, stairs(points), nil, 400, stairs(points))
		known.checkSafe(t, stairs(points), nil, 50000, ends(stairs(points)))
		// A line through each point on the way keeps this one point.
		for i := 1; i < points-1; i++ {
			across := through(i, 0, i, 18)
			known.checkSafe(t, straight[:points], lines(across), 1, []impl.Point{straight[0], straight[i], straight[points-1]})
			known.checkSafe(t, straight[:points], lines(across, straight[:2]), 1, []impl.Point{straight[0], straight[i], straight[points-1]})
		}
	}
	known.checkSafe(t, straight, nil, 1, straight)
	known.checkSafe(t, stairs(11), nil, 50000, stairs(11))
}

func TestCanDropFollowsItsDefinition(t *testing.T) {
	known, grid, can := meetings{}, pointsOf([]int{0, 1, 2}), map[bool]int{}
	for _, l := range linesThrough(grid, 3) {
		for _, o := range linesThrough(grid, 2) {
			want := known.canDropAsSaid(l, 1, lines(o))
			if got := impl.CanDrop(l, 1, lines(o)); got != want {
				t.Fatalf("CanDrop(%v, 1, %v) = %v", l, o, got)
			}
			can[want]++
		}
	}
	others := linesThrough(grid, 3)
	for k, l := range linesThrough(grid, 4) {
		for j := k % 97; j < len(others); j += 97 {
			pair := lines(others[j], others[(j+k)%len(others)])
			for i := range 4 {
				want := known.canDropAsSaid(l, i, pair)
				if got := impl.CanDrop(l, i, pair); got != want {
					t.Fatalf("CanDrop(%v, %d, %v) = %v", l, i, pair, got)
				}
				can[want]++
			}
		}
	}
	if can[true] < 1000 || can[false] < 1000 {
		t.Errorf("the lines are too much alike: %v", can)
	}
}

func TestSafeSimplifyFollowsItsDefinition(t *testing.T) {
	known, grid := meetings{}, pointsOf([]int{0, 1, 2})
	others := linesThrough(grid, 2)
	for count := 2; count <= 5; count++ {
		for k, l := range linesThrough(grid, count) {
			// All lines of five points would take long.
			if count == 5 && k%7 != 0 {
				continue
			}
			o := lines(others[k%len(others)], others[k/7%len(others)])
			for least := range 5 {
				known.checkSafe(t, l, o[:k%3], least, known.safeAsSaid(l, o[:k%3], least))
			}
		}
	}
}

// randomOthers are some short lines, or lists that are none, among the points
// of randomLine.
func randomOthers(random *rand.Rand) [][]impl.Point {
	others := [][]impl.Point{}
	for range random.IntN(5) {
		o := []impl.Point{}
		x, y := random.IntN(26), random.IntN(10)
		for range 2 + random.IntN(2) {
			o = append(o, at(x+random.IntN(5), y+random.IntN(5)))
		}
		others = append(others, o)
	}
	return others
}

func TestLongLinesAreMadeSimplerWithoutANewMeeting(t *testing.T) {
	random, known := rand.New(rand.NewPCG(12, 12)), meetings{}
	lengths, freed, stuck := map[int]int{}, 0, 0
	for range 6000 {
		l, others := randomLine(random, 10, random.IntN(9) == 0), randomOthers(random)
		if random.IntN(9) == 0 {
			others = append(others, l)
		}
		if !isLineAsSaid(l) || !known.simple(l) {
			continue
		}
		for _, least := range []int{1, random.IntN(40), 500} {
			want := known.safeAsSaid(l, others, least)
			known.checkSafe(t, l, others, least, want)
			lengths[len(want)]++
			if len(want) < len(known.safeAsSaid(l, nil, least)) {
				freed++
			}
			if len(want) > len(known.safeAsSaid(l, nil, least)) {
				stuck++
			}
		}
	}
	for kept := 2; kept <= 10; kept++ {
		if lengths[kept] < 50 {
			t.Errorf("only %d lines keep %d points", lengths[kept], kept)
		}
	}
	if stuck < 500 || freed < 10 {
		t.Errorf("other lines keep points of %d lines, and lead to fewer of %d", stuck, freed)
	}
}

func TestMeetsAll(t *testing.T) {
	line := through(0, 0, 4, 0, 4, 3, 1, 3)
	touch, cross, along, away := through(0, 0, 0, 5), through(2, 2, 2, 5), through(4, 1, 4, 2), through(50, 50, 60, 60)
	cases := []struct {
		l      []impl.Point
		others [][]impl.Point
		want   []int
	}{
		{line, nil, nil}, {line, lines(), nil}, {nil, nil, nil}, {through(1, 1), nil, nil},
		{line, lines(touch), []int{impl.MtTouch}}, {line, lines(away), []int{impl.MtNone}},
		{line, lines(touch, cross, along, away), []int{impl.MtTouch, impl.MtCross, impl.MtAlong, impl.MtNone}},
		{line, lines(away, along, cross, touch), []int{impl.MtNone, impl.MtAlong, impl.MtCross, impl.MtTouch}},
		{line, lines(cross, cross, line, backwards(line), touch), []int{impl.MtCross, impl.MtCross, impl.MtAlong, impl.MtAlong, impl.MtTouch}},
		// Lists that are no lines have their places.
		{line, lines(cross, nil, through(0, 0), touch, through(2, 2, 2, 5, 2, 5), along), []int{impl.MtCross, impl.MtNone, impl.MtNone, impl.MtTouch, impl.MtNone, impl.MtAlong}},
		{line[:1], lines(touch, cross, line), []int{impl.MtNone, impl.MtNone, impl.MtNone}}, {nil, lines(nil), []int{impl.MtNone}},
		{through(0, 0, 0, 0), lines(touch, through(0, 0, 0, 0)), []int{impl.MtNone, impl.MtNone}}, {stairs(11), lines(stairs(11), stairs(10)), []int{impl.MtNone, impl.MtNone}},
		// A line that crosses itself meets others.
		{through(0, 0, 9, 9, 9, 0, 0, 9), lines(through(7, 0, 7, 3), touch), []int{impl.MtCross, impl.MtTouch}},
		{line, slices.Repeat(lines(cross, away), 500), slices.Repeat([]int{impl.MtCross, impl.MtNone}, 500)},
	}
	for _, c := range cases {
		if got := impl.MeetsAll(c.l, c.others); !slices.Equal(got, c.want) {
			t.Errorf("MeetsAll(%v, %v) = %v, want %v", c.l, c.others, got, c.want)
		}
		meetings{}.checkMeets(t, c.l, c.others)
	}
}

func TestSafeLinesShareNoMemory(t *testing.T) {
	spare, other := at(3, 3), at(4, 9)
	lists := append(noLines(), through(0, 0, 4, 0), through(0, 0, 4, 0, 8, 0), through(0, 0, 4, 0, 0, 0), through(0, 0, 4, 4, 8, 0), through(0, 0, 9, 9, 9, 0, 0, 9), stairs(9), stairs(10))
	for _, l := range lists {
		args := lines(l, through(4, 0, 4, 2), l, stairs(10), nil)
		for _, i := range []int{0, 1, 2, len(l) - 2, len(l) - 1, len(l), -1} {
			checkApartOf(t, "DropPoint", args[:1], spare, other, other, func(args [][]impl.Point) []impl.Point {
				left, _ := impl.DropPoint(args[0], i)
				return left
			})
			checkApartOf(t, "CornerArea and CanDrop", args, spare, other, 33, func(args [][]impl.Point) []int {
				area := impl.CornerArea(args[0], i)
				if impl.CanDrop(args[0], i, args[1:]) {
					area = -area - 10
				}
				return []int{area}
			})
		}
		for _, least := range []int{0, 1, 40, 50000} {
			checkApartOf(t, "SafeSimplify", args, spare, other, other, func(args [][]impl.Point) []impl.Point {
				return impl.SafeSimplify(args[0], args[1:], least)
			})
			// The others may be the line itself, in the same memory.
			checkApartOf(t, "SafeSimplify", args[:1], spare, other, other, func(args [][]impl.Point) []impl.Point {
				return impl.SafeSimplify(args[0], args, least)
			})
		}
		checkApartOf(t, "MeetsAll", args, spare, other, 33, func(args [][]impl.Point) []int {
			return impl.MeetsAll(args[0], args[1:])
		})
	}
}

func TestTheListOfOthersStays(t *testing.T) {
	l := through(0, 0, 10, 4, 20, 0, 30, 6, 40, 0)
	whole := lines(through(30, 0, 30, 1), through(0, 0, 5, 5), nil, l, through(100, 100, 200, 200), through(7, 7), through(10, 0, 10, 1), nil, stairs(10))
	before := fmt.Sprint(whole)
	for count := range len(whole) + 1 {
		others := whole[:count]
		impl.SafeSimplify(l, others, 50000)
		impl.MeetsAll(l, others)
		for i := range l {
			impl.CanDrop(l, i, others)
		}
		if got := fmt.Sprint(whole); got != before {
			t.Fatalf("the others are %s, were %s", got, before)
		}
	}
}
