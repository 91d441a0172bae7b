package tests

import (
	"math"
	"math/rand/v2"
	"slices"
	"testing"

	"loop.example/g03005/impl"
)

// noPlaces are no indices of a list.
func noPlaces(l []impl.Point) []int {
	return []int{-1, len(l), -2, len(l) + 1, -len(l), 2 * len(l), 1 << 32, -(1 << 32), math.MinInt, math.MinInt + 1, math.MaxInt - 1, math.MaxInt}
}

func (m meetings) isRing(l []impl.Point) bool {
	return len(l) >= 3 && len(l) <= 10 && onMap(l...) && m.ring(l)
}

// turnOf adds up the area below each side: 1 if the ring turns to the left,
// -1 if it turns to the right, 0 if it is none.
func (m meetings) turnOf(l []impl.Point) int {
	if !m.isRing(l) {
		return 0
	}
	area := 0
	for _, s := range ringJoints(l) {
		area += (s.A.X - s.B.X) * (s.A.Y + s.B.Y)
	}
	return min(max(area, -1), 1)
}

func isPlace(l []impl.Point, i int) bool {
	return i >= 0 && i < len(l)
}

// sizeAsSaid finds the neighbours of the first and the last point at the other
// end.
func (m meetings) sizeAsSaid(l []impl.Point, i int) int {
	if !isPlace(l, i) || !m.isRing(l) {
		return -1
	}
	area := twiceTheArea(l[(i+len(l)-1)%len(l)], l[i], l[(i+1)%len(l)])
	return max(area, -area)
}

// dropCornerAsSaid gives nothing if the point cannot be dropped.
func (m meetings) dropCornerAsSaid(l []impl.Point, i int) ([]impl.Point, bool) {
	if !isPlace(l, i) || !m.isRing(l) {
		return nil, false
	}
	left := slices.Delete(slices.Clone(l), i, i+1)
	if !m.isRing(left) || m.turnOf(left) != m.turnOf(l) {
		return nil, false
	}
	return left, true
}

// safeRingAsSaid looks through all points again after each one that is
// dropped.
func (m meetings) safeRingAsSaid(l []impl.Point, least int) []impl.Point {
	for m.isRing(l) {
		place := -1
		for i := range l {
			if size := m.sizeAsSaid(l, i); size < least && (place < 0 || size < m.sizeAsSaid(l, place)) {
				if _, ok := m.dropCornerAsSaid(l, i); ok {
					place = i
				}
			}
		}
		if place < 0 {
			break
		}
		l, _ = m.dropCornerAsSaid(l, place)
	}
	return l
}

// checkCorner checks one point: whether it is dropped, what is left, and its
// size. If it is not dropped, a copy of the list is given.
func (m meetings) checkCorner(t *testing.T, l []impl.Point, i int) bool {
	t.Helper()
	want, can := m.dropCornerAsSaid(l, i)
	if !can {
		want = l
	}
	if got, ok := impl.DropCorner(l, i); ok != can || !slices.Equal(got, want) {
		t.Fatalf("DropCorner(%v, %d) = %v, %v", l, i, got, ok)
	}
	if got := impl.CornerSize(l, i); got != m.sizeAsSaid(l, i) {
		t.Fatalf("CornerSize(%v, %d) = %d", l, i, got)
	}
	return can
}

// checkSafeRing checks which points of a ring are left, and what follows from
// it: the result is a ring that turns the same way and a part of the ring,
// and has no point that is still to be dropped.
func (m meetings) checkSafeRing(t *testing.T, l []impl.Point, least int, want []impl.Point) {
	t.Helper()
	got := impl.SafeRing(l, least)
	if !slices.Equal(got, want) {
		t.Fatalf("SafeRing(%v, %d) = %v, want %v", l, least, got, want)
	}
	if !m.isRing(l) {
		return
	}
	if !impl.IsRing(got) || !impl.SameTurn(got, l) || m.turnOf(got) != m.turnOf(l) || !impl.IsPartOf(got, l) {
		t.Fatalf("%v is not a simpler ring of %v", got, l)
	}
	for i := range got {
		if _, ok := impl.DropCorner(got, i); ok && impl.CornerSize(got, i) < least {
			t.Fatalf("%v, the simpler ring of %v for %d, has the point %d still", got, l, least, i)
		}
	}
	if again := impl.SafeRing(got, least); !slices.Equal(again, got) {
		t.Fatalf("%v, made simpler again for %d, is %v", got, least, again)
	}
}

// checkMiddle checks the middle with exact remainders.
func (m meetings) checkMiddle(t *testing.T, l []impl.Point) {
	t.Helper()
	got, ok := impl.RingMiddle(l)
	if ok != m.isRing(l) || !ok && got != at(0, 0) {
		t.Fatalf("RingMiddle(%v) = %v, %v", l, got, ok)
	}
	restX, restY := 0, 0
	for _, p := range l {
		restX, restY = restX+p.X-got.X, restY+p.Y-got.Y
	}
	if ok && (restX < 0 || restX >= len(l) || restY < 0 || restY >= len(l)) {
		t.Fatalf("RingMiddle(%v) = %v", l, got)
	}
}

// checkRingLists checks all functions with lists of points.
func (m meetings) checkRingLists(t *testing.T, lists [][]impl.Point, leasts []int) (rings int) {
	t.Helper()
	for _, l := range lists {
		for i := -1; i <= len(l); i++ {
			m.checkCorner(t, l, i)
		}
		m.checkMiddle(t, l)
		if got := impl.SameTurn(l, l); got != m.isRing(l) {
			t.Fatalf("SameTurn(%v, itself) = %v", l, got)
		}
		for _, least := range leasts {
			m.checkSafeRing(t, l, least, m.safeRingAsSaid(l, least))
		}
		if m.isRing(l) {
			rings++
		}
	}
	return rings
}

func TestDropCorner(t *testing.T) {
	dart := through(0, 0, 4, 2, 8, 0, 4, 8)
	flat := through(0, 0, 4, 0, 8, 0, 8, 8)
	cup := shapes()["cup"].l
	ten := shapes()["stairs of ten"].l
	cases := []struct {
		name string
		l    []impl.Point
		i    int
		ok   bool
	}{
		{"the first point of a square", shapes()["square"].l, 0, true},
		{"the second point of a square", shapes()["square"].l, 1, true},
		{"the third point of a square", shapes()["square"].l, 2, true},
		{"the last point of a square", shapes()["square"].l, 3, true},
		{"a corner of the map", shapes()["whole map"].l, 3, true},
		{"a triangle", shapes()["triangle"].l, 1, false},
		{"the smallest triangle", shapes()["smallest triangle"].l, 0, false},
		{"a thin triangle", shapes()["thin triangle"].l, 2, false},

		{"the notch of a dart", dart, 1, true},
		{"a wing of a dart", dart, 0, true},
		{"the other wing of a dart", dart, 2, true},
		{"the tip of a dart: it would turn the other way", dart, 3, false},
		{"the tip of a broad dart: it would turn the other way", through(0, 0, 2, 2, 6, 2, 8, 0, 4, 8), 4, false},
		{"the tip of a dart with a crooked notch: it would cross itself", through(0, 2, 2, 4, 4, 0, 6, 4, 8, 2, 4, 9), 5, false},

		{"a corner of no area", flat, 1, true},
		{"before a corner of no area", flat, 0, true},
		{"behind a corner of no area", flat, 2, true},
		{"the only point that is not on the straight way: no area is left", flat, 3, false},
		{"of three on a straight way, slanting: no area is left", through(1, 1, 3, 2, 5, 3, 2, 9), 3, false},

		{"it would cross itself", cup, 0, false},
		{"it would cross itself on the other side", cup, 1, false},
		{"the side of the cup", cup, 2, true},
		{"the edge of the cup", cup, 3, true},
		{"the bottom of the cup", cup, 4, true},
		{"a corner would touch the new side", through(0, 0, 9, 0, 9, 6, 6, 6, 3, 4, 1, 6, 0, 6), 0, false},
		{"a corner would be just inside", through(0, 0, 9, 0, 9, 6, 6, 6, 3, 5, 1, 6, 0, 6), 0, true},
		{"a corner would be just outside", through(0, 0, 9, 0, 9, 6, 6, 6, 3, 3, 1, 6, 0, 6), 0, false},
		{"a side would lie along the new side", through(0, 0, 9, 0, 9, 6, 7, 6, 6, 2, 3, 4, 1, 6, 0, 6), 0, false},
		{"its neighbour would turn back along the new side", through(0, 0, 8, 0, 8, 8, 4, 4, 0, 8), 1, false},
		{"its neighbour would turn back along the new side, to its end", through(0, 0, 8, 0, 8, 4, 4, 2, 2, 6), 1, false},
		{"its neighbour would go on straight", through(0, 0, 4, 1, 6, 0, 8, 0, 8, 8, 0, 8), 1, true},

		{"the first point of ten: three corners would touch the new side", ten, 0, false},
		{"the second point of ten", ten, 1, true},
		{"a notch of ten", ten, 3, true},
		{"a step of ten", ten, 4, true},
		{"the last point of ten", ten, 9, true},
	}
	for _, c := range cases {
		t.Run(c.name, func(t *testing.T) {
			known := meetings{}
			for _, l := range everyWay(c.l) {
				if got := known.checkCorner(t, l, slices.Index(l, c.l[c.i])); got != c.ok {
					t.Errorf("%v of %v can be dropped: %v", c.l[c.i], l, got)
				}
			}
		})
	}
}

func TestWhatIsLeftOfARing(t *testing.T) {
	square := shapes()["square"].l
	cases := []struct {
		l    []impl.Point
		i    int
		want []impl.Point
		ok   bool
	}{
		{square, 0, through(6, 2, 6, 6, 2, 6), true}, {square, 1, through(2, 2, 6, 6, 2, 6), true},
		{square, 2, through(2, 2, 6, 2, 2, 6), true}, {square, 3, through(2, 2, 6, 2, 6, 6), true},
		{square, 4, square, false}, {square, -1, square, false}, {square, math.MinInt, square, false}, {square, math.MaxInt, square, false},
		{square[:3], 0, square[:3], false}, {square[:3], 1, square[:3], false}, {square[:3], 2, square[:3], false}, {square[:3], 3, square[:3], false},
		{square[:2], 0, square[:2], false}, {square[:2], 1, square[:2], false}, {square[:1], 0, square[:1], false}, {nil, 0, nil, false},
	}
	for _, c := range cases {
		if got, ok := impl.DropCorner(c.l, c.i); ok != c.ok || !slices.Equal(got, c.want) {
			t.Errorf("DropCorner(%v, %d) = %v, %v", c.l, c.i, got, ok)
		}
	}
}

func TestNoCornerOfATriangleIsDropped(t *testing.T) {
	known, triangles := meetings{}, 0
	for _, l := range linesThrough(pointsOf([]int{0, 1, 5, 200}), 3) {
		if !known.isRing(l) {
			continue
		}
		triangles++
		for i := range 3 {
			if got, ok := impl.DropCorner(l, i); ok || !slices.Equal(got, l) {
				t.Fatalf("DropCorner(%v, %d) = %v, %v", l, i, got, ok)
			}
			if got, area := impl.CornerSize(l, i), impl.TwiceArea(l); got != max(area, -area) {
				t.Fatalf("CornerSize(%v, %d) = %d, the area is %d", l, i, got, area)
			}
		}
		for _, least := range []int{0, 1, 50000, math.MaxInt} {
			known.checkSafeRing(t, l, least, l)
		}
	}
	if triangles < 1000 {
		t.Errorf("there are %d triangles", triangles)
	}
}

func TestCornerSize(t *testing.T) {
	house := through(0, 0, 4, 1, 8, 0, 8, 8, 0, 8)
	map200 := shapes()["whole map"].l
	cases := []struct {
		l       []impl.Point
		i, want int
	}{
		// The neighbours of the first and of the last point are at both ends.
		{house, 0, 32}, {house, 1, 8}, {house, 2, 32}, {house, 3, 64}, {house, 4, 64},
		{house, -1, -1}, {house, 5, -1}, {house, math.MinInt, -1}, {house, math.MaxInt, -1},
		{through(5, 5, 9, 5, 5, 8), 0, 12}, {through(5, 5, 9, 5, 5, 8), 1, 12}, {through(5, 5, 9, 5, 5, 8), 2, 12}, {through(5, 5, 9, 5, 5, 8), 3, -1},
		{through(2, 2, 6, 2, 6, 6, 2, 6), 0, 16}, {through(2, 2, 6, 2, 6, 6, 2, 6), 3, 16},
		// A notch has a size as well, without a sign.
		{through(0, 0, 4, 2, 8, 0, 4, 8), 0, 24}, {through(0, 0, 4, 2, 8, 0, 4, 8), 1, 16}, {through(0, 0, 4, 2, 8, 0, 4, 8), 2, 24}, {through(0, 0, 4, 2, 8, 0, 4, 8), 3, 64},
		// No size: on the way, level, slanting, and at the ends of the list.
		{through(0, 0, 4, 0, 8, 0, 8, 8), 1, 0}, {through(4, 0, 8, 0, 8, 8, 0, 0), 0, 0}, {through(8, 0, 8, 8, 0, 0, 4, 0), 3, 0}, {through(1, 1, 3, 2, 7, 4, 2, 9), 1, 0},
		// The least size and the greatest one.
		{through(0, 0, 1, 0, 0, 1), 0, 1}, {through(0, 0, 200, 199, 199, 198), 2, 1}, {map200, 0, 40000}, {map200, 3, 40000}, {through(0, 0, 200, 0, 77, 200), 2, 40000},
	}
	known := meetings{}
	for _, c := range cases {
		if got := impl.CornerSize(c.l, c.i); got != c.want {
			t.Errorf("CornerSize(%v, %d) = %d, want %d", c.l, c.i, got, c.want)
		}
		known.checkCorner(t, c.l, c.i)
		if !isPlace(c.l, c.i) {
			continue
		}
		for _, l := range everyWay(c.l) {
			if i := slices.Index(l, c.l[c.i]); impl.CornerSize(l, i) != c.want {
				t.Errorf("CornerSize(%v, %d) = %d, want %d", l, i, impl.CornerSize(l, i), c.want)
			}
		}
	}
}

func TestSafeRing(t *testing.T) {
	square, dart := through(2, 2, 6, 2, 6, 6, 2, 6), through(0, 0, 4, 2, 8, 0, 4, 8)
	saw := through(0, 0, 10, 4, 20, 0, 30, 6, 40, 0, 40, 100, 0, 100)
	even := through(0, 0, 10, 5, 20, 0, 30, 5, 40, 0, 40, 100, 0, 100)
	falling := through(0, 10, 10, 12, 20, 10, 100, 6, 100, 150, 0, 150)
	row := through(0, 0, 10, 0, 20, 0, 30, 0, 30, 30, 0, 30)
	pocket := through(0, 0, 90, 20, 100, 5, 110, 20, 200, 0, 200, 200, 104, 60, 100, 15, 96, 60, 0, 200)
	spike := through(0, 80, 30, 20, 60, 20, 120, 60, 200, 200, 50, 40, 60, 200)
	cases := []struct {
		name  string
		l     []impl.Point
		least int
		want  []impl.Point
	}{
		// Sizes of 1000, 80, 100, 120, 1000, 4000 and 4000. The corner of 100
		// becomes one of 120.
		{"no size is less than 0", saw, 0, saw},
		{"no size is less than -1", saw, -1, saw},
		{"no size is less than the least number", saw, math.MinInt, saw},
		{"less than 1", saw, 1, saw},
		{"just least", saw, 80, saw},
		{"just below", saw, 81, through(0, 0, 20, 0, 30, 6, 40, 0, 40, 100, 0, 100)},
		{"a corner becomes greater", saw, 101, through(0, 0, 20, 0, 30, 6, 40, 0, 40, 100, 0, 100)},
		{"a corner becomes just least", saw, 120, through(0, 0, 20, 0, 30, 6, 40, 0, 40, 100, 0, 100)},
		{"a corner becomes just less, and its neighbour greater", saw, 121, through(0, 0, 30, 6, 40, 0, 40, 100, 0, 100)},
		{"the last notch is just least", saw, 240, through(0, 0, 30, 6, 40, 0, 40, 100, 0, 100)},
		{"the last notch is just below", saw, 241, through(0, 0, 40, 0, 40, 100, 0, 100)},
		{"four equal corners, just least", saw, 4000, through(0, 0, 40, 0, 40, 100, 0, 100)},
		{"all corners but three", saw, math.MaxInt, through(40, 0, 40, 100, 0, 100)},

		// Three sizes of 100. That of the middle one stays so without one of the
		// others, and becomes 0 without both.
		{"equal corners, just least", even, 100, even},
		{"equal corners, the first one is dropped", even, 101, through(0, 0, 30, 5, 40, 0, 40, 100, 0, 100)},
		{"equal corners, from the other side", backwards(even), 101, through(0, 100, 40, 100, 40, 0, 10, 5, 0, 0)},
		{"equal corners, from another one on", slices.Concat(even[3:], even[:3]), 101, through(40, 0, 40, 100, 0, 100, 0, 0)},
		{"equal corners, the first one is the first point", slices.Concat(even[1:], even[:1]), 101, through(30, 5, 40, 0, 40, 100, 0, 100, 0, 0)},
		{"a square, just least", square, 16, square},
		{"a square, just below", square, 17, through(6, 2, 6, 6, 2, 6)},
		{"a square, to the right", backwards(square), 17, through(6, 6, 6, 2, 2, 2)},
		{"a square, any size", square, math.MaxInt, through(6, 2, 6, 6, 2, 6)},
		{"the whole map, just least", shapes()["whole map"].l, 40000, shapes()["whole map"].l},
		{"the whole map, just below", shapes()["whole map"].l, 40001, through(200, 0, 200, 200, 0, 200)},

		// Sizes of 24, 16, 24 and 64: the tip is never dropped.
		{"a dart, just least", dart, 16, dart},
		{"a dart loses its notch", dart, 17, through(0, 0, 8, 0, 4, 8)},
		{"a dart, any size", dart, math.MaxInt, through(0, 0, 8, 0, 4, 8)},
		{"a dart whose notch is the greatest but for its tip", through(0, 0, 4, 6, 8, 0, 4, 8), 48, through(4, 6, 8, 0, 4, 8)},
		{"a dart from its tip on", through(4, 8, 0, 0, 4, 6, 8, 0), 48, through(4, 8, 4, 6, 8, 0)},
		{"a dart with a small tip", through(96, 100, 100, 98, 104, 100, 100, 101), 9, through(96, 100, 100, 98, 104, 100)},
		{"a dart with a tip smaller than its notch", through(0, 0, 100, 1, 200, 0, 100, 2), 200, through(100, 1, 200, 0, 100, 2)},

		// Sizes of 40 and 120 between greater ones. The corner of 120 becomes
		// one of 80.
		{"a corner does not become small enough", falling, 80, through(0, 10, 20, 10, 100, 6, 100, 150, 0, 150)},
		{"a corner becomes small enough", falling, 81, through(0, 10, 100, 6, 100, 150, 0, 150)},
		{"no corner is small", falling, 40, falling},
		{"the first point becomes small enough", through(20, 10, 100, 6, 100, 150, 0, 150, 0, 10, 10, 12), 81, through(100, 6, 100, 150, 0, 150, 0, 10)},

		// Corners of no area.
		{"on the way, for 0", row, 0, row},
		{"on the way, for -1", row, -1, row},
		{"on the way, for 1", row, 1, through(0, 0, 30, 0, 30, 30, 0, 30)},
		{"on the way, at both ends of the list", through(10, 0, 20, 0, 30, 0, 30, 30, 0, 30, 0, 0), 1, through(30, 0, 30, 30, 0, 30, 0, 0)},
		{"on the way, at the end of the list", through(30, 0, 30, 30, 0, 30, 0, 0, 10, 0, 20, 0), 1, through(30, 0, 30, 30, 0, 30, 0, 0)},
		{"on the way, one point of two", through(0, 0, 10, 0, 30, 0, 30, 30, 15, 15), 1, through(0, 0, 30, 0, 30, 30)},
		{"on the way once the point between is dropped", through(0, 0, 10, 0, 15, 1, 20, 0, 40, 0, 40, 40, 0, 40), 21, through(0, 0, 40, 0, 40, 40, 0, 40)},

		// Sizes of 300 for the bottom of the pocket, 360 for the tip that
		// stands in it, and more for the others.
		{"not dropped as something stands in it", pocket, 360, pocket},
		{"dropped once nothing stands in it", pocket, 361, through(0, 0, 90, 20, 110, 20, 200, 0, 200, 200, 104, 60, 96, 60, 0, 200)},
		{"dropped once nothing stands in it, to the right", backwards(pocket), 361, through(0, 200, 96, 60, 104, 60, 200, 200, 200, 0, 110, 20, 90, 20, 0, 0)},

		// Sizes of 7200, 1800, 1200, 5200 and more. Without the corner of 1800
		// a ring is left, but none once it is one of 6600.
		{"dropped before its neighbour", slices.Concat(spike[:1], through(30, 45), spike[2:]), 301, slices.Concat(spike[:1], spike[2:])},
		{"dropped no longer", spike, 1801, slices.Concat(spike[:2], spike[3:])},
		{"dropped no longer, although it is small", spike, 6601, slices.Concat(spike[:2], spike[3:])},
		{"dropped no longer, up to the next size", spike, 7200, slices.Concat(spike[:2], spike[3:])},
	}
	for _, c := range cases {
		t.Run(c.name, func(t *testing.T) {
			known := meetings{}
			if want := known.safeRingAsSaid(c.l, c.least); !slices.Equal(c.want, want) {
				t.Errorf("what is left of %v is %v", c.l, want)
			}
			known.checkSafeRing(t, c.l, c.least, c.want)
		})
	}
}

func TestRingMiddle(t *testing.T) {
	cases := []struct {
		l    []impl.Point
		want impl.Point
	}{
		{through(0, 0, 4, 1, 8, 0, 8, 8, 0, 8), at(4, 3)},
		{through(0, 0, 1, 0, 0, 1), at(0, 0)}, {through(0, 0, 2, 0, 0, 2), at(0, 0)}, {through(0, 0, 3, 0, 0, 3), at(1, 1)}, {through(0, 0, 4, 0, 0, 5), at(1, 1)},
		{through(0, 0, 5, 0, 0, 6), at(1, 2)}, {through(5, 5, 9, 5, 5, 8), at(6, 6)}, {through(2, 2, 6, 2, 6, 6, 2, 6), at(4, 4)}, {through(2, 2, 7, 2, 7, 7, 3, 7), at(4, 4)},
		{through(0, 0, 200, 0, 200, 200, 0, 200), at(100, 100)}, {through(200, 200, 199, 200, 200, 199), at(199, 199)}, {through(200, 200, 198, 200, 200, 199), at(199, 199)},
		// The middle need not be inside.
		{through(0, 0, 4, 6, 8, 0, 4, 8), at(4, 3)}, {shapes()["stairs of ten"].l, at(4, 4)}, {shapes()["comb of ten"].l, at(4, 3)}, {shapes()["cup"].l, at(4, 3)},
	}
	for _, c := range cases {
		for _, l := range everyWay(c.l) {
			if got, ok := impl.RingMiddle(l); !ok || got != c.want {
				t.Errorf("RingMiddle(%v) = %v, %v, want %v", l, got, ok, c.want)
			}
		}
	}
}

func TestSameTurn(t *testing.T) {
	known, lists := meetings{}, noRings()
	for _, shape := range shapes() {
		lists = append(lists, shape.l, backwards(shape.l))
	}
	turns := map[bool]int{}
	for _, a := range lists {
		for _, b := range lists {
			want := known.turnOf(a) == known.turnOf(b) && known.turnOf(a) != 0
			if got := impl.SameTurn(a, b); got != want {
				t.Fatalf("SameTurn(%v, %v) = %v", a, b, got)
			}
			turns[want]++
		}
	}
	if turns[true] < 500 || turns[false] < 500 {
		t.Errorf("the lists are too much alike: %v", turns)
	}
	left, right := through(0, 0, 1, 0, 0, 1), through(0, 0, 0, 200, 200, 200, 200, 0)
	cases := []struct {
		a, b []impl.Point
		want bool
	}{
		{left, left, true}, {right, right, true}, {left, right, false}, {right, left, false},
		{left, backwards(right), true}, {backwards(left), right, true}, {backwards(left), backwards(right), false},
		{left, nil, false}, {nil, left, false}, {right, nil, false}, {nil, right, false}, {nil, nil, false}, {left[:2], left[:2], false},
		{left, through(0, 0, 4, 0, 8, 0), false}, {right, through(0, 0, 4, 4, 4, 0, 0, 4), false}, {through(0, 0, 4, 0, 0, 201), left, false},
	}
	for _, c := range cases {
		if got := impl.SameTurn(c.a, c.b); got != c.want {
			t.Errorf("SameTurn(%v, %v) = %v", c.a, c.b, got)
		}
	}
}

func TestListsThatAreNoRingsStay(t *testing.T) {
	known := meetings{}
	for _, bad := range noRings() {
		for _, l := range append(everyWay(bad), bad) {
			for _, i := range append([]int{0, 1, 2, 3, 4, 8, 9, 10}, noPlaces(l)...) {
				if got, ok := impl.DropCorner(l, i); ok || !slices.Equal(got, l) {
					t.Errorf("DropCorner(%v, %d) = %v, %v", l, i, got, ok)
				}
				if got := impl.CornerSize(l, i); got != -1 {
					t.Errorf("CornerSize(%v, %d) = %d", l, i, got)
				}
			}
			for _, least := range []int{0, 1, -1, 50000, math.MinInt, math.MaxInt} {
				known.checkSafeRing(t, l, least, l)
			}
			if got, ok := impl.RingMiddle(l); ok || got != at(0, 0) {
				t.Errorf("RingMiddle(%v) = %v, %v", l, got, ok)
			}
			if impl.SameTurn(l, l) || impl.SameTurn(l, shapes()["square"].l) || impl.SameTurn(backwards(shapes()["square"].l), l) {
				t.Errorf("%v turns", l)
			}
		}
	}
}

func TestNoOtherPointIsACornerOfARing(t *testing.T) {
	for _, shape := range shapes() {
		for _, i := range noPlaces(shape.l) {
			if got, ok := impl.DropCorner(shape.l, i); ok || !slices.Equal(got, shape.l) {
				t.Errorf("DropCorner(%v, %d) = %v, %v", shape.l, i, got, ok)
			}
			if got := impl.CornerSize(shape.l, i); got != -1 {
				t.Errorf("CornerSize(%v, %d) = %d", shape.l, i, got)
			}
		}
	}
}

func TestRingsOfEveryShapeAreMadeSimpler(t *testing.T) {
	known := meetings{}
	for _, shape := range shapes() {
		leasts := []int{-1, 0, 1, 50000, math.MinInt, math.MaxInt}
		for i := range shape.l {
			size := known.sizeAsSaid(shape.l, i)
			leasts = append(leasts, size, size+1)
		}
		known.checkRingLists(t, everyWay(shape.l), leasts)
	}
}

func TestAreasFollowTheirDefinition(t *testing.T) {
	known, rings := meetings{}, 0
	for _, coordinates := range [][]int{{0, 1, 2}, {0, 100, 200}} {
		step := coordinates[1] * coordinates[1]
		for count := 3; count <= 4; count++ {
			lists := linesThrough(pointsOf(coordinates), count)
			rings += known.checkRingLists(t, lists, []int{0, 1, step, step + 1, 2*step + 1, 3 * step, 50000})
		}
	}
	for count := 5; count <= 6; count++ {
		lists := linesThrough(through(0, 0, 4, 0, 4, 4, 0, 4, 2, 2, 2, 1), count)
		rings += known.checkRingLists(t, lists, []int{0, 1, 5, 9, 17})
	}
	if rings < 3000 {
		t.Errorf("only %d of the lists are rings", rings)
	}
}

// randomRing puts points into a triangle wherever a ring is left.
func randomRing(random *rand.Rand, points int) []impl.Point {
	l := through(0, 0, 14, 0, 7, 14)
	for len(l) < points {
		more := slices.Insert(slices.Clone(l), random.IntN(len(l)+1), at(random.IntN(15), random.IntN(15)))
		if impl.IsRing(more) {
			l = more
		}
	}
	if random.IntN(2) == 0 {
		slices.Reverse(l)
	}
	start := random.IntN(points)
	return slices.Concat(l[start:], l[:start])
}

func TestLongRingsAreMadeSimplerAndStayAreas(t *testing.T) {
	random, known := rand.New(rand.NewPCG(13, 13)), meetings{}
	lengths, freed, stuck := map[int]int{}, 0, 0
	for range 4000 {
		l := randomRing(random, 4+random.IntN(7))
		for i := range l {
			known.checkCorner(t, l, i)
		}
		known.checkMiddle(t, l)
		for _, least := range []int{1, 1 + random.IntN(60), 500} {
			want := known.safeRingAsSaid(l, least)
			known.checkSafeRing(t, l, least, want)
			lengths[len(want)]++
			for i, p := range l {
				_, can := known.dropCornerAsSaid(l, i)
				place := slices.Index(want, p)
				if !can && place < 0 {
					freed++
				}
				if can && place >= 0 && known.sizeAsSaid(want, place) < least {
					stuck++
				}
			}
		}
	}
	for kept := 3; kept <= 10; kept++ {
		if lengths[kept] < 50 {
			t.Errorf("only %d rings keep %d points", lengths[kept], kept)
		}
	}
	if freed < 100 || stuck < 100 {
		t.Errorf("%d corners can be dropped only later, %d no longer", freed, stuck)
	}
}

func TestSafeRingsShareNoMemory(t *testing.T) {
	lists := noRings()
	for _, shape := range shapes() {
		lists = append(lists, shape.l, backwards(shape.l))
	}
	spare, other := at(3, 3), at(4, 9)
	for _, l := range lists {
		one, square := [][]impl.Point{l}, shapes()["square"].l
		for i := -1; i <= len(l); i++ {
			checkApartOf(t, "DropCorner", one, spare, other, other, func(args [][]impl.Point) []impl.Point {
				left, _ := impl.DropCorner(args[0], i)
				return left
			})
			checkApartOf(t, "CornerSize", one, spare, other, 33, func(args [][]impl.Point) []int {
				return []int{impl.CornerSize(args[0], i)}
			})
		}
		for _, least := range []int{-1, 0, 1, 20, 50000} {
			checkApartOf(t, "SafeRing", one, spare, other, other, func(args [][]impl.Point) []impl.Point {
				return impl.SafeRing(args[0], least)
			})
		}
		checkApartOf(t, "RingMiddle", one, spare, other, other, func(args [][]impl.Point) []impl.Point {
			middle, _ := impl.RingMiddle(args[0])
			return []impl.Point{middle}
		})
		checkApartOf(t, "SameTurn", [][]impl.Point{l, square}, spare, other, false, func(args [][]impl.Point) []bool {
			return []bool{impl.SameTurn(args[0], args[1]), impl.SameTurn(args[1], args[0])}
		})
	}
}
