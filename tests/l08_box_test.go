package tests

import (
	"math"
	"slices"
	"testing"

	"loop.example/g03005/impl"
)

// box makes a box from X and Y of Low and of High.
func box(x, y, u, v int) impl.Box {
	return impl.Box{Low: at(x, y), High: at(u, v)}
}

var theMap = box(0, 0, 200, 200)

// boxesOf are all boxes that are valid and have these coordinates.
func boxesOf(coordinates []int) []impl.Box {
	boxes := []impl.Box{}
	points := pointsOf(coordinates)
	for _, low := range points {
		for _, high := range points {
			if onMap(low, high) && low.X <= high.X && low.Y <= high.Y {
				boxes = append(boxes, impl.Box{Low: low, High: high})
			}
		}
	}
	return boxes
}

// noBoxes are boxes that are not valid.
func noBoxes() []impl.Box {
	bad := []impl.Box{
		// Low and High exchanged in X alone, in Y alone, and in both.
		box(9, 2, 3, 7), box(5, 2, 4, 2), box(1, 0, 0, 0), box(200, 0, 199, 200), box(200, 0, 0, 200),
		box(3, 7, 9, 2), box(2, 5, 2, 4), box(0, 1, 0, 0), box(0, 200, 200, 199), box(0, 200, 200, 0),
		box(9, 7, 3, 2), box(1, 1, 0, 0), box(200, 200, 199, 199), box(200, 200, 0, 0),
		// In order, but larger than the map, or beside it.
		box(-1, -1, 201, 201), box(math.MinInt, math.MinInt, math.MaxInt, math.MaxInt),
		box(-9, -9, -1, -1), box(201, 201, 300, 300), box(-9, 3, -1, 8), box(3, 201, 8, 300),
	}
	for _, far := range []int{-1, 201, math.MinInt, math.MaxInt} {
		bad = append(bad, box(far, 2, 9, 7), box(3, far, 9, 7), box(3, 2, far, 7), box(3, 2, 9, far))
		bad = append(bad, box(far, 0, 200, 200), box(0, far, 200, 200), box(0, 0, far, 200), box(0, 0, 200, far))
	}
	for _, p := range offMap {
		bad = append(bad, impl.Box{Low: p, High: p}, impl.Box{Low: p, High: at(200, 200)}, impl.Box{High: p})
	}
	return bad
}

// holds reports whether a point is beyond no side of a box.
func holds(b impl.Box, p impl.Point) bool {
	return !(p.X < b.Low.X || p.X > b.High.X || p.Y < b.Low.Y || p.Y > b.High.Y)
}

// tightest is the box from the least to the greatest coordinates of points.
func tightest(l []impl.Point) impl.Box {
	xs, ys := []int{}, []int{}
	for _, p := range l {
		xs, ys = append(xs, p.X), append(ys, p.Y)
	}
	return box(slices.Min(xs), slices.Min(ys), slices.Max(xs), slices.Max(ys))
}

// numbersInBoth counts the coordinates that are in both of two ranges.
func numbersInBoth(low, high, otherLow, otherHigh int) int {
	count := 0
	for n := range 201 {
		if low <= n && n <= high && otherLow <= n && n <= otherHigh {
			count++
		}
	}
	return count
}

// someBoxes are of all kinds: of one point, of one row, of one column, small
// ones in the map and at each of its sides and corners, and the whole map.
func someBoxes() []impl.Box {
	return append(boxesOf([]int{0, 7, 200}), boxesOf([]int{1, 3, 199})...)
}

func TestIsBox(t *testing.T) {
	for _, b := range append(someBoxes(),
		box(0, 0, 0, 0), box(7, 5, 7, 5), box(200, 200, 200, 200), box(0, 200, 0, 200), box(200, 0, 200, 0),
		box(3, 5, 9, 5), box(0, 200, 200, 200), box(5, 3, 5, 9), box(200, 0, 200, 200), box(5, 3, 6, 4), box(5, 9, 8, 10), theMap) {
		if !impl.IsBox(b) {
			t.Errorf("%v is not a box", b)
		}
	}
	for _, b := range noBoxes() {
		if impl.IsBox(b) {
			t.Errorf("%v is a box", b)
		}
	}
	valid := boxesOf(sides)
	count := 0
	for _, low := range pointsOf(sides) {
		for _, high := range pointsOf(sides) {
			if impl.IsBox(impl.Box{Low: low, High: high}) {
				count++
			}
		}
	}
	for _, b := range valid {
		if !impl.IsBox(b) {
			t.Errorf("%v is not a box", b)
		}
	}
	if count != len(valid) {
		t.Errorf("%d boxes are valid, want %d", count, len(valid))
	}
}

func TestBoxOf(t *testing.T) {
	cases := []struct {
		l    []impl.Point
		want impl.Box
	}{
		{through(3, 9, 1, 4, 5, 5), box(1, 4, 5, 9)},
		{through(7, 5), box(7, 5, 7, 5)},
		{through(0, 0), box(0, 0, 0, 0)},
		{through(200, 200), box(200, 200, 200, 200)},
		{through(0, 200), box(0, 200, 0, 200)},
		{through(7, 5, 7, 5), box(7, 5, 7, 5)},
		{slices.Repeat(through(200, 0), 100), box(200, 0, 200, 0)},
		{through(3, 5, 9, 5), box(3, 5, 9, 5)},
		{through(9, 5, 3, 5, 4, 5), box(3, 5, 9, 5)},
		{through(5, 9, 5, 3), box(5, 3, 5, 9)},
		{through(9, 3, 2, 8), box(2, 3, 9, 8)},
		{through(0, 0, 200, 200), theMap},
		{through(200, 0, 0, 200), theMap},
		{through(0, 100, 100, 0, 200, 100, 100, 200), theMap},
		// The greatest and the least number in turn come first and last.
		{through(9, 1, 4, 5, 2, 8), box(2, 1, 9, 8)},
		{through(4, 5, 2, 8, 9, 1, 5, 5), box(2, 1, 9, 8)},
		// What is no line and no ring has a box, too.
		{stairs(11), box(10, 10, 110, 110)},
		{slices.Concat(stairs(12), through(0, 3)), box(0, 3, 130, 110)},
		{slices.Concat(slices.Repeat(through(4, 4, 5, 6), 50), through(199, 5)), box(4, 4, 199, 6)},
	}
	for _, c := range cases {
		for _, l := range everyWay(c.l) {
			if got, ok := impl.BoxOf(l); !ok || got != c.want {
				t.Errorf("BoxOf(%v) = %v, %v, want %v, true", l, got, ok, c.want)
			}
		}
	}
}

func TestBoxesHoldWhatTheyWereMadeOf(t *testing.T) {
	lists := [][]impl.Point{stairs(10), stairs(12), pointsOf([]int{0, 7, 100}), pointsOf([]int{100, 199, 200}), pointsAround(4)}
	for _, shape := range shapes() {
		lists = append(lists, everyWay(shape.l)...)
	}
	for _, coordinates := range [][]int{{0, 1, 2}, {0, 100, 200}, {198, 199, 200}} {
		for count := 1; count <= 4; count++ {
			lists = append(lists, linesThrough(pointsOf(coordinates), count)...)
		}
	}
	for _, l := range lists {
		got, ok := impl.BoxOf(l)
		if !ok || !impl.IsBox(got) || got != tightest(l) {
			t.Fatalf("BoxOf(%v) = %v, %v", l, got, ok)
		}
		for i, p := range l {
			if !impl.InBox(got, p) {
				t.Fatalf("%v is not in %v, the box of %v", p, got, l)
			}
			before, _ := impl.BoxOf(l[:i])
			behind, _ := impl.BoxOf(l[i:])
			if joined, ok := impl.JoinBoxes(before, behind); i > 0 && (!ok || joined != got) {
				t.Fatalf("the boxes of both parts of %v, cut at %d, join to %v, %v", l, i, joined, ok)
			}
		}
	}
}

func TestBoxOfRejects(t *testing.T) {
	bad := [][]impl.Point{nil, {}, stairs(12)[:0]}
	for _, p := range offMap {
		bad = append(bad, []impl.Point{p}, []impl.Point{p, p}, append(stairs(12), p), append([]impl.Point{p}, stairs(12)...))
		for i := range 4 {
			bad = append(bad, slices.Insert(through(3, 9, 1, 4, 5, 5), i, p))
		}
		bad = append(bad, []impl.Point{at(0, 0), p}, []impl.Point{p, at(200, 200)})
	}
	for _, l := range bad {
		if got, ok := impl.BoxOf(l); ok || got != (impl.Box{}) {
			t.Errorf("BoxOf(%v) = %v, %v", l, got, ok)
		}
	}
}

// checkBoxes checks a pair in both orders.
func checkBoxes(t *testing.T, a, b impl.Box, meet, overlap bool) {
	t.Helper()
	for _, pair := range [][2]impl.Box{{a, b}, {b, a}} {
		if got := impl.BoxesMeet(pair[0], pair[1]); got != meet {
			t.Fatalf("BoxesMeet(%v, %v) = %v", pair[0], pair[1], got)
		}
		if got := impl.BoxesOverlap(pair[0], pair[1]); got != overlap {
			t.Fatalf("BoxesOverlap(%v, %v) = %v", pair[0], pair[1], got)
		}
	}
}

func TestBoxesMeetAndBoxesOverlap(t *testing.T) {
	a := box(3, 2, 9, 6)
	cases := []struct {
		name          string
		b             impl.Box
		meet, overlap bool
	}{
		{"the same", a, true, true},
		{"within, apart from all sides", box(4, 3, 8, 5), true, true},
		{"within, at a side", box(3, 3, 8, 5), true, true},
		{"within, at a corner", box(5, 4, 9, 6), true, true},
		{"within, one step wide", box(5, 4, 6, 5), true, true},
		{"around", box(2, 1, 10, 7), true, true},
		{"the map", theMap, true, true},
		{"over a corner", box(8, 5, 20, 20), true, true},
		{"over a side", box(5, 1, 6, 5), true, true},
		{"through, as a cross", box(5, 0, 6, 20), true, true},
		{"touches at each corner: right and up", box(9, 6, 12, 12), true, false},
		{"right and down", box(9, 0, 12, 2), true, false},
		{"left and up", box(0, 6, 3, 12), true, false},
		{"left and down", box(0, 0, 3, 2), true, false},
		{"along each side: right", box(9, 2, 12, 6), true, false},
		{"left", box(0, 2, 3, 6), true, false},
		{"up", box(3, 6, 9, 12), true, false},
		{"down", box(3, 0, 9, 2), true, false},
		{"along a part of a side", box(9, 4, 12, 5), true, false},
		{"beyond a side", box(0, 6, 20, 12), true, false},
		{"beside each side: right", box(10, 2, 12, 6), false, false},
		{"left", box(0, 2, 2, 6), false, false},
		{"up", box(3, 7, 9, 12), false, false},
		{"down", box(3, 0, 9, 1), false, false},
		{"beside each corner: right and up", box(10, 7, 12, 12), false, false},
		{"left and down", box(0, 0, 2, 1), false, false},
		{"right, one number of Y in common", box(10, 6, 12, 9), false, false},
		{"up, one number of X in common", box(9, 7, 12, 9), false, false},
		{"a point within", box(5, 4, 5, 4), true, false},
		{"a point on a side", box(9, 4, 9, 4), true, false},
		{"a point at a corner", box(3, 6, 3, 6), true, false},
		{"a point beside a side", box(10, 4, 10, 4), false, false},
		{"a point beside a corner", box(10, 7, 10, 7), false, false},
		{"a row within", box(4, 4, 8, 4), true, false},
		{"a row on a side", box(3, 6, 9, 6), true, false},
		{"a row through", box(0, 4, 200, 4), true, false},
		{"a row beside", box(3, 7, 9, 7), false, false},
		{"a column within", box(5, 3, 5, 5), true, false},
		{"a column on a side", box(3, 2, 3, 6), true, false},
		{"a column through", box(5, 0, 5, 200), true, false},
		{"a column beside", box(2, 2, 2, 6), false, false},
		{"far away", box(150, 160, 170, 180), false, false},
	}
	for _, c := range cases {
		t.Run(c.name, func(t *testing.T) { checkBoxes(t, a, c.b, c.meet, c.overlap) })
	}
}

func TestThinBoxesMeetButDoNotOverlap(t *testing.T) {
	point, row, column := box(5, 5, 5, 5), box(2, 5, 9, 5), box(5, 2, 5, 9)
	for _, a := range []impl.Box{point, row, column} {
		for _, b := range []impl.Box{point, row, column} {
			checkBoxes(t, a, b, true, false)
		}
		checkBoxes(t, a, theMap, true, false)
	}
	checkBoxes(t, row, box(9, 5, 12, 5), true, false)
	checkBoxes(t, row, box(10, 5, 12, 5), false, false)
	checkBoxes(t, row, box(2, 6, 9, 6), false, false)
	checkBoxes(t, column, box(5, 9, 5, 12), true, false)
	checkBoxes(t, column, box(5, 10, 5, 12), false, false)
	checkBoxes(t, column, box(6, 2, 6, 9), false, false)
	checkBoxes(t, point, box(5, 6, 5, 6), false, false)
}

func TestBoxesAtTheEdgeOfTheMap(t *testing.T) {
	for _, corner := range []impl.Box{box(0, 0, 0, 0), box(200, 0, 200, 0), box(0, 200, 0, 200), box(200, 200, 200, 200)} {
		checkBoxes(t, theMap, corner, true, false)
		checkBoxes(t, corner, corner, true, false)
		checkBoxes(t, box(1, 1, 199, 199), corner, false, false)
	}
	for _, edge := range []impl.Box{box(0, 0, 200, 0), box(0, 200, 200, 200), box(0, 0, 0, 200), box(200, 0, 200, 200)} {
		checkBoxes(t, theMap, edge, true, false)
		checkBoxes(t, box(1, 1, 199, 199), edge, false, false)
	}
	checkBoxes(t, theMap, theMap, true, true)
	checkBoxes(t, theMap, box(199, 199, 200, 200), true, true)
	checkBoxes(t, box(0, 0, 100, 200), box(100, 0, 200, 200), true, false)
	checkBoxes(t, box(0, 0, 101, 200), box(100, 0, 200, 200), true, true)
	checkBoxes(t, box(0, 0, 200, 99), box(0, 100, 200, 200), false, false)
	checkBoxes(t, box(0, 0, 100, 100), box(100, 100, 200, 200), true, false)
}

func TestMeetingFollowsItsDefinition(t *testing.T) {
	for _, coordinates := range [][]int{{0, 1, 2, 3}, {197, 198, 199, 200}, {0, 1, 100, 200}} {
		boxes := boxesOf(coordinates)
		for i, a := range boxes {
			for _, b := range boxes[i:] {
				wide := numbersInBoth(a.Low.X, a.High.X, b.Low.X, b.High.X)
				high := numbersInBoth(a.Low.Y, a.High.Y, b.Low.Y, b.High.Y)
				checkBoxes(t, a, b, wide > 0 && high > 0, wide > 1 && high > 1)
			}
		}
	}
}

func TestSegmentsThatMeetHaveBoxesThatMeet(t *testing.T) {
	segments := segmentsOf(pointsOf([]int{0, 1, 3, 200}))
	for i, s := range segments {
		a, _ := impl.BoxOf([]impl.Point{s.A, s.B})
		for _, p := range pointsAlong(s) {
			if !impl.InBox(a, p) {
				t.Fatalf("%v is on %v, but not in its box", p, s)
			}
		}
		for _, o := range segments[i:] {
			b, _ := impl.BoxOf([]impl.Point{o.A, o.B})
			if impl.HowMeet(s, o) != impl.MtNone && !impl.BoxesMeet(a, b) {
				t.Fatalf("%v and %v meet, but not their boxes", s, o)
			}
		}
	}
}

func TestInBox(t *testing.T) {
	cases := []struct {
		b       impl.Box
		in, out []impl.Point
	}{
		// Its corners, a point of each side, and one beside each.
		{box(3, 2, 9, 6), through(3, 2, 9, 2, 9, 6, 3, 6, 5, 2, 5, 6, 3, 4, 9, 4, 4, 3, 5, 5),
			through(2, 2, 3, 1, 2, 1, 10, 2, 9, 1, 10, 1, 10, 6, 9, 7, 10, 7, 2, 6, 3, 7, 2, 7, 5, 1, 5, 7, 2, 4, 10, 4, 4, 200, 200, 4, 0, 0)},
		{box(5, 5, 5, 5), through(5, 5), through(4, 5, 6, 5, 5, 4, 5, 6, 4, 4, 6, 6, 4, 6, 6, 4)},
		{box(2, 5, 9, 5), through(2, 5, 9, 5, 4, 5), through(1, 5, 10, 5, 2, 4, 2, 6, 4, 4, 4, 6, 9, 6)},
		{box(5, 2, 5, 9), through(5, 2, 5, 9, 5, 4), through(5, 1, 5, 10, 4, 2, 6, 2, 4, 4, 6, 4, 6, 9)},
		{box(0, 0, 0, 0), through(0, 0), through(1, 0, 0, 1, 1, 1, 200, 200)},
		{box(200, 200, 200, 200), through(200, 200), through(199, 200, 200, 199, 199, 199, 0, 0)},
		{box(0, 200, 0, 200), through(0, 200), through(1, 200, 0, 199, 200, 0)},
		{box(0, 3, 4, 200), through(0, 3, 0, 100, 0, 200, 4, 200, 2, 200, 4, 3), through(0, 2, 5, 200, 5, 3, 4, 2)},
		{theMap, through(0, 0, 200, 0, 200, 200, 0, 200, 0, 100, 100, 0, 200, 100, 100, 200, 77, 123), nil},
	}
	for _, c := range cases {
		for _, p := range c.in {
			if !impl.InBox(c.b, p) {
				t.Errorf("%v is not in %v", p, c.b)
			}
		}
		for _, p := range slices.Concat(c.out, offMap) {
			if impl.InBox(c.b, p) {
				t.Errorf("%v is in %v", p, c.b)
			}
		}
	}
}

func TestInBoxFollowsItsDefinition(t *testing.T) {
	points := pointsOf(sides)
	for _, b := range boxesOf([]int{0, 1, 3, 100, 199, 200}) {
		for _, p := range points {
			if got := impl.InBox(b, p); got != holds(b, p) {
				t.Fatalf("InBox(%v, %v) = %v", b, p, got)
			}
		}
	}
}

func TestNoBoxHasOrMeetsAnything(t *testing.T) {
	points := slices.Concat(offMap, through(0, 0, 5, 5, 3, 2, 9, 7, 200, 200, 0, 200, 200, 0, 4, 4))
	valid := []impl.Box{box(0, 0, 0, 0), box(3, 2, 9, 7), box(5, 5, 5, 5), box(200, 200, 200, 200), box(0, 3, 200, 3), theMap}
	for _, bad := range noBoxes() {
		for _, p := range append(points, bad.Low, bad.High) {
			if impl.InBox(bad, p) {
				t.Errorf("%v is in %v", p, bad)
			}
		}
		for _, b := range append(valid, bad, box(-9, -9, 300, 300)) {
			checkBoxes(t, bad, b, false, false)
		}
	}
}

func TestGrowBox(t *testing.T) {
	cases := []struct {
		b    impl.Box
		n    int
		want impl.Box
	}{
		{box(1, 4, 5, 9), 3, box(0, 1, 8, 12)},
		{box(20, 30, 40, 50), 0, box(20, 30, 40, 50)},
		{box(20, 30, 40, 50), 1, box(19, 29, 41, 51)},
		{box(20, 30, 40, 50), 7, box(13, 23, 47, 57)},
		{box(20, 30, 40, 50), 200, theMap},
		// Up to each edge of the map, and beyond it.
		{box(20, 30, 40, 50), 20, box(0, 10, 60, 70)},
		{box(20, 30, 40, 50), 21, box(0, 9, 61, 71)},
		{box(30, 20, 40, 50), 20, box(10, 0, 60, 70)},
		{box(30, 20, 40, 50), 21, box(9, 0, 61, 71)},
		{box(150, 120, 180, 160), 20, box(130, 100, 200, 180)},
		{box(150, 120, 180, 160), 21, box(129, 99, 200, 181)},
		{box(120, 150, 160, 180), 20, box(100, 130, 180, 200)},
		{box(120, 150, 160, 180), 21, box(99, 129, 181, 200)},
		{box(100, 100, 100, 100), 99, box(1, 1, 199, 199)},
		{box(100, 100, 100, 100), 100, theMap},
		{box(100, 100, 100, 100), 101, theMap},
		{box(5, 5, 5, 5), 0, box(5, 5, 5, 5)},
		{box(5, 5, 5, 5), 1, box(4, 4, 6, 6)},
		{box(2, 5, 9, 5), 2, box(0, 3, 11, 7)},
		{box(5, 2, 5, 9), 2, box(3, 0, 7, 11)},
		{box(0, 0, 0, 0), 0, box(0, 0, 0, 0)},
		{box(0, 0, 0, 0), 1, box(0, 0, 1, 1)},
		{box(0, 0, 0, 0), 199, box(0, 0, 199, 199)},
		{box(0, 0, 0, 0), 200, theMap},
		{box(200, 200, 200, 200), 0, box(200, 200, 200, 200)},
		{box(200, 200, 200, 200), 1, box(199, 199, 200, 200)},
		{box(200, 200, 200, 200), 199, box(1, 1, 200, 200)},
		{box(200, 200, 200, 200), 200, theMap},
		{box(0, 200, 0, 200), 4, box(0, 196, 4, 200)},
		{box(200, 0, 200, 0), 4, box(196, 0, 200, 4)},
		{theMap, 0, theMap},
		{theMap, 1, theMap},
		{theMap, 200, theMap},
	}
	for _, c := range cases {
		if got, ok := impl.GrowBox(c.b, c.n); !ok || got != c.want {
			t.Errorf("GrowBox(%v, %d) = %v, %v, want %v, true", c.b, c.n, got, ok, c.want)
		}
	}
}

func TestGrowBoxReachesJustTheNearPoints(t *testing.T) {
	for _, b := range append(boxesOf([]int{0, 2, 3}), boxesOf([]int{196, 199, 200})...) {
		for n := range 6 {
			got, ok := impl.GrowBox(b, n)
			if !ok || !impl.IsBox(got) {
				t.Fatalf("GrowBox(%v, %d) = %v, %v", b, n, got, ok)
			}
			for _, p := range append(pointsAround(9), pointsOf([]int{190, 191, 192, 193, 194, 195, 196, 197, 198, 199, 200})...) {
				around := box(p.X-n, p.Y-n, p.X+n, p.Y+n)
				near := holds(around, at(max(b.Low.X, min(p.X, b.High.X)), max(b.Low.Y, min(p.Y, b.High.Y))))
				if impl.InBox(got, p) != near {
					t.Fatalf("GrowBox(%v, %d) = %v: is %v in it?", b, n, got, p)
				}
			}
		}
	}
}

func TestGrowBoxGrowsStepByStep(t *testing.T) {
	for _, b := range someBoxes() {
		stepwise := b
		for n := range 201 {
			got, ok := impl.GrowBox(b, n)
			if !ok || got != stepwise {
				t.Fatalf("GrowBox(%v, %d) = %v, %v, step by step it is %v", b, n, got, ok, stepwise)
			}
			if !impl.InBox(got, b.Low) || !impl.InBox(got, b.High) {
				t.Fatalf("GrowBox(%v, %d) = %v lost a point", b, n, got)
			}
			stepwise, _ = impl.GrowBox(stepwise, 1)
		}
		if stepwise != theMap {
			t.Fatalf("%v grows to %v", b, stepwise)
		}
	}
}

func TestGrowBoxRejects(t *testing.T) {
	badSteps := []int{-1, 201, -2, -200, -201, 202, 1000, math.MinInt, math.MinInt + 1, math.MaxInt - 1, math.MaxInt}
	for _, b := range someBoxes() {
		for _, n := range badSteps {
			if got, ok := impl.GrowBox(b, n); ok || got != b {
				t.Errorf("GrowBox(%v, %d) = %v, %v", b, n, got, ok)
			}
		}
	}
	for _, b := range noBoxes() {
		for _, n := range append(badSteps, 0, 1, 3, 100, 200) {
			if got, ok := impl.GrowBox(b, n); ok || got != b {
				t.Errorf("GrowBox(%v, %d) = %v, %v", b, n, got, ok)
			}
		}
	}
}

func TestJoinBoxes(t *testing.T) {
	a := box(3, 2, 9, 6)
	cases := []struct{ a, b, want impl.Box }{
		{a, a, a},
		{a, box(4, 3, 8, 5), a},
		{a, box(3, 3, 9, 5), a},
		{a, box(5, 4, 5, 4), a},
		{a, theMap, theMap},
		{a, box(8, 5, 20, 30), box(3, 2, 20, 30)},
		{a, box(9, 6, 12, 12), box(3, 2, 12, 12)},
		{a, box(0, 6, 3, 12), box(0, 2, 9, 12)},
		{a, box(9, 0, 12, 2), box(3, 0, 12, 6)},
		{a, box(0, 0, 3, 2), box(0, 0, 9, 6)},
		{a, box(9, 2, 12, 6), box(3, 2, 12, 6)},
		{a, box(10, 2, 12, 6), box(3, 2, 12, 6)},
		{a, box(5, 0, 6, 20), box(3, 0, 9, 20)},
		{a, box(0, 4, 20, 5), box(0, 2, 20, 6)},
		{a, box(150, 160, 170, 180), box(3, 2, 170, 180)},
		{a, box(0, 180, 1, 190), box(0, 2, 9, 190)},
		{box(5, 5, 5, 5), box(5, 5, 5, 5), box(5, 5, 5, 5)},
		{box(5, 5, 5, 5), box(2, 9, 2, 9), box(2, 5, 5, 9)},
		{box(2, 5, 9, 5), box(5, 2, 5, 9), box(2, 2, 9, 9)},
		{box(2, 5, 4, 5), box(6, 5, 9, 5), box(2, 5, 9, 5)},
		{box(0, 0, 0, 0), box(200, 200, 200, 200), theMap},
		{box(200, 0, 200, 0), box(0, 200, 0, 200), theMap},
		{box(0, 0, 0, 0), box(200, 0, 200, 0), box(0, 0, 200, 0)},
		{theMap, theMap, theMap},
	}
	for _, c := range cases {
		for _, pair := range [][2]impl.Box{{c.a, c.b}, {c.b, c.a}} {
			if got, ok := impl.JoinBoxes(pair[0], pair[1]); !ok || got != c.want {
				t.Errorf("JoinBoxes(%v, %v) = %v, %v, want %v, true", pair[0], pair[1], got, ok, c.want)
			}
		}
	}
}

func TestJoinedBoxesAreTheLeastThatHaveBoth(t *testing.T) {
	for _, coordinates := range [][]int{{0, 1, 2, 3}, {0, 99, 199, 200}} {
		boxes := boxesOf(coordinates)
		for _, a := range boxes {
			for _, b := range boxes {
				ends := []impl.Point{a.Low, a.High, b.Low, b.High}
				got, ok := impl.JoinBoxes(a, b)
				if !ok || got != tightest(ends) {
					t.Fatalf("JoinBoxes(%v, %v) = %v, %v", a, b, got, ok)
				}
				for _, p := range ends {
					if !impl.InBox(got, p) {
						t.Fatalf("JoinBoxes(%v, %v) = %v lost %v", a, b, got, p)
					}
				}
			}
		}
	}
}

func TestJoinBoxesRejects(t *testing.T) {
	for _, bad := range noBoxes() {
		for _, b := range append(someBoxes(), bad, box(9, 9, 0, 0)) {
			for _, pair := range [][2]impl.Box{{bad, b}, {b, bad}} {
				if got, ok := impl.JoinBoxes(pair[0], pair[1]); ok || got != (impl.Box{}) {
					t.Errorf("JoinBoxes(%v, %v) = %v, %v", pair[0], pair[1], got, ok)
				}
			}
		}
	}
}

func TestBoxOfLeavesItsPointsAlone(t *testing.T) {
	lists := append(noRings(), stairs(10), stairs(12), through(9, 3, 2, 8))
	for _, l := range lists {
		checkApartOf(t, "BoxOf", [][]impl.Point{l}, at(3, 3), at(4, 9), theMap, func(args [][]impl.Point) []impl.Box {
			got, _ := impl.BoxOf(args[0])
			return []impl.Box{got}
		})
	}
}
