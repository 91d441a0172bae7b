package tests

import (
	"fmt"
	"math"
	"math/big"
	"math/rand/v2"
	"slices"
	"testing"

	"loop.example/g03005/impl"
)

// badNears are distances that miss the range by a little or by a lot. The
// squares of some of them wrap around.
var badNears = []int{
	-1, 201, -2, 202, -200, 1000, 1 << 31, -(1 << 31), 1 << 32, 1<<32 + 1, math.MinInt, math.MaxInt, math.MinInt + 1, math.MaxInt - 1,
}

// farAsSaid is the exact square of the distance of a point from the nearest
// point of a segment, the ends of which may be the same.
func farAsSaid(s impl.Segment, p impl.Point) *big.Rat {
	dx, dy := s.B.X-s.A.X, s.B.Y-s.A.Y
	share := new(big.Rat)
	if long := dx*dx + dy*dy; long != 0 {
		along := dx*(p.X-s.A.X) + dy*(p.Y-s.A.Y)
		share = big.NewRat(int64(max(0, min(along, long))), int64(long))
	}
	square := new(big.Rat)
	for _, c := range [][3]int{{s.A.X, dx, p.X}, {s.A.Y, dy, p.Y}} {
		gap := new(big.Rat).Mul(share, big.NewRat(int64(c[1]), 1))
		gap.Add(gap, big.NewRat(int64(c[0]-c[2]), 1))
		square.Add(square, gap.Mul(gap, gap))
	}
	return square
}

// leastNear is the least whole number that is at least the distance.
func leastNear(s impl.Segment, p impl.Point) int {
	square := farAsSaid(s, p)
	least := 0
	for square.Cmp(big.NewRat(int64(least*least), 1)) > 0 {
		least++
	}
	return least
}

// tooFarAsSaid is the index of the point that is kept between two others; -1
// if there is none.
func tooFarAsSaid(l []impl.Point, first, last, near int) int {
	place, greatest := -1, big.NewRat(int64(near*near), 1)
	for i := first + 1; i < last; i++ {
		if far := farAsSaid(impl.Segment{A: l[first], B: l[last]}, l[i]); far.Cmp(greatest) > 0 {
			place, greatest = i, far
		}
	}
	return place
}

// simplerAsSaid looks through the kept points from the last one on, again
// and again, as long as there is a point to keep.
func simplerAsSaid(l []impl.Point, near int) []impl.Point {
	kept := []int{0, len(l) - 1}
	for i := len(kept) - 1; i > 0; {
		place := tooFarAsSaid(l, kept[i-1], kept[i], near)
		if place < 0 {
			i--
			continue
		}
		kept = slices.Insert(kept, i, place)
		i = len(kept) - 1
	}
	points := []impl.Point{}
	for _, i := range kept {
		points = append(points, l[i])
	}
	return points
}

func isLineAsSaid(l []impl.Point) bool {
	return len(l) >= 2 && len(l) <= 10 && onMap(l...) && len(slices.Compact(slices.Clone(l))) == len(l)
}

func isFaithfulAsSaid(l, kept []impl.Point, near int) bool {
	if !isLineAsSaid(l) || !isLineAsSaid(kept) || l[0] != kept[0] || l[len(l)-1] != kept[len(kept)-1] {
		return false
	}
	for _, p := range l {
		if !slices.ContainsFunc(joints(kept), func(s impl.Segment) bool { return leastNear(s, p) <= near }) {
			return false
		}
	}
	return true
}

// checkNearFrom checks that a point is near from a distance on, as far as
// there are such distances, in both directions of the segment.
func checkNearFrom(t *testing.T, s impl.Segment, p impl.Point, least int) {
	t.Helper()
	for _, o := range []impl.Segment{s, turned(s)} {
		for _, near := range []int{0, 1, least - 2, least - 1, least, least + 1, 200} {
			want := near >= least && near >= 0 && near <= 200
			if got := impl.IsNear(o, p, near); got != want {
				t.Fatalf("IsNear(%v, %v, %d) = %v", o, p, near, got)
			}
		}
	}
}

// checkSimpler checks which points of a line are kept, and what follows from
// it: the result is a part of the line and near all of its points.
func checkSimpler(t *testing.T, l []impl.Point, near int, want []impl.Point) {
	t.Helper()
	got := impl.SimplifyLine(l, near)
	if !slices.Equal(got, want) {
		t.Fatalf("SimplifyLine(%v, %d) = %v, want %v", l, near, got, want)
	}
	if count := impl.CountLeftOut(l, near); count != len(l)-len(want) {
		t.Fatalf("CountLeftOut(%v, %d) = %d, want %d", l, near, count, len(l)-len(want))
	}
	if !impl.IsPartOf(got, l) || impl.IsPartOf(l, got) != (len(got) == len(l)) {
		t.Fatalf("%v is not a part of %v, or the other way round", got, l)
	}
	// Two points that are the same are no line.
	if faithful := impl.IsFaithful(l, got, near); faithful != (len(want) > 2 || want[0] != want[1]) {
		t.Fatalf("IsFaithful(%v, %v, %d) = %v", l, got, near, faithful)
	}
	for _, p := range l {
		if !slices.ContainsFunc(joints(got), func(s impl.Segment) bool { return leastNear(s, p) <= near }) {
			t.Fatalf("%v is not near %v, the simpler line of %v for %d", p, got, l, near)
		}
	}
}

// checkNotSimpler checks that nothing is left out of what cannot be made
// simpler.
func checkNotSimpler(t *testing.T, l []impl.Point, near int) {
	t.Helper()
	if got := impl.SimplifyLine(l, near); !slices.Equal(got, l) {
		t.Errorf("SimplifyLine(%v, %d) = %v", l, near, got)
	}
	if got := impl.CountLeftOut(l, near); got != 0 {
		t.Errorf("CountLeftOut(%v, %d) = %d", l, near, got)
	}
}

func TestIsNear(t *testing.T) {
	level, steep, slanted := from(10, 10, 14, 10), from(10, 10, 10, 90), from(10, 0, 18, 6)
	cases := []struct {
		s     impl.Segment
		p     impl.Point
		least int
	}{
		// On the segment: at its ends, and between them.
		{level, at(10, 10), 0}, {level, at(14, 10), 0}, {level, at(12, 10), 0}, {slanted, at(14, 3), 0},
		// Beside it, above and below.
		{level, at(12, 13), 3}, {level, at(12, 7), 3}, {level, at(10, 15), 5}, {level, at(14, 5), 5}, {steep, at(9, 50), 1}, {steep, at(0, 90), 10},
		{slanted, at(11, 7), 5}, {slanted, at(17, 0), 5}, {slanted, at(10, 8), 7}, {slanted, at(14, 4), 1}, {slanted, at(14, 2), 1},
		// Before its start and behind its end, level with it and slanting.
		{level, at(9, 10), 1}, {level, at(0, 10), 10}, {level, at(15, 10), 1}, {level, at(20, 10), 6},
		{level, at(7, 14), 5}, {level, at(7, 6), 5}, {level, at(17, 14), 5}, {level, at(17, 6), 5}, {level, at(17, 15), 6}, {level, at(18, 14), 6},
		{slanted, at(2, 6), 10}, {slanted, at(24, 14), 10}, {slanted, at(22, 9), 5}, {slanted, at(22, 10), 6},
		// The line goes on through the point, but not the segment.
		{from(0, 0, 3, 3), at(6, 6), 5}, {from(0, 0, 1, 0), at(200, 0), 199}, {from(0, 200, 1, 200), at(0, 0), 200}, {from(0, 0, 0, 1), at(200, 0), 200},
		// Less far than 1.
		{from(0, 0, 3, 3), at(0, 1), 1}, {from(0, 0, 200, 199), at(1, 1), 1}, {from(0, 0, 200, 199), at(199, 198), 1}, {from(0, 0, 200, 200), at(199, 200), 1},
		// From corner to corner.
		{from(0, 0, 200, 200), at(0, 200), 142}, {from(0, 0, 0, 200), at(200, 0), 200}, {from(0, 0, 0, 200), at(200, 200), 200},
		{from(0, 0, 200, 0), at(100, 200), 200}, {from(0, 1, 200, 1), at(100, 200), 199},
		// Farther than any distance that is asked for.
		{from(0, 0, 0, 1), at(200, 20), 201}, {from(0, 0, 1, 0), at(200, 200), 283}, {from(199, 199, 200, 200), at(0, 0), 282},
	}
	for _, c := range cases {
		checkNearFrom(t, c.s, c.p, c.least)
	}
}

func TestIsNearFollowsItsDefinition(t *testing.T) {
	for _, s := range segmentsOf(pointsOf([]int{3, 4, 5, 8})) {
		for _, p := range pointsOf([]int{0, 1, 2, 3, 4, 5, 6, 7, 8, 9, 13}) {
			checkNearFrom(t, s, p, leastNear(s, p))
		}
	}
	for _, s := range segmentsOf(pointsOf([]int{0, 7, 100, 199, 200})) {
		for _, p := range pointsOf([]int{0, 1, 99, 150, 200}) {
			checkNearFrom(t, s, p, leastNear(s, p))
		}
	}
}

func TestIsNearRejects(t *testing.T) {
	for _, s := range []impl.Segment{from(0, 0, 4, 0), from(0, 0, 0, 1), from(0, 0, 200, 200)} {
		for _, near := range badNears {
			for _, p := range []impl.Point{s.A, s.B, at(2, 0), at(2, 1)} {
				if impl.IsNear(s, p, near) {
					t.Errorf("%v is near %v for %d", p, s, near)
				}
			}
		}
		for _, p := range offMap {
			for _, near := range []int{0, 1, 5, 200} {
				if impl.IsNear(s, p, near) {
					t.Errorf("%v is near %v for %d", p, s, near)
				}
			}
		}
	}
	for _, s := range noSegments() {
		for _, p := range []impl.Point{s.A, s.B, at(0, 0), at(3, 3), at(100, 100), at(200, 200)} {
			for _, near := range append([]int{0, 1, 200}, badNears...) {
				if impl.IsNear(s, p, near) {
					t.Errorf("%v is near %v for %d", p, s, near)
				}
			}
		}
	}
}

func TestSimplifyLine(t *testing.T) {
	saw := through(10, 10, 20, 14, 30, 10, 40, 16, 50, 10, 60, 12, 70, 10)
	twins := through(0, 0, 2, 3, 4, 3, 6, 0)
	cases := []struct {
		l    []impl.Point
		near int
		want []impl.Point
	}{
		// Points at other distances are left out one by one.
		{saw, 0, saw},
		{saw, 1, saw},
		{saw, 2, through(10, 10, 20, 14, 30, 10, 40, 16, 50, 10, 70, 10)},
		{saw, 3, through(10, 10, 20, 14, 30, 10, 40, 16, 50, 10, 70, 10)},
		{saw, 4, through(10, 10, 40, 16, 70, 10)},
		{saw, 5, through(10, 10, 40, 16, 70, 10)},
		{saw, 6, through(10, 10, 70, 10)},
		{saw, 200, through(10, 10, 70, 10)},
		// The farthest point is kept, even if others before it are too far.
		{through(0, 0, 10, 5, 20, 9, 30, 5, 40, 0), 4, through(0, 0, 20, 9, 40, 0)},
		{through(0, 0, 10, 5, 20, 6, 30, 9, 40, 0), 4, through(0, 0, 30, 9, 40, 0)},
		{through(0, 0, 10, 9, 20, 6, 30, 5, 40, 0), 4, through(0, 0, 10, 9, 40, 0)},
		// The first one of several that are equally far is kept.
		{twins, 2, through(0, 0, 2, 3, 6, 0)},
		{backwards(twins), 2, through(6, 0, 4, 3, 0, 0)},
		{through(0, 9, 2, 6, 4, 12, 6, 9), 2, through(0, 9, 2, 6, 4, 12, 6, 9)},
		// One is beside the segment, and one before it or behind it.
		{through(10, 10, 4, 18, 11, 20, 13, 10), 9, through(10, 10, 4, 18, 13, 10)},
		{through(10, 10, 11, 20, 4, 18, 13, 10), 9, through(10, 10, 11, 20, 13, 10)},
		{through(10, 10, 19, 18, 11, 20, 13, 10), 9, through(10, 10, 19, 18, 13, 10)},
		{through(10, 10, 11, 20, 19, 18, 13, 10), 9, through(10, 10, 11, 20, 13, 10)},
		{through(10, 10, 11, 20, 19, 18, 13, 10), 10, through(10, 10, 13, 10)},
		{through(5, 5, 5, 9, 9, 5, 5, 1, 1, 5, 6, 5), 4, through(5, 5, 6, 5)},
		{through(5, 5, 5, 9, 9, 5, 5, 1, 1, 5, 5, 5), 3, through(5, 5, 5, 9, 9, 5, 5, 1, 1, 5, 5, 5)},
		// Two points are always kept.
		{through(0, 0, 1, 0), 0, through(0, 0, 1, 0)},
		{through(0, 0, 1, 0), 200, through(0, 0, 1, 0)},
		{through(200, 200, 0, 0), 200, through(200, 200, 0, 0)},
		// On one segment.
		{through(0, 9, 1, 9, 2, 9, 3, 9, 4, 9, 5, 9, 6, 9, 7, 9, 8, 9, 9, 9), 0, through(0, 9, 9, 9)},
		{through(1, 1, 3, 2, 7, 4, 9, 5), 0, through(1, 1, 9, 5)},
		{through(0, 0, 4, 0, 8, 0, 8, 3, 8, 9, 7, 9), 0, through(0, 0, 8, 0, 8, 9, 7, 9)},
		{through(0, 0, 1, 1, 2, 3), 0, through(0, 0, 1, 1, 2, 3)},
		{through(0, 0, 1, 1, 2, 3), 1, through(0, 0, 2, 3)},
		// Forward and back within the segment, and beyond its ends.
		{through(0, 0, 7, 0, 3, 0, 9, 0), 0, through(0, 0, 9, 0)},
		{through(0, 0, 9, 0, 4, 0), 4, through(0, 0, 9, 0, 4, 0)},
		{through(0, 0, 9, 0, 4, 0), 5, through(0, 0, 4, 0)},
		{through(9, 5, 6, 5, 12, 5), 2, through(9, 5, 6, 5, 12, 5)},
		{through(9, 5, 6, 5, 12, 5), 3, through(9, 5, 12, 5)},
		// Up to the greatest distance.
		{through(0, 0, 200, 0, 0, 1), 199, through(0, 0, 200, 0, 0, 1)},
		{through(0, 0, 200, 0, 0, 1), 200, through(0, 0, 0, 1)},
		{through(0, 0, 200, 21, 0, 1), 200, through(0, 0, 200, 21, 0, 1)},
		{through(0, 0, 200, 200, 0, 1), 200, through(0, 0, 200, 200, 0, 1)},
		{through(0, 200, 100, 0, 200, 200), 200, through(0, 200, 200, 200)},
		{through(0, 200, 100, 0, 200, 200), 199, through(0, 200, 100, 0, 200, 200)},
	}
	for _, c := range cases {
		checkSimpler(t, c.l, c.near, c.want)
	}
}

func TestLinesThatComeBackAreMadeSimpler(t *testing.T) {
	triangle, square := through(0, 0, 4, 0, 0, 3, 0, 0), through(10, 10, 10, 20, 20, 20, 20, 10, 10, 10)
	there := through(50, 50, 60, 50, 70, 50, 60, 50, 50, 50)
	loop := through(0, 0, 50, 50, 60, 70, 70, 50, 50, 50, 100, 0)
	cases := []struct {
		l    []impl.Point
		near int
		want []impl.Point
	}{
		// From the point where the line begins and ends, in all directions.
		{triangle, 2, triangle},
		{triangle, 3, through(0, 0, 4, 0, 0, 0)},
		{triangle, 4, through(0, 0, 0, 0)},
		{triangle, 200, through(0, 0, 0, 0)},
		{backwards(triangle), 3, through(0, 0, 4, 0, 0, 0)},
		{through(0, 0, 3, 4, 4, 3, 0, 0), 4, through(0, 0, 3, 4, 0, 0)},
		{through(0, 0, 3, 4, 4, 3, 0, 0), 5, through(0, 0, 0, 0)},
		{square, 7, square},
		{square, 8, through(10, 10, 20, 20, 10, 10)},
		{square, 14, through(10, 10, 20, 20, 10, 10)},
		{square, 15, through(10, 10, 10, 10)},
		{through(0, 0, 200, 200, 0, 0), 200, through(0, 0, 200, 200, 0, 0)},
		{through(0, 0, 200, 0, 0, 0), 200, through(0, 0, 0, 0)},
		{through(0, 0, 200, 0, 0, 0), 199, through(0, 0, 200, 0, 0, 0)},
		{through(0, 0, 1, 0, 0, 0), 0, through(0, 0, 1, 0, 0, 0)},
		{through(0, 0, 1, 0, 0, 0), 1, through(0, 0, 0, 0)},
		{through(0, 0, 1, 1, 0, 0), 1, through(0, 0, 1, 1, 0, 0)},
		// There and back along itself, once and several times.
		{there, 0, through(50, 50, 70, 50, 50, 50)},
		{there, 19, through(50, 50, 70, 50, 50, 50)},
		{there, 20, through(50, 50, 50, 50)},
		{slices.Repeat(through(0, 0, 9, 9), 5), 12, through(0, 0, 9, 9)},
		{append(slices.Repeat(through(0, 0, 9, 9), 4), at(0, 0)), 12, through(0, 0, 9, 9, 0, 0)},
		{append(slices.Repeat(through(0, 0, 9, 9), 4), at(0, 0)), 13, through(0, 0, 0, 0)},
		// Through the point where it began, before its end.
		{through(0, 0, 4, 0, 0, 0, 0, 5), 3, through(0, 0, 4, 0, 0, 0, 0, 5)},
		{through(0, 0, 4, 0, 0, 0, 0, 5), 4, through(0, 0, 0, 5)},
		{through(0, 0, 0, 9, 0, 0, 0, 9, 0, 0), 8, through(0, 0, 0, 9, 0, 0)},
		// Back to a point between.
		{loop, 0, loop},
		{loop, 5, loop},
		{loop, 6, through(0, 0, 60, 70, 70, 50, 50, 50, 100, 0)},
		{loop, 17, through(0, 0, 60, 70, 70, 50, 50, 50, 100, 0)},
		{loop, 18, through(0, 0, 60, 70, 50, 50, 100, 0)},
		{loop, 19, through(0, 0, 60, 70, 100, 0)},
		{loop, 69, through(0, 0, 60, 70, 100, 0)},
		{loop, 70, through(0, 0, 100, 0)},
	}
	for _, c := range cases {
		if want := simplerAsSaid(c.l, c.near); !slices.Equal(c.want, want) {
			t.Errorf("the points of %v kept for %d are %v, not %v", c.l, c.near, want, c.want)
		}
		checkSimpler(t, c.l, c.near, c.want)
	}
}

func TestSimplifyLineFollowsItsDefinition(t *testing.T) {
	for _, coordinates := range [][]int{{0, 1, 2}, {0, 3, 4}, {10, 15, 27}} {
		for count := 2; count <= 4; count++ {
			for _, l := range linesThrough(pointsOf(coordinates), count) {
				for _, near := range []int{0, 1, 3, 4} {
					checkSimpler(t, l, near, simplerAsSaid(l, near))
				}
			}
		}
	}
	for count := 5; count <= 8; count++ {
		for _, l := range linesThrough(through(20, 20, 23, 24, 40, 20), count) {
			for _, near := range []int{0, 3, 5, 17} {
				checkSimpler(t, l, near, simplerAsSaid(l, near))
			}
		}
	}
}

func TestLongLinesAreMadeSimplerAsSaid(t *testing.T) {
	random := rand.New(rand.NewPCG(11, 1))
	lengths := map[int]int{}
	for range 2000 {
		side := []int{3, 12, 60, 201}[random.IntN(4)]
		l := []impl.Point{}
		for range 10 {
			l = append(l, at(random.IntN(side), random.IntN(side)))
		}
		if random.IntN(3) == 0 {
			l[9] = l[0]
		}
		l = slices.Compact(l)
		if len(l) < 2 {
			continue
		}
		near := random.IntN(side)
		want := simplerAsSaid(l, near)
		checkSimpler(t, l, near, want)
		lengths[len(want)]++
		for _, near := range []int{0, 200} {
			checkSimpler(t, l, near, simplerAsSaid(l, near))
		}
	}
	for kept := 2; kept <= 10; kept++ {
		if lengths[kept] < 20 {
			t.Errorf("only %d lines keep %d points", lengths[kept], kept)
		}
	}
}

func TestEveryPointMayBeKept(t *testing.T) {
	for points := 2; points <= 10; points++ {
		checkSimpler(t, stairs(points), 0, stairs(points))
		zigzag := []impl.Point{}
		for i := range points {
			zigzag = append(zigzag, at(20*i, i%2*200))
		}
		for _, near := range []int{0, 1, 19} {
			checkSimpler(t, zigzag, near, zigzag)
		}
	}
}

func TestSimplifyLineRejects(t *testing.T) {
	for _, bad := range noLines() {
		for _, near := range []int{0, 1, 9, 200, -1, 201, math.MinInt, math.MaxInt} {
			checkNotSimpler(t, bad, near)
			checkNotSimpler(t, backwards(bad), near)
		}
	}
	straight := through(0, 9, 1, 9, 2, 9, 3, 9, 4, 9, 5, 9, 6, 9, 7, 9, 8, 9, 9, 9)
	for _, near := range badNears {
		for _, l := range [][]impl.Point{straight, through(0, 0, 1, 1, 3, 3), through(0, 0, 1, 0, 0, 0), through(0, 0, 9, 0), stairs(10)} {
			checkNotSimpler(t, l, near)
		}
	}
	checkNotSimpler(t, append(straight, at(10, 9)), 200)
	checkNotSimpler(t, through(5, 5, 6, 5, 6, 5, 7, 5), 200)
	checkNotSimpler(t, through(5, 5, 6, 5, 7, 5, 8, 201), 200)
}

func TestIsPartOf(t *testing.T) {
	l := through(0, 0, 5, 5, 9, 0, 5, 5, 20, 0)
	cases := []struct {
		a, b []impl.Point
		want bool
	}{
		// Equal lists, and empty ones.
		{l, l, true}, {nil, l, true}, {through(), l, true}, {nil, nil, true}, {nil, through(), true}, {through(), nil, true},
		{l, nil, false}, {l, through(), false}, {through(0, 0), nil, false},
		// Without the first, the last, and several points.
		{l[1:], l, true}, {l[:4], l, true}, {l[1:4], l, true}, {l[:1], l, true}, {l[4:], l, true}, {l[2:3], l, true},
		{through(0, 0, 9, 0, 20, 0), l, true}, {through(5, 5, 5, 5), l, true}, {through(0, 0, 20, 0), l, true}, {through(0, 0, 9, 0, 5, 5), l, true},
		// The other way round.
		{l, l[1:], false}, {l, l[:4], false}, {l, through(0, 0, 20, 0), false},
		// The same point more often than it is there, or not just behind.
		{through(5, 5, 5, 5, 5, 5), l, false}, {through(0, 0, 0, 0), l, false}, {through(20, 0, 20, 0), l, false}, {through(5, 5, 9, 0, 9, 0), l, false},
		// In another order.
		{backwards(l), l, false}, {through(9, 0, 0, 0), l, false}, {through(20, 0, 5, 5), l, false}, {through(5, 5, 9, 0, 5, 5, 0, 0), l, false},
		// Points that are not there.
		{through(1, 0), l, false}, {through(0, 0, 5, 5, 9, 1), l, false}, {through(0, 5), l, false}, {through(0, 0, 5, 5, 9, 0, 5, 5, 20, 0, 21, 0), l, false},
		// Points need not be valid, and lists need not be lines.
		{through(-1, 201), through(-1, 200, -1, 201), true}, {through(math.MinInt, math.MaxInt), through(math.MaxInt, math.MinInt, math.MinInt, math.MaxInt), true},
		{through(math.MaxInt, math.MinInt), through(math.MinInt, math.MaxInt), false}, {through(-1, 201), through(201, -1), false}, {through(0, 1), through(-200, 2, 201, 0), false},
		{stairs(12), stairs(19), true}, {stairs(19), stairs(12), false}, {slices.Repeat(l, 100), slices.Repeat(l, 100), true},
		{slices.Repeat(l, 100), slices.Repeat(l, 99), false}, {slices.Repeat(l, 99), slices.Repeat(l, 100), true},
	}
	for _, c := range cases {
		if got := impl.IsPartOf(c.a, c.b); got != c.want {
			t.Errorf("IsPartOf(%v, %v) = %v", c.a, c.b, got)
		}
	}
}

func TestIsPartOfFollowsItsDefinition(t *testing.T) {
	lists := [][]impl.Point{nil}
	for begin := 0; len(lists[begin]) < 4; begin++ {
		for _, p := range through(1, 2, 2, 1, 3, 3) {
			lists = append(lists, append(slices.Clone(lists[begin]), p))
		}
	}
	for _, b := range lists {
		parts := map[string]bool{}
		for mask := range 1 << len(b) {
			part := []impl.Point{}
			for i, p := range b {
				if mask>>i&1 == 1 {
					part = append(part, p)
				}
			}
			parts[fmt.Sprint(part)] = true
		}
		for _, a := range lists {
			if got := impl.IsPartOf(a, b); got != parts[fmt.Sprint(a)] {
				t.Fatalf("IsPartOf(%v, %v) = %v", a, b, got)
			}
		}
	}
}

// hill goes from (0, 0) to (9, 0) in ten points.
func hill() []impl.Point {
	return through(0, 0, 1, 1, 2, 2, 3, 3, 4, 2, 5, 1, 6, 0, 7, 0, 8, 0, 9, 0)
}

func TestIsFaithful(t *testing.T) {
	l := through(10, 10, 20, 13, 30, 10, 40, 20)
	ring := through(10, 10, 20, 10, 20, 20, 10, 10)
	cases := []struct {
		l, kept []impl.Point
		least   int
	}{
		// Every near from the least one on.
		{l, l, 0}, {l, through(10, 10, 30, 10, 40, 20), 3}, {l, through(10, 10, 20, 13, 40, 20), 7}, {l, through(10, 10, 40, 20), 7},
		{through(0, 0, 9, 0), through(0, 0, 9, 0), 0}, {through(0, 0, 4, 0, 9, 0), through(0, 0, 9, 0), 0},
		{through(0, 0, 9, 0, 4, 0), through(0, 0, 4, 0), 5}, {through(0, 0, 200, 0, 0, 1), through(0, 0, 0, 1), 200},
		// What is kept need not be a part of the line, nor shorter.
		{through(0, 0, 9, 0), through(0, 0, 4, 0, 9, 0), 0}, {through(0, 0, 9, 0), through(0, 0, 4, 7, 9, 0), 0}, {through(0, 0, 4, 1, 9, 0), through(0, 0, 4, 3, 9, 0), 2},
		{through(0, 0, 4, 1, 9, 0), hill(), 1}, {hill(), through(0, 0, 9, 0), 3},
		// Near another segment than the one between its neighbours.
		{through(0, 0, 9, 8, 9, 0, 0, 8), through(0, 0, 9, 0, 9, 8, 0, 8), 0}, {through(0, 0, 9, 1, 0, 2, 9, 3), through(0, 0, 9, 3), 2},
		// Lines that begin and end at the same point.
		{ring, ring, 0}, {ring, backwards(ring), 0}, {ring, through(10, 10, 20, 20, 10, 10), 8}, {ring, through(10, 10, 20, 10, 10, 10), 10}, {ring, through(10, 10, 10, 11, 10, 10), 14},
		{through(0, 0, 9, 0, 0, 0), through(0, 0, 9, 0, 0, 0), 0}, {through(0, 0, 9, 0, 0, 0), through(0, 0, 0, 9, 0, 0), 9},
		// Never.
		{through(0, 0, 200, 21, 0, 1), through(0, 0, 0, 1), 201}, {through(0, 0, 200, 200, 0, 1), through(0, 0, 0, 1), 282}, {through(0, 0, 200, 200, 0, 0), through(0, 0, 1, 0, 0, 0), 283},
		{l, l[1:], 999}, {l, l[:3], 999}, {l, l[1:3], 999}, {l, backwards(l), 999}, {l, through(10, 10, 40, 21), 999}, {l, through(11, 10, 40, 20), 999},
		{l, through(10, 10, 20, 13, 30, 10, 40, 20, 10, 10), 999}, {l, through(40, 20, 10, 10), 999}, {l, through(10, 10, 40, 20, 10, 10), 999}, {l, through(40, 20, 10, 10, 40, 20), 999},
	}
	for _, c := range cases {
		for _, near := range append([]int{0, 1, c.least - 1, c.least, c.least + 1, 199, 200}, badNears...) {
			want := near >= c.least && near >= 0 && near <= 200
			if got := impl.IsFaithful(c.l, c.kept, near); got != want {
				t.Errorf("IsFaithful(%v, %v, %d) = %v", c.l, c.kept, near, got)
			}
		}
	}
}

func TestEachPointHasToBeNear(t *testing.T) {
	level := []impl.Point{}
	for i := range 10 {
		level = append(level, at(10*i, 50))
	}
	for i := 1; i < 9; i++ {
		for _, y := range []int{42, 58} {
			l := slices.Clone(level)
			l[i].Y = y
			kept := slices.Delete(slices.Clone(l), i, i+1)
			if impl.IsFaithful(l, kept, 7) || !impl.IsFaithful(l, kept, 8) {
				t.Errorf("IsFaithful(%v, %v, 7 and 8) = %v, %v", l, kept, impl.IsFaithful(l, kept, 7), impl.IsFaithful(l, kept, 8))
			}
			checkSimpler(t, l, 8, through(0, 50, 90, 50))
		}
	}
	// A point may be near just one segment, whichever it is.
	kept := stairs(10)
	for _, s := range joints(kept) {
		l := []impl.Point{kept[0], at((s.A.X+s.B.X)/2, (s.A.Y+s.B.Y)/2), kept[9]}
		if !impl.IsFaithful(l, kept, 0) {
			t.Errorf("IsFaithful(%v, %v, 0) = false", l, kept)
		}
	}
}

func TestIsFaithfulFollowsItsDefinition(t *testing.T) {
	points := through(0, 0, 4, 0, 0, 3, 2, 1)
	lists := [][]impl.Point{nil}
	for begin := 0; len(lists[begin]) < 4; begin++ {
		for _, p := range points {
			lists = append(lists, append(slices.Clone(lists[begin]), p))
		}
	}
	faithful := map[bool]int{}
	for _, l := range lists {
		for _, kept := range lists {
			for near := range 4 {
				want := isFaithfulAsSaid(l, kept, near)
				if got := impl.IsFaithful(l, kept, near); got != want {
					t.Fatalf("IsFaithful(%v, %v, %d) = %v", l, kept, near, got)
				}
				faithful[want]++
			}
		}
	}
	if faithful[true] < 1000 || faithful[false] < 1000 {
		t.Errorf("the lists are too much alike: %v", faithful)
	}
}

func TestIsFaithfulRejects(t *testing.T) {
	for _, bad := range noLines() {
		others := [][]impl.Point{bad, through(0, 0, 9, 9), through(0, 0, 9, 0), stairs(10), stairs(9)}
		if len(bad) > 0 {
			// Its ends are the same, and it goes through most of the points.
			others = append(others, []impl.Point{bad[0], bad[len(bad)-1]}, []impl.Point{bad[0], at(9, 9), bad[len(bad)-1]})
		}
		for _, other := range others {
			for _, near := range []int{0, 5, 200, -1, 201} {
				if impl.IsFaithful(bad, other, near) || impl.IsFaithful(other, bad, near) {
					t.Errorf("%v and %v are faithful for %d", bad, other, near)
				}
			}
		}
	}
	// Lines of MaxPoints, and one more, on both sides.
	ten := through(0, 9, 1, 9, 2, 9, 3, 9, 4, 9, 5, 9, 6, 9, 7, 9, 8, 9, 10, 9)
	eleven := slices.Insert(slices.Clone(ten), 9, at(9, 9))
	if !impl.IsFaithful(ten, ten, 0) || impl.IsFaithful(eleven, ten, 0) || impl.IsFaithful(ten, eleven, 0) || impl.IsFaithful(eleven, eleven, 0) {
		t.Error("MaxPoints is not the limit")
	}
}

func TestCountLeftOut(t *testing.T) {
	straight := through(0, 9, 1, 9, 2, 9, 3, 9, 4, 9, 5, 9, 6, 9, 7, 9, 8, 9, 9, 9)
	cases := []struct {
		l          []impl.Point
		near, want int
	}{
		{straight, 0, 8}, {straight, 200, 8}, {straight, -1, 0}, {straight, 201, 0}, {straight[:9], 0, 7}, {straight[:3], 0, 1}, {straight[:2], 0, 0},
		{straight[:1], 0, 0}, {nil, 0, 0}, {nil, -1, 0}, {through(), 5, 0}, {stairs(10), 0, 0}, {stairs(10), 15, 8}, {stairs(11), 15, 0},
		{through(0, 0, 1, 0, 0, 0), 0, 0}, {through(0, 0, 1, 0, 0, 0), 1, 1}, {through(0, 0, 0, 0), 5, 0}, {through(0, 0, 5, 0, 5, 0, 9, 0), 5, 0},
		{append(slices.Repeat(through(0, 0, 9, 9), 4), at(0, 0)), 13, 7}, {append(slices.Repeat(through(0, 0, 9, 9), 4), at(0, 0)), 12, 6},
		{slices.Repeat(straight, 100), 200, 0},
	}
	for _, c := range cases {
		if got := impl.CountLeftOut(c.l, c.near); got != c.want {
			t.Errorf("CountLeftOut(%v, %d) = %d, want %d", c.l, c.near, got, c.want)
		}
	}
}

func TestSimplerLinesShareNoMemory(t *testing.T) {
	spare, other := at(3, 3), at(4, 9)
	lists := append(noLines(), through(0, 0, 4, 0), through(0, 0, 4, 0, 2, 0), through(0, 0, 4, 0, 8, 0), through(0, 0, 1, 1, 0, 0), stairs(9), stairs(10))
	for _, l := range lists {
		one, two := [][]impl.Point{l}, [][]impl.Point{l, stairs(10)}
		for _, near := range []int{0, 1, 200, -1, 201} {
			checkApartOf(t, "SimplifyLine", one, spare, other, other, func(args [][]impl.Point) []impl.Point {
				return impl.SimplifyLine(args[0], near)
			})
			checkApartOf(t, "CountLeftOut", one, spare, other, 33, func(args [][]impl.Point) []int {
				return []int{impl.CountLeftOut(args[0], near)}
			})
			checkApartOf(t, "IsPartOf and IsFaithful", two, spare, other, false, func(args [][]impl.Point) []bool {
				a, b := args[0], args[1]
				return []bool{impl.IsPartOf(a, b), impl.IsPartOf(b, a), impl.IsFaithful(a, b, near), impl.IsFaithful(b, a, near)}
			})
		}
	}
}
