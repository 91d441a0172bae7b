package tests

import (
	"math"
	"math/big"
	"slices"
	"testing"

	"loop.example/g03005/impl"
)

func at(x, y int) impl.Point {
	return impl.Point{X: x, Y: y}
}

// sides are coordinates at both edges of the map, inside it, and beyond it.
var sides = []int{
	math.MinInt, math.MinInt + 1, -1001, -201, -1, 0, 1, 2, 3, 99, 100,
	199, 200, 201, 402, 1001, math.MaxInt - 1, math.MaxInt,
}

func pointsOf(coordinates []int) []impl.Point {
	points := []impl.Point{}
	for _, x := range coordinates {
		for _, y := range coordinates {
			points = append(points, at(x, y))
		}
	}
	return points
}

func onMap(points ...impl.Point) bool {
	return !slices.ContainsFunc(points, func(p impl.Point) bool {
		return p.X < 0 || p.X > 200 || p.Y < 0 || p.Y > 200
	})
}

// offMap are points that miss the map by a little or by a lot, in X, in Y,
// or in both.
var offMap = []impl.Point{
	at(-1, 0), at(0, -1), at(-1, -1), at(201, 0), at(0, 201), at(201, 201), at(-1, 201), at(201, -1),
	at(-1, 200), at(200, -1), at(201, 200), at(200, 201), at(-3, 5), at(5, -3),
	at(math.MinInt, 0), at(0, math.MinInt), at(math.MaxInt, 7), at(7, math.MaxInt),
	at(math.MinInt, math.MinInt), at(math.MaxInt, math.MaxInt), at(math.MinInt, math.MaxInt),
}

func TestMaxSide(t *testing.T) {
	if impl.MaxSide != 200 {
		t.Errorf("MaxSide = %d", impl.MaxSide)
	}
}

func TestIsPoint(t *testing.T) {
	for _, p := range []impl.Point{
		at(0, 0), at(0, 200), at(200, 0), at(200, 200), at(1, 0), at(0, 1), at(199, 200), at(100, 37),
	} {
		if !impl.IsPoint(p) {
			t.Errorf("%v is not a point", p)
		}
	}
	for _, p := range offMap {
		if impl.IsPoint(p) {
			t.Errorf("%v is a point", p)
		}
	}
	for _, p := range pointsOf(sides) {
		if impl.IsPoint(p) != onMap(p) {
			t.Errorf("IsPoint(%v) = %v", p, impl.IsPoint(p))
		}
	}
}

func TestSideOf(t *testing.T) {
	cases := []struct {
		a, b, p impl.Point
		want    int
	}{
		{at(0, 0), at(4, 0), at(2, 1), 1},
		{at(0, 0), at(4, 0), at(2, 0), 0},
		{at(4, 0), at(0, 0), at(2, 1), -1},
		{at(0, 0), at(0, 4), at(1, 2), -1},
		{at(0, 4), at(0, 0), at(1, 2), 1},
		{at(0, 0), at(1, 1), at(2, 2), 0},
		{at(2, 2), at(1, 1), at(0, 0), 0},
		{at(1, 1), at(3, 2), at(7, 4), 0},
		{at(1, 1), at(3, 2), at(7, 5), 1},
		{at(1, 1), at(3, 2), at(7, 3), -1},
		{at(5, 6), at(5, 6), at(9, 1), 0},
		{at(5, 6), at(9, 1), at(5, 6), 0},
		{at(9, 1), at(5, 6), at(5, 6), 0},
		{at(5, 6), at(5, 6), at(5, 6), 0},
		{at(0, 0), at(200, 200), at(199, 200), 1},
		{at(0, 0), at(200, 200), at(200, 199), -1},
		{at(0, 0), at(200, 200), at(100, 100), 0},
		{at(0, 0), at(200, 199), at(199, 198), -1},
		{at(0, 0), at(199, 198), at(200, 199), 1},
		{at(0, 200), at(200, 0), at(100, 100), 0},
		{at(0, 200), at(200, 0), at(0, 0), -1},
		{at(0, 200), at(200, 0), at(200, 200), 1},
	}
	for _, c := range cases {
		if got := impl.SideOf(c.a, c.b, c.p); got != c.want {
			t.Errorf("SideOf(%v, %v, %v) = %d, want %d", c.a, c.b, c.p, got, c.want)
		}
	}
}

// twiceTheArea of the triangle has the sign of the side.
func twiceTheArea(a, b, p impl.Point) int {
	return a.X*b.Y + b.X*p.Y + p.X*a.Y - b.X*a.Y - p.X*b.Y - a.X*p.Y
}

func TestSidesTurnWithTheOrderOfThePoints(t *testing.T) {
	points := pointsOf([]int{0, 1, 2, 3, 7, 199, 200})
	for _, a := range points {
		for _, b := range points {
			for _, p := range points {
				side := impl.SideOf(a, b, p)
				if want := big.NewInt(int64(twiceTheArea(a, b, p))).Sign(); side != want {
					t.Fatalf("SideOf(%v, %v, %v) = %d, want %d", a, b, p, side, want)
				}
				if impl.SideOf(b, p, a) != side || impl.SideOf(p, a, b) != side {
					t.Fatalf("%v, %v, %v: another side in the same order", a, b, p)
				}
				if impl.SideOf(b, a, p) != -side || impl.SideOf(a, p, b) != -side || impl.SideOf(p, b, a) != -side {
					t.Fatalf("%v, %v, %v: not the opposite side in the opposite order", a, b, p)
				}
			}
		}
	}
}

func TestSideOfPointsThatAreNotValid(t *testing.T) {
	for _, bad := range offMap {
		for _, a := range []impl.Point{at(0, 0), at(3, 9), at(200, 200)} {
			for _, b := range []impl.Point{at(4, 0), at(200, 1)} {
				if impl.SideOf(bad, a, b) != 0 || impl.SideOf(a, bad, b) != 0 || impl.SideOf(a, b, bad) != 0 {
					t.Errorf("%v has a side with %v and %v", bad, a, b)
				}
				if impl.SideOf(bad, bad, a) != 0 || impl.SideOf(a, bad, bad) != 0 || impl.SideOf(bad, bad, bad) != 0 {
					t.Errorf("%v has a side with itself and %v", bad, a)
				}
			}
		}
	}
}

func TestFarSquaredAndStepsBetween(t *testing.T) {
	cases := []struct {
		a, b       impl.Point
		far, steps int
	}{
		{at(1, 2), at(4, 6), 25, 7},
		{at(4, 2), at(1, 6), 25, 7},
		{at(0, 0), at(0, 0), 0, 0},
		{at(3, 3), at(3, 3), 0, 0},
		{at(200, 200), at(200, 200), 0, 0},
		{at(0, 0), at(0, 1), 1, 1},
		{at(0, 0), at(200, 0), 40000, 200},
		{at(0, 200), at(0, 0), 40000, 200},
		{at(0, 0), at(200, 200), 80000, 400},
		{at(200, 0), at(0, 200), 80000, 400},
		{at(10, 7), at(9, 9), 5, 3},
	}
	for _, c := range cases {
		if got := impl.FarSquared(c.a, c.b); got != c.far {
			t.Errorf("FarSquared(%v, %v) = %d, want %d", c.a, c.b, got, c.far)
		}
		if got := impl.StepsBetween(c.a, c.b); got != c.steps {
			t.Errorf("StepsBetween(%v, %v) = %d, want %d", c.a, c.b, got, c.steps)
		}
	}
}

func TestDistancesFollowTheirDefinition(t *testing.T) {
	points := pointsOf(sides)
	for _, a := range points {
		for _, b := range points {
			far, steps := -1, -1
			if onMap(a, b) {
				dx, dy := a.X-b.X, a.Y-b.Y
				far = dx*dx + dy*dy
				steps = int(math.Abs(float64(dx)) + math.Abs(float64(dy)))
			}
			if got := impl.FarSquared(a, b); got != far {
				t.Fatalf("FarSquared(%v, %v) = %d, want %d", a, b, got, far)
			}
			if got := impl.StepsBetween(a, b); got != steps {
				t.Fatalf("StepsBetween(%v, %v) = %d, want %d", a, b, got, steps)
			}
		}
	}
}

func TestBeforePoint(t *testing.T) {
	cases := []struct {
		a, b impl.Point
		want bool
	}{
		{at(9, 1), at(0, 2), true},
		{at(0, 2), at(9, 1), false},
		{at(1, 2), at(2, 2), true},
		{at(2, 2), at(1, 2), false},
		{at(2, 2), at(2, 2), false},
		{at(200, 0), at(0, 1), true},
		{at(0, 1), at(200, 0), false},
		{at(0, 0), at(200, 200), true},
		{at(200, 200), at(200, 200), false},
		// The order does not ask whether the points are valid.
		{at(201, 0), at(0, 1), true},
		{at(0, 1), at(201, 0), false},
		{at(202, 0), at(0, 1), true},
		{at(-1, 1), at(200, 0), false},
		{at(200, 0), at(-1, 1), true},
		{at(-1, 5), at(0, 5), true},
		{at(200, 5), at(201, 5), true},
		{at(201, 5), at(201, 5), false},
		{at(0, -1), at(0, 0), true},
		{at(0, 201), at(0, 200), false},
		{at(math.MaxInt, math.MinInt), at(math.MinInt, math.MaxInt), true},
		{at(math.MinInt, math.MaxInt), at(math.MaxInt, math.MinInt), false},
		{at(math.MinInt, 3), at(math.MaxInt, 3), true},
		{at(math.MaxInt, 3), at(math.MinInt, 3), false},
	}
	for _, c := range cases {
		if got := impl.BeforePoint(c.a, c.b); got != c.want {
			t.Errorf("BeforePoint(%v, %v) = %v", c.a, c.b, got)
		}
	}
}

func TestBeforePointOrdersAllPoints(t *testing.T) {
	points := pointsOf(sides)
	for _, a := range points {
		for _, b := range points {
			want := slices.Compare([]int{a.Y, a.X}, []int{b.Y, b.X}) < 0
			if got := impl.BeforePoint(a, b); got != want {
				t.Fatalf("BeforePoint(%v, %v) = %v", a, b, got)
			}
		}
	}
}

func TestMovePoint(t *testing.T) {
	cases := []struct {
		p      impl.Point
		dx, dy int
		want   impl.Point
	}{
		{at(5, 6), 0, 0, at(5, 6)},
		{at(5, 6), 1, 2, at(6, 8)},
		{at(5, 6), -1, -2, at(4, 4)},
		{at(5, 6), -5, 194, at(0, 200)},
		{at(5, 6), 195, -6, at(200, 0)},
		{at(0, 0), 200, 200, at(200, 200)},
		{at(200, 200), -200, -200, at(0, 0)},
	}
	for _, c := range cases {
		if got, ok := impl.MovePoint(c.p, c.dx, c.dy); !ok || got != c.want {
			t.Errorf("MovePoint(%v, %d, %d) = %v, %v, want %v, true", c.p, c.dx, c.dy, got, ok, c.want)
		}
	}
}

func TestMovePointRejects(t *testing.T) {
	cases := []struct {
		p      impl.Point
		dx, dy int
	}{
		{at(5, 6), -6, 0},
		{at(5, 6), 0, -7},
		{at(5, 6), 196, 0},
		{at(5, 6), 0, 195},
		{at(0, 0), 201, 201},
		{at(5, 6), 1000, 0},
		{at(5, 6), 0, -1000},
		{at(5, 6), 1001, 0},
		{at(5, 6), 0, -1001},
		{at(5, 6), math.MaxInt, 0},
		{at(5, 6), 0, math.MinInt},
		{at(-1, 6), 1, 0},
		{at(6, 201), 0, -1},
		{at(-1, 6), 0, 0},
		// These moves would end on the map.
		{at(-1000, 6), 1000, 0},
		{at(-1001, 6), 1001, 0},
		{at(6, 1200), 0, -1000},
		{at(6, 1201), 0, -1001},
		{at(math.MinInt, 6), math.MinInt, 0},
		{at(6, math.MinInt), 0, math.MinInt},
		{at(math.MaxInt, 6), math.MinInt + 1, 0},
	}
	for _, c := range cases {
		if got, ok := impl.MovePoint(c.p, c.dx, c.dy); ok || got != c.p {
			t.Errorf("MovePoint(%v, %d, %d) = %v, %v, want the point itself, false", c.p, c.dx, c.dy, got, ok)
		}
	}
}

func TestMovePointFollowsItsDefinition(t *testing.T) {
	moves := append([]int{-1000, -200, -199, -2, 197, 198, 1000}, sides...)
	for _, p := range pointsOf(sides) {
		for _, dx := range moves {
			for _, dy := range moves {
				want, wantOK := at(p.X+dx, p.Y+dy), true
				if !onMap(p, want) || max(dx, dy) > 1000 || min(dx, dy) < -1000 {
					want, wantOK = p, false
				}
				if got, ok := impl.MovePoint(p, dx, dy); ok != wantOK || got != want {
					t.Fatalf("MovePoint(%v, %d, %d) = %v, %v, want %v, %v", p, dx, dy, got, ok, want, wantOK)
				}
			}
		}
	}
}
