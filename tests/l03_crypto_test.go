package tests

import (
	"math"
	"testing"

	"loop.example/g03005/impl"
)

func TestEqualInts(t *testing.T) {
	cases := []struct {
		a, b []int
		want bool
	}{
		{nil, nil, true},
		{nil, []int{}, true},
		{nil, []int{0}, false},
		{[]int{}, []int{0}, false},
		{[]int{0}, []int{0}, true},
		{[]int{0}, []int{0, 0}, false},
		{[]int{1, 2, 3}, []int{1, 2, 3}, true},
		{[]int{1, 2, 3}, []int{1, 2, 4}, false},
		{[]int{1, 2, 3}, []int{4, 2, 3}, false},
		{[]int{1, 2, 3}, []int{1, 4, 3}, false},
		{[]int{1, 2}, []int{2, 1}, false},
		{[]int{1}, []int{-1}, false},
		{[]int{1}, []int{257}, false},
		{[]int{math.MinInt, math.MaxInt}, []int{math.MinInt, math.MaxInt}, true},
		{[]int{math.MinInt}, []int{math.MaxInt}, false},
	}
	for _, c := range cases {
		if got := impl.EqualInts(c.a, c.b); got != c.want {
			t.Errorf("EqualInts(%v, %v) = %v", c.a, c.b, got)
		}
		if got := impl.EqualInts(c.b, c.a); got != c.want {
			t.Errorf("EqualInts(%v, %v) = %v", c.b, c.a, got)
		}
	}
}
