package tests

import (
	"math"
	"slices"
	"testing"

	"loop.example/g00164/impl"
)

const farthest = 100000000

func atLeft(x int, y int, w int, h int) impl.Aside {
	return impl.Aside{Side: impl.SideLeft, X: x, Y: y, W: w, H: h}
}

func atRight(x int, y int, w int, h int) impl.Aside {
	return impl.Aside{Side: impl.SideRight, X: x, Y: y, W: w, H: h}
}

func within(n int, least int, most int) bool {
	return n >= least && n <= most
}

func nearAsSaid(numbers ...int) bool {
	for _, n := range numbers {
		if !within(n, -farthest, farthest) {
			return false
		}
	}
	return true
}

func goodFloatsAsSaid(l []impl.Aside) bool {
	for _, a := range l {
		if !within(a.Side, 1, 2) || !within(a.W, 0, 1000000) || !within(a.H, 0, 1000000) || !nearAsSaid(a.X, a.Y) {
			return false
		}
	}
	return len(l) <= 40
}

// heldAsSaid tells whether a float is at the stretch.
func heldAsSaid(a impl.Aside, y int, high int) bool {
	if high == 0 {
		high = 1
	}
	return a.Y < y+high && a.Y+a.H > y
}

func anyAsSaid(l []impl.Aside, y int, high int) (bool, bool) {
	if !goodFloatsAsSaid(l) || !nearAsSaid(y) || !within(high, 0, 1000000) {
		return false, false
	}
	return anyHeld(l, y, high), true
}

func anyHeld(l []impl.Aside, y int, high int) bool {
	for _, a := range l {
		if heldAsSaid(a, y, high) {
			return true
		}
	}
	return false
}

func roomAsSaid(l []impl.Aside, y int, high int, left int, right int) (int, int, bool) {
	if !goodFloatsAsSaid(l) || !nearAsSaid(y, left, right) || !within(high, 0, 1000000) {
		return 0, 0, false
	}
	left, right = roomLeft(l, y, high, left, right)
	return left, right, true
}

func roomLeft(l []impl.Aside, y int, high int, left int, right int) (int, int) {
	for _, a := range l {
		switch {
		case !heldAsSaid(a, y, high):
		case a.Side == impl.SideLeft && a.X+a.W > left:
			left = a.X + a.W
		case a.Side == impl.SideRight && a.X < right:
			right = a.X
		}
	}
	return left, right
}

// bottomsAsSaid: all bottoms behind y, rising.
func bottomsAsSaid(l []impl.Aside, y int) []int {
	var bottoms []int
	for _, a := range l {
		if a.Y+a.H > y {
			bottoms = append(bottoms, a.Y+a.H)
		}
	}
	slices.Sort(bottoms)
	return slices.Compact(bottoms)
}

func bottomAsSaid(l []impl.Aside, y int) (int, bool) {
	if !goodFloatsAsSaid(l) || !nearAsSaid(y) {
		return 0, false
	}
	bottoms := bottomsAsSaid(l, y)
	if len(bottoms) == 0 {
		return 0, false
	}
	return bottoms[0], true
}

func beginAsSaid(l []impl.Aside, y int) int {
	for _, a := range l {
		if a.Y > y {
			y = a.Y
		}
	}
	return y
}

func placeAsSaid(l []impl.Aside, side int, wide int, high int, y int, left int, right int) (impl.Aside, bool) {
	good := goodFloatsAsSaid(l) && len(l) < 40 && (side == impl.SideLeft || side == impl.SideRight)
	if !good || !within(wide, 0, 1000000) || !within(high, 0, 1000000) || !nearAsSaid(y, left, right) {
		return impl.Aside{}, false
	}
	a := placeTaken(l, side, wide, high, y, left, right)
	// What is answered is a float: where it is none that is good it is beyond a limit.
	if !nearAsSaid(a.X, a.Y) {
		return impl.Aside{}, false
	}
	return a, true
}

// placeTaken tells a float's place, however far it is.
func placeTaken(l []impl.Aside, side int, wide int, high int, y int, left int, right int) impl.Aside {
	y = beginAsSaid(l, y)
	for _, y := range append([]int{y}, bottomsAsSaid(l, y)...) {
		from, to := roomLeft(l, y, high, left, right)
		if anyHeld(l, y, high) && wide > to-from {
			continue
		}
		x := from
		if side == impl.SideRight {
			x = to - wide
		}
		return impl.Aside{Side: side, X: x, Y: y, W: wide, H: high}
	}
	panic("no place below all floats")
}

func clearAsSaid(l []impl.Aside, clear int, y int) (int, bool) {
	if !goodFloatsAsSaid(l) || !within(clear, 0, 3) || !nearAsSaid(y) {
		return 0, false
	}
	return clearTaken(l, clear, y), true
}

func clearTaken(l []impl.Aside, clear int, y int) int {
	for _, a := range l {
		if (clear == a.Side || clear == impl.SideBoth) && a.Y+a.H > y {
			y = a.Y + a.H
		}
	}
	return y
}

// inCommon tells whether two stretches, each from a number on, have more than a point in common.
func inCommon(a int, long int, b int, wide int) bool {
	return long > 0 && wide > 0 && a < b+wide && b < a+long
}

func apartAsSaid(l []impl.Aside) (bool, bool) {
	if !goodFloatsAsSaid(l) {
		return false, false
	}
	for i, a := range l {
		for _, b := range l[i+1:] {
			if inCommon(a.X, a.W, b.X, b.W) && inCommon(a.Y, a.H, b.Y, b.H) {
				return false, true
			}
		}
	}
	return true, true
}

// checkStretch holds what is told of a stretch against the document.
func checkStretch(t *testing.T, l []impl.Aside, y int, high int, left int, right int) {
	t.Helper()
	any, anyOk := anyAsSaid(l, y, high)
	if got, ok := impl.AnyAt(l, y, high); got != any || ok != anyOk {
		t.Fatalf("AnyAt(%v, %d, %d) = %v, %v; want %v, %v", l, y, high, got, ok, any, anyOk)
	}
	from, to, roomOk := roomAsSaid(l, y, high, left, right)
	if gotFrom, gotTo, ok := impl.RoomAt(l, y, high, left, right); gotFrom != from || gotTo != to || ok != roomOk {
		t.Fatalf("RoomAt(%v, %d, %d, %d, %d) = %d, %d, %v; want %d, %d, %v", l, y, high, left, right, gotFrom, gotTo, ok, from, to, roomOk)
	}
}

// checkList holds what is told of the floats and a y against the document.
func checkList(t *testing.T, l []impl.Aside, y int) {
	t.Helper()
	if good := goodFloatsAsSaid(l); impl.GoodFloats(l) != good {
		t.Fatalf("GoodFloats(%v) = %v", l, !good)
	}
	apart, apartOk := apartAsSaid(l)
	if got, ok := impl.ApartFloats(l); got != apart || ok != apartOk {
		t.Fatalf("ApartFloats(%v) = %v, %v; want %v, %v", l, got, ok, apart, apartOk)
	}
	bottom, bottomOk := bottomAsSaid(l, y)
	if got, ok := impl.NextBottom(l, y); got != bottom || ok != bottomOk {
		t.Fatalf("NextBottom(%v, %d) = %d, %v; want %d, %v", l, y, got, ok, bottom, bottomOk)
	}
	for clear := -1; clear <= 4; clear++ {
		checkClear(t, l, clear, y)
	}
}

func checkClear(t *testing.T, l []impl.Aside, clear int, y int) {
	t.Helper()
	want, wantOk := clearAsSaid(l, clear, y)
	if got, ok := impl.ClearTo(l, clear, y); got != want || ok != wantOk {
		t.Fatalf("ClearTo(%v, %d, %d) = %d, %v; want %d, %v", l, clear, y, got, ok, want, wantOk)
	}
}

// checkPlace holds a placed float against the document and against promise 7.
func checkPlace(t *testing.T, l []impl.Aside, side int, wide int, high int, y int, left int, right int) impl.Aside {
	t.Helper()
	want, wantOk := placeAsSaid(l, side, wide, high, y, left, right)
	got, ok := impl.PlaceFloat(l, side, wide, high, y, left, right)
	if got != want || ok != wantOk {
		t.Fatalf("PlaceFloat(%v, %d, %d, %d, %d, %d, %d) = %v, %v; want %v, %v", l, side, wide, high, y, left, right, got, ok, want, wantOk)
	}
	if ok {
		checkPlaced(t, l, got, y)
	}
	return got
}

// checkPlaced: promise 7, and that no float is above an earlier one.
func checkPlaced(t *testing.T, l []impl.Aside, a impl.Aside, y int) {
	t.Helper()
	all := append(slices.Clone(l), a)
	apart, _ := impl.ApartFloats(l)
	if still, ok := impl.ApartFloats(all); still != apart || !ok {
		t.Fatalf("%v, placed among %v: apart is %v, %v; want %v, true", a, l, still, ok, apart)
	}
	if a.Y < y {
		t.Fatalf("%v, placed among %v, is above %d", a, l, y)
	}
	for _, b := range l {
		if a.Y < b.Y {
			t.Fatalf("%v is above %v, an earlier one", a, b)
		}
	}
}

func many(n int, a impl.Aside) []impl.Aside {
	return slices.Repeat([]impl.Aside{a}, n)
}

func TestGoodFloats(t *testing.T) {
	cases := []struct {
		name string
		l    []impl.Aside
		want bool
	}{
		{"none", nil, true},
		{"an empty list", []impl.Aside{}, true},
		{"one", []impl.Aside{atLeft(1, 2, 3, 4)}, true},
		{"the same twice", []impl.Aside{atLeft(1, 2, 3, 4), atLeft(1, 2, 3, 4)}, true},
		{"without size", []impl.Aside{atRight(0, 0, 0, 0)}, true},
		{"as great as may be", []impl.Aside{atLeft(farthest, farthest, 1000000, 1000000)}, true},
		{"as far back as may be", []impl.Aside{atRight(-farthest, -farthest, 1000000, 1000000)}, true},
		{"as many as may be", many(40, atLeft(1, 2, 3, 4)), true},
		{"one too many", many(41, atLeft(1, 2, 3, 4)), false},
		{"no side", []impl.Aside{{W: 3, H: 4}}, false},
		{"both sides", []impl.Aside{{Side: impl.SideBoth, W: 3, H: 4}}, false},
		{"a side below 0", []impl.Aside{{Side: -1, W: 3, H: 4}}, false},
		{"X too great", []impl.Aside{atLeft(farthest+1, 0, 0, 0)}, false},
		{"X too little", []impl.Aside{atLeft(-farthest-1, 0, 0, 0)}, false},
		{"Y too great", []impl.Aside{atLeft(0, farthest+1, 0, 0)}, false},
		{"Y too little", []impl.Aside{atLeft(0, -farthest-1, 0, 0)}, false},
		{"W too great", []impl.Aside{atLeft(0, 0, 1000001, 0)}, false},
		{"W below 0", []impl.Aside{atLeft(0, 0, -1, 0)}, false},
		{"H too great", []impl.Aside{atLeft(0, 0, 0, 1000001)}, false},
		{"H below 0", []impl.Aside{atLeft(0, 0, 0, -1)}, false},
		{"the last one", []impl.Aside{atLeft(1, 2, 3, 4), atRight(1, 2, 3, 4), {}}, false},
		{"the first one", []impl.Aside{{}, atLeft(1, 2, 3, 4)}, false},
	}
	for _, c := range cases {
		if got := impl.GoodFloats(c.l); got != c.want {
			t.Errorf("%s: GoodFloats(%v) = %v", c.name, c.l, got)
		}
		checkList(t, c.l, 0)
		checkStretch(t, c.l, 0, 5, 0, 100)
		checkPlace(t, c.l, impl.SideLeft, 10, 10, 0, 0, 100)
	}
}

func TestRoomAt(t *testing.T) {
	l := []impl.Aside{atLeft(0, 10, 30, 20), atLeft(30, 12, 20, 3), atRight(80, 20, 20, 10), atRight(70, 22, 10, 4)}
	flat := []impl.Aside{atLeft(0, 10, 30, 0)}
	cases := []struct {
		name     string
		l        []impl.Aside
		y, high  int
		from, to int
		any      bool
	}{
		{"no floats", nil, 0, 10, 0, 100, false},
		{"above all", l, 0, 10, 0, 100, false},
		{"just at the first", l, 0, 11, 30, 100, true},
		{"above the second", l, 10, 2, 30, 100, true},
		{"at the second", l, 10, 3, 50, 100, true},
		{"behind the second", l, 15, 5, 30, 100, true},
		{"at one on the right", l, 15, 6, 30, 80, true},
		{"at both on the right", l, 15, 8, 30, 70, true},
		{"at all", l, 0, 100, 50, 70, true},
		{"at the last bit", l, 29, 1, 30, 80, true},
		{"behind all", l, 30, 100, 0, 100, false},
		{"a stretch without height above", l, 9, 0, 0, 100, false},
		{"a stretch without height at a top", l, 10, 0, 30, 100, true},
		{"a stretch without height at the last bit", l, 29, 0, 30, 80, true},
		{"a stretch without height behind", l, 30, 0, 0, 100, false},
		{"a flat one within", flat, 9, 2, 30, 100, true},
		{"a flat one at the top", flat, 10, 2, 0, 100, false},
		{"a flat one at the end", flat, 8, 2, 0, 100, false},
		{"a flat one at a stretch without height", flat, 10, 0, 0, 100, false},
		{"one without width", []impl.Aside{atLeft(20, 0, 0, 10)}, 0, 5, 20, 100, true},
		{"a left one that ends further left", []impl.Aside{atLeft(-30, 0, 20, 10)}, 0, 5, 0, 100, true},
		{"a left one that ends there", []impl.Aside{atLeft(-30, 0, 30, 10)}, 0, 5, 0, 100, true},
		{"a right one that begins further right", []impl.Aside{atRight(130, 0, 20, 10)}, 0, 5, 0, 100, true},
		{"a right one that begins further left", []impl.Aside{atRight(-5, 0, 20, 10)}, 0, 5, 0, -5, true},
		{"a left one that ends further right", []impl.Aside{atLeft(90, 0, 20, 10)}, 0, 5, 110, 100, true},
		{"a left one ends left of one behind it", []impl.Aside{atLeft(0, 0, 60, 10), atLeft(0, 0, 20, 10)}, 0, 5, 60, 100, true},
		{"a right one begins left of one behind it", []impl.Aside{atRight(40, 0, 60, 10), atRight(80, 0, 20, 10)}, 0, 5, 0, 40, true},
		{"a right one ahead of left ones", []impl.Aside{atRight(40, 0, 60, 10), atLeft(0, 0, 20, 10), atLeft(20, 0, 5, 10)}, 0, 5, 25, 40, true},
	}
	for _, c := range cases {
		if from, to, ok := impl.RoomAt(c.l, c.y, c.high, 0, 100); from != c.from || to != c.to || !ok {
			t.Errorf("%s: RoomAt = %d, %d, %v; want %d, %d, true", c.name, from, to, ok, c.from, c.to)
		}
		if any, ok := impl.AnyAt(c.l, c.y, c.high); any != c.any || !ok {
			t.Errorf("%s: AnyAt = %v, %v; want %v, true", c.name, any, ok, c.any)
		}
		checkStretch(t, c.l, c.y, c.high, 0, 100)
		checkStretch(t, c.l, c.y, c.high, 100, 0)
		checkStretch(t, c.l, c.y, c.high, 25, 75)
	}
}

func TestNextBottom(t *testing.T) {
	l := []impl.Aside{atLeft(0, 10, 30, 20), atRight(30, 12, 20, 3), atRight(80, 40, 20, 0), atLeft(70, -9, 10, 4)}
	cases := []struct {
		y    int
		want int
		ok   bool
	}{
		{-100, -5, true}, {-6, -5, true}, {-5, 15, true}, {14, 15, true}, {15, 30, true}, {29, 30, true}, {30, 40, true}, {39, 40, true}, {40, 0, false}, {1000, 0, false},
	}
	for _, c := range cases {
		if got, ok := impl.NextBottom(l, c.y); got != c.want || ok != c.ok {
			t.Errorf("NextBottom(%d) = %d, %v; want %d, %v", c.y, got, ok, c.want, c.ok)
		}
	}
	if got, ok := impl.NextBottom(nil, 0); got != 0 || ok {
		t.Errorf("NextBottom of none = %d, %v", got, ok)
	}
}

func TestPlaceFloat(t *testing.T) {
	left, right := impl.SideLeft, impl.SideRight
	one := []impl.Aside{atLeft(0, 5, 60, 20)}
	both := []impl.Aside{atLeft(0, 0, 60, 20), atRight(70, 0, 30, 50)}
	cases := []struct {
		name             string
		l                []impl.Aside
		side, wide, high int
		y                int
		x, at            int
	}{
		{"the first, left", nil, left, 60, 20, 5, 0, 5},
		{"the first, right", nil, right, 60, 20, 5, 40, 5},
		{"the first, too wide, left", nil, left, 160, 20, 5, 0, 5},
		{"the first, too wide, right", nil, right, 160, 20, 5, -60, 5},
		{"beside, as there is just room", one, left, 40, 10, 5, 60, 5},
		{"beside, right", one, right, 30, 10, 5, 70, 5},
		{"no room beside", one, left, 41, 10, 5, 0, 25},
		{"no room beside, right", one, right, 41, 10, 5, 59, 25},
		{"too wide goes behind", one, right, 141, 10, 5, -41, 25},
		{"not above an earlier one", one, left, 40, 2, 0, 60, 5},
		{"not above an earlier one, far above", one, right, 40, 2, -500, 60, 5},
		{"further down", one, left, 40, 10, 20, 60, 20},
		{"at the last bit", one, left, 41, 10, 24, 0, 25},
		{"behind", one, left, 41, 10, 25, 0, 25},
		{"far behind", one, left, 41, 10, 99, 0, 99},
		{"without width", both, left, 0, 10, 0, 60, 0},
		{"between both", both, left, 10, 10, 0, 60, 0},
		{"behind the left one", both, left, 11, 10, 0, 0, 20},
		{"behind the left one, right", both, right, 70, 10, 0, 0, 20},
		{"behind both", both, right, 71, 10, 0, 29, 50},
		{"without height", both, right, 71, 0, 0, 29, 50},
		{"without height between both", both, right, 10, 0, 0, 60, 0},
		{"the bottoms in turn", []impl.Aside{atLeft(0, 0, 40, 30), atLeft(40, 0, 40, 10), atRight(90, 0, 10, 20)}, left, 55, 9, 0, 40, 20},
		{"right of a left one that stands out", []impl.Aside{atLeft(90, 0, 40, 30)}, left, 0, 9, 0, 0, 30},
		{"a later one lower down", []impl.Aside{atLeft(0, 0, 40, 30), atLeft(40, 7, 40, 10)}, right, 20, 9, 0, 80, 7},
		{"a flat one leaves all behind it", []impl.Aside{atLeft(0, 5, 90, 0)}, left, 100, 9, 0, 0, 5},
		{"a flat one is above what is placed behind it", []impl.Aside{atLeft(0, 5, 90, 0)}, left, 100, 9, 4, 0, 5},
	}
	for _, c := range cases {
		want := impl.Aside{Side: c.side, X: c.x, Y: c.at, W: c.wide, H: c.high}
		if got, ok := impl.PlaceFloat(c.l, c.side, c.wide, c.high, c.y, 0, 100); got != want || !ok {
			t.Errorf("%s: PlaceFloat = %v, %v; want %v, true", c.name, got, ok, want)
		}
		checkPlace(t, c.l, c.side, c.wide, c.high, c.y, 0, 100)
		checkPlace(t, c.l, c.side, c.wide, c.high, c.y, 100, 0)
	}
}

// A right edge left of the left one leaves less than nothing, so no float stands beside another.
func TestPlaceFloatWithLessThanNoRoom(t *testing.T) {
	l := []impl.Aside{atLeft(50, 0, 10, 10)}
	want := impl.Aside{Side: impl.SideLeft, X: 60, Y: 10, H: 5}
	if got, ok := impl.PlaceFloat(l, impl.SideLeft, 0, 5, 0, 60, 59); got != want || !ok {
		t.Errorf("PlaceFloat = %v, %v; want %v, true", got, ok, want)
	}
	want = impl.Aside{Side: impl.SideLeft, X: 60, H: 5}
	if got, ok := impl.PlaceFloat(l, impl.SideLeft, 0, 5, 0, 60, 60); got != want || !ok {
		t.Errorf("PlaceFloat = %v, %v; want %v, true", got, ok, want)
	}
}

func TestClearTo(t *testing.T) {
	l := []impl.Aside{atLeft(0, 0, 10, 30), atRight(90, 0, 10, 50), atLeft(0, 30, 10, 5), atRight(90, 50, 10, 0)}
	cases := []struct {
		clear int
		y     int
		want  int
	}{
		{impl.SideLeft, 0, 35}, {impl.SideLeft, 35, 35}, {impl.SideLeft, 36, 36}, {impl.SideRight, 0, 50}, {impl.SideRight, 49, 50}, {impl.SideRight, 51, 51},
		{impl.SideBoth, -7, 50}, {impl.SideBoth, 77, 77}, {impl.SideNone, -7, -7}, {impl.SideNone, 7, 7},
	}
	for _, c := range cases {
		if got, ok := impl.ClearTo(l, c.clear, c.y); got != c.want || !ok {
			t.Errorf("ClearTo(%d, %d) = %d, %v; want %d, true", c.clear, c.y, got, ok, c.want)
		}
	}
	for _, clear := range []int{-1, 4, math.MinInt, math.MaxInt} {
		if got, ok := impl.ClearTo(l, clear, 7); got != 0 || ok {
			t.Errorf("ClearTo(%d, 7) = %d, %v; want 0, false", clear, got, ok)
		}
	}
	if got, ok := impl.ClearTo(nil, impl.SideBoth, -3); got != -3 || !ok {
		t.Errorf("ClearTo of none = %d, %v; want -3, true", got, ok)
	}
	above := []impl.Aside{atLeft(0, -90, 10, 30)}
	if got, ok := impl.ClearTo(above, impl.SideBoth, -70); got != -60 || !ok {
		t.Errorf("ClearTo above 0 = %d, %v; want -60, true", got, ok)
	}
}

func TestApartFloats(t *testing.T) {
	a := atLeft(10, 10, 20, 20)
	cases := []struct {
		name string
		l    []impl.Aside
		want bool
	}{
		{"none", nil, true},
		{"one", []impl.Aside{a}, true},
		{"the same twice", []impl.Aside{a, a}, false},
		{"beside", []impl.Aside{a, atRight(30, 10, 20, 20)}, true},
		{"beside, one over", []impl.Aside{a, atRight(29, 10, 20, 20)}, false},
		{"beside, on the left", []impl.Aside{a, atLeft(-10, 10, 20, 20)}, true},
		{"beside, on the left, one over", []impl.Aside{a, atLeft(-10, 10, 21, 20)}, false},
		{"below", []impl.Aside{a, atRight(10, 30, 20, 20)}, true},
		{"below, one over", []impl.Aside{a, atRight(10, 29, 20, 20)}, false},
		{"above", []impl.Aside{a, atLeft(10, 0, 20, 10)}, true},
		{"above, one over", []impl.Aside{a, atLeft(10, 0, 20, 11)}, false},
		{"at a corner", []impl.Aside{a, atLeft(30, 30, 5, 5)}, true},
		{"over a corner", []impl.Aside{a, atLeft(29, 29, 5, 5)}, false},
		{"within", []impl.Aside{a, atLeft(15, 15, 1, 1)}, false},
		{"around", []impl.Aside{atLeft(15, 15, 1, 1), a}, false},
		{"across", []impl.Aside{a, atRight(0, 15, 90, 1)}, false},
		{"a place without width within", []impl.Aside{a, atLeft(15, 15, 0, 5)}, true},
		{"a place without height within", []impl.Aside{a, atLeft(15, 15, 5, 0)}, true},
		{"a point within", []impl.Aside{atLeft(15, 15, 0, 0), a}, true},
		{"two of three", []impl.Aside{a, atLeft(100, 0, 5, 5), atRight(104, 4, 5, 5)}, false},
		{"the first and the last", []impl.Aside{a, atLeft(100, 0, 5, 5), atRight(11, 11, 5, 5)}, false},
		{"three", []impl.Aside{a, atLeft(100, 0, 5, 5), atRight(105, 4, 5, 5)}, true},
	}
	for _, c := range cases {
		if got, ok := impl.ApartFloats(c.l); got != c.want || !ok {
			t.Errorf("%s: ApartFloats(%v) = %v, %v; want %v, true", c.name, c.l, got, ok, c.want)
		}
	}
}

// Every way in which one float may stand to a stretch, and two to each other.
func TestFewFloatsEveryWay(t *testing.T) {
	var all []impl.Aside
	for side := 1; side <= 2; side++ {
		for at := range 3 * 3 * 3 * 3 {
			all = append(all, impl.Aside{Side: side, X: at % 3, Y: at / 3 % 3, W: at / 9 % 3, H: at / 27})
		}
	}
	for _, a := range all {
		for y := -1; y <= 5; y++ {
			checkList(t, []impl.Aside{a}, y)
			for high := range 4 {
				checkStretch(t, []impl.Aside{a}, y, high, 1, 3)
				for wide := range 4 {
					checkPlace(t, []impl.Aside{a}, 1, wide, high, y, 0, 3)
					checkPlace(t, []impl.Aside{a}, 2, wide, high, y, 0, 3)
				}
			}
		}
		for i, b := range all {
			l := []impl.Aside{a, b}
			checkList(t, l, i%5)
			checkStretch(t, l, i%4, i%3, 0, 4)
			checkPlace(t, l, 1+i%2, i%5, i%3, i%4, 0, 4)
		}
	}
}

// aside throws a float with all its numbers small, so that many meet; now and then it is far away.
func (d *dice) aside() impl.Aside {
	a := impl.Aside{Side: 1 + d.upTo(2), X: d.upTo(40) - 10, Y: d.upTo(40) - 10, W: d.upTo(20), H: d.upTo(20)}
	if d.upTo(50) == 0 {
		a.X, a.Y = farthest-d.upTo(3), farthest-d.upTo(3)
	}
	if d.upTo(50) == 0 {
		a.X, a.Y = d.upTo(3)-farthest, d.upTo(3)-farthest
	}
	if d.upTo(30) == 0 {
		a.W, a.H = 1000000-d.upTo(20), 1000000-d.upTo(20)
	}
	return a
}

func (d *dice) asides(most int) []impl.Aside {
	var l []impl.Aside
	for range d.upTo(most + 1) {
		l = append(l, d.aside())
	}
	return l
}

// Floats that meet each other, and stand above earlier ones, have the answers that the document tells too.
func TestThrownFloats(t *testing.T) {
	d := dice(7)
	for range 30000 {
		l := d.asides(6)
		y, high := d.upTo(60)-20, d.upTo(20)
		left, right := d.upTo(20)-10, d.upTo(40)
		checkList(t, l, y)
		checkStretch(t, l, y, high, left, right)
		checkPlace(t, l, 1+d.upTo(2), d.upTo(40), high, y, left, right)
	}
	for range 300 {
		l := d.asides(41)
		checkList(t, l, d.upTo(40))
		checkStretch(t, l, d.upTo(40), d.upTo(20), 0, 40)
		checkPlace(t, l, 1+d.upTo(2), d.upTo(40), d.upTo(20), d.upTo(40), 0, 40)
	}
}

// Promise 7: floats that are placed one behind the other, as many as there may be, are all apart, and none is above an earlier one.
func TestPlacedFloatsAreApart(t *testing.T) {
	d := dice(70)
	beside := 0
	for range 400 {
		var l []impl.Aside
		right, y := 20+d.upTo(60), 0
		for len(l) < 40 {
			y += d.upTo(3)
			a := checkPlace(t, l, 1+d.upTo(2), d.upTo(30), d.upTo(20), y, d.upTo(5), right-d.upTo(5))
			if a.Side == impl.SideNone {
				t.Fatalf("none placed among %v", l)
			}
			l = append(l, a)
			if any, _ := impl.AnyAt(l[:len(l)-1], a.Y, a.H); any {
				beside++
			}
		}
		if apart, ok := impl.ApartFloats(l); !apart || !ok {
			t.Fatalf("%v: not apart", l)
		}
		checkList(t, l, y)
		checkStretch(t, l, y, 10, 0, right)
		checkPlace(t, l, 1, 5, 5, y, 0, right)
	}
	if beside < 1000 {
		t.Errorf("only %d stand beside others", beside)
	}
}

// The limits may be met exactly; a place beyond them is none.
func TestPlaceFloatAtTheLimits(t *testing.T) {
	left, right := impl.SideLeft, impl.SideRight
	cases := []struct {
		name               string
		l                  []impl.Aside
		side, wide, high   int
		y, from, to, x, at int
		ok                 bool
	}{
		{"as far down as may be", nil, left, 5, 1000000, farthest, 0, 100, 0, farthest, true},
		{"as far up as may be", nil, left, 5, 5, -farthest, 0, 100, 0, -farthest, true},
		{"as far left as may be", nil, left, 1000000, 5, 0, -farthest, -farthest, -farthest, 0, true},
		{"as far right as may be", nil, left, 1000000, 5, 0, farthest, farthest, farthest, 0, true},
		{"further left than may be", nil, right, 1, 5, 0, -farthest, -farthest, 0, 0, false},
		{"on the right as far left as may be", nil, right, 1000000, 5, 0, 0, 1000000 - farthest, -farthest, 0, true},
		{"on the right further left", nil, right, 1000000, 5, 0, 0, 999999 - farthest, 0, 0, false},
		{"behind one that ends at the limit", []impl.Aside{atLeft(0, farthest-10, 60, 10)}, left, 50, 5, 0, 0, 100, 0, farthest, true},
		{"behind one that ends beyond the limit", []impl.Aside{atLeft(0, farthest-10, 60, 11)}, left, 50, 5, 0, 0, 100, 0, 0, false},
		{"beside one that ends beyond the limit", []impl.Aside{atLeft(0, farthest, 60, 1000000)}, left, 40, 5, 0, 0, 100, 60, farthest, true},
	}
	for _, c := range cases {
		want := impl.Aside{}
		if c.ok {
			want = impl.Aside{Side: c.side, X: c.x, Y: c.at, W: c.wide, H: c.high}
		}
		if got, ok := impl.PlaceFloat(c.l, c.side, c.wide, c.high, c.y, c.from, c.to); got != want || ok != c.ok {
			t.Errorf("%s: PlaceFloat = %v, %v; want %v, %v", c.name, got, ok, want, c.ok)
		}
		checkPlace(t, c.l, c.side, c.wide, c.high, c.y, c.from, c.to)
	}
	full := many(39, atLeft(0, 0, 1, 1))
	if _, ok := impl.PlaceFloat(full, left, 5, 5, 0, 0, 100); !ok {
		t.Error("the last float that there may be: none")
	}
	if a, ok := impl.PlaceFloat(append(full, full[0]), left, 5, 5, 0, 0, 100); a != (impl.Aside{}) || ok {
		t.Errorf("one float too many: %v, %v", a, ok)
	}
}

// Sums of a float have no limit of their own: they may be beyond what a place may be.
func TestSumsBeyondPlaces(t *testing.T) {
	l := []impl.Aside{atLeft(farthest, farthest, 1000000, 1000000)}
	if from, to, ok := impl.RoomAt(l, farthest, 5, -farthest, farthest); from != 101000000 || to != farthest || !ok {
		t.Errorf("RoomAt = %d, %d, %v", from, to, ok)
	}
	if y, ok := impl.NextBottom(l, farthest); y != 101000000 || !ok {
		t.Errorf("NextBottom = %d, %v", y, ok)
	}
	if y, ok := impl.ClearTo(l, impl.SideLeft, 0); y != 101000000 || !ok {
		t.Errorf("ClearTo = %d, %v", y, ok)
	}
}

// Promise 11: any numbers, the limits and those beside them among them.
func TestFloatsAnswerAtAnyNumbers(t *testing.T) {
	numbers := append([]int{-farthest - 1, -farthest, 1 - farthest, farthest - 1, farthest, farthest + 1}, farInts...)
	l := []impl.Aside{atLeft(0, 0, 60, 20), atRight(70, 0, 30, 50)}
	for _, n := range numbers {
		checkList(t, l, n)
		checkList(t, nil, n)
		checkClear(t, l, n, 5)
		checkStretch(t, l, n, 5, 0, 100)
		checkStretch(t, l, 5, n, 0, 100)
		checkStretch(t, l, 5, 5, n, 100)
		checkStretch(t, l, 5, 5, 0, n)
		checkPlace(t, l, n, 20, 20, 0, 0, 100)
		for _, side := range []int{1, 2} {
			checkPlace(t, l, side, n, 20, 0, 0, 100)
			checkPlace(t, l, side, 20, n, 0, 0, 100)
			checkPlace(t, l, side, 20, 20, n, 0, 100)
			checkPlace(t, l, side, 20, 20, 0, n, 100)
			checkPlace(t, l, side, 20, 20, 0, 0, n)
			checkPlace(t, nil, side, n, n, n, n, n)
		}
		for _, wrong := range []impl.Aside{{Side: n, W: 5, H: 5}, atLeft(n, 0, 5, 5), atRight(0, n, 5, 5), atLeft(0, 0, n, 5), atRight(0, 0, 5, n), {Side: n, X: n, Y: n, W: n, H: n}} {
			for _, l := range [][]impl.Aside{{wrong}, {atLeft(0, 0, 10, 10), wrong}, {wrong, atRight(90, 0, 10, 10)}} {
				checkList(t, l, 3)
				checkStretch(t, l, 3, 3, 0, 100)
				checkPlace(t, l, 1, 20, 20, 0, 0, 100)
				checkPlace(t, l, 2, 20, 20, 0, 0, 100)
			}
		}
	}
}

// Promise 11: nothing is written into the floats, nor read or written behind their end.
func TestFloatsAreNotWritten(t *testing.T) {
	d := dice(77)
	for range 2000 {
		l := d.asides(8)
		behind := []impl.Aside{atLeft(35, 55, 50, 500), {Side: 9, H: -1}, atRight(-50, 50, 5, 500)}
		memory := append(slices.Clone(l), behind...)
		before := slices.Clone(memory)
		piece := memory[:len(l)]
		checkList(t, piece, d.upTo(40))
		checkStretch(t, piece, d.upTo(40), d.upTo(20), 0, 40)
		checkPlace(t, piece, 1+d.upTo(2), d.upTo(40), d.upTo(20), d.upTo(40), 0, 40)
		if !slices.Equal(memory, before) {
			t.Fatalf("written: %v; it was %v", memory, before)
		}
	}
}
