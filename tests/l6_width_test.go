package tests

import (
	"testing"

	"loop.example/g00164/impl"
)

var autoSize = impl.Size{Auto: true}

// styleOf changes a plain style.
func styleOf(change func(s *impl.Style)) impl.Style {
	s := plainAsSaid()
	change(&s)
	return s
}

// acrossStyle: a style with the things that chapter 6 reads.
func acrossStyle(left impl.Size, wide impl.Size, right impl.Size) impl.Style {
	s := plainAsSaid()
	s.MarginLeft, s.Width, s.MarginRight = left, wide, right
	return s
}

func sizeInAsSaid(s impl.Size, base int) (int, bool) {
	if s.Auto || !goodSizeAsSaid("", s) || base < 0 || base > 1000000 {
		return 0, false
	}
	n := s.N
	if s.Percent {
		n = int(floorOf(base, s.N, 10000).Int64())
	}
	if n < -1000000 || n > 1000000 {
		return 0, false
	}
	return n, true
}

// sizesAsSaid tells whether the left margin, the width and the right margin are as the chapter wants them.
func sizesAsSaid(s impl.Style, around int) bool {
	good := goodStyleAsSaid(s) && around >= 0 && around <= 1000000
	for _, size := range []impl.Size{s.MarginLeft, s.Width, s.MarginRight} {
		if !size.Auto {
			_, ok := sizeInAsSaid(size, around)
			good = good && ok
		}
	}
	return good
}

// sizeTaken tells a size as it comes, with no limit; of one that is Auto 0.
func sizeTaken(s impl.Size, around int) int {
	if s.Percent {
		return int(floorOf(around, s.N, 10000).Int64())
	}
	return s.N
}

func clampAsSaid(s impl.Style, n int) int {
	if s.MaxWidth >= 0 && n > s.MaxWidth {
		n = s.MaxWidth
	}
	if n < s.MinWidth {
		n = s.MinWidth
	}
	return n
}

func blockAsSaid(s impl.Style, around int) (impl.Across, bool) {
	if !sizesAsSaid(s, around) {
		return impl.Across{}, false
	}
	return blockTaken(s, around), true
}

// blockTaken goes along the chapter's words, case by case, and sets no limit.
func blockTaken(s impl.Style, around int) impl.Across {
	left, wide, right := sizeTaken(s.MarginLeft, around), sizeTaken(s.Width, around), sizeTaken(s.MarginRight, around)
	edge := s.Border + s.Border + s.Padding + s.Padding
	if s.Width.Auto {
		wide = around - edge - left - right
		if wide < 0 {
			wide = 0
			right = around - edge - left
		}
		if clampAsSaid(s, wide) == wide {
			return impl.Across{Left: left, Wide: wide, Right: right}
		}
		right = sizeTaken(s.MarginRight, around)
	}
	wide = clampAsSaid(s, wide)
	rest := around - edge - wide
	switch {
	case s.MarginLeft.Auto && s.MarginRight.Auto && rest < 0:
		left, right = 0, rest
	case s.MarginLeft.Auto && s.MarginRight.Auto:
		left = int(floorOf(rest, 1, 2).Int64())
		right = rest - left
	case s.MarginLeft.Auto && rest-right >= 0:
		left = rest - right
	case s.MarginLeft.Auto:
		left, right = 0, rest
	case s.MarginRight.Auto && rest-left >= 0:
		right = rest - left
	default:
		right = rest - left
	}
	return impl.Across{Left: left, Wide: wide, Right: right}
}

func floatAsSaid(s impl.Style, around int, narrow int, widest int) (impl.Across, bool) {
	if !sizesAsSaid(s, around) || narrow < 0 || narrow > 1000000 || widest < 0 || widest > 1000000 {
		return impl.Across{}, false
	}
	return floatTaken(s, around, narrow, widest), true
}

func floatTaken(s impl.Style, around int, narrow int, widest int) impl.Across {
	left, wide, right := sizeTaken(s.MarginLeft, around), sizeTaken(s.Width, around), sizeTaken(s.MarginRight, around)
	if s.Width.Auto {
		wide = around - s.Border - s.Border - s.Padding - s.Padding - left - right
		if wide < narrow {
			wide = narrow
		}
		if wide > widest {
			wide = widest
		}
	}
	return impl.Across{Left: left, Wide: clampAsSaid(s, wide), Right: right}
}

func restAsSaid(s impl.Style, around int, a impl.Across) (int, bool) {
	good := goodStyleAsSaid(s) && around >= 0 && around <= 1000000
	for _, n := range []int{a.Left, a.Wide, a.Right} {
		good = good && n >= -1000000 && n <= 1000000
	}
	if !good {
		return 0, false
	}
	return around - s.Border - s.Border - s.Padding - s.Padding - a.Left - a.Wide - a.Right, true
}

// checkBlock holds a block against the document and, by promise 6, against what is around.
func checkBlock(t *testing.T, s impl.Style, around int) {
	t.Helper()
	want, wantOk := blockAsSaid(s, around)
	a, ok := impl.BlockAcross(s, around)
	if a != want || ok != wantOk {
		t.Fatalf("BlockAcross(%+v, %d) = %+v, %v; want %+v, %v", s, around, a, ok, want, wantOk)
	}
	if !ok {
		return
	}
	if all := a.Left + s.Border + s.Padding + a.Wide + s.Padding + s.Border + a.Right; all != around {
		t.Fatalf("BlockAcross(%+v, %d) = %+v: that is %d together", s, around, a, all)
	}
	rest, restOk := impl.RestOf(s, around, a)
	lengths := impl.GoodLength(a.Left) && impl.GoodLength(a.Wide) && impl.GoodLength(a.Right)
	if rest != 0 || restOk != lengths {
		t.Fatalf("RestOf(%+v, %d, %+v) = %d, %v; want 0, %v", s, around, a, rest, restOk, lengths)
	}
}

func checkFloat(t *testing.T, s impl.Style, around int, narrow int, widest int) {
	t.Helper()
	want, wantOk := floatAsSaid(s, around, narrow, widest)
	if a, ok := impl.FloatAcross(s, around, narrow, widest); a != want || ok != wantOk {
		t.Fatalf("FloatAcross(%+v, %d, %d, %d) = %+v, %v; want %+v, %v", s, around, narrow, widest, a, ok, want, wantOk)
	}
}

func checkRest(t *testing.T, s impl.Style, around int, a impl.Across) {
	t.Helper()
	want, wantOk := restAsSaid(s, around, a)
	if n, ok := impl.RestOf(s, around, a); n != want || ok != wantOk {
		t.Fatalf("RestOf(%+v, %d, %+v) = %d, %v; want %d, %v", s, around, a, n, ok, want, wantOk)
	}
}

func TestSizeIn(t *testing.T) {
	cases := []struct {
		s    impl.Size
		base int
		want int
		ok   bool
	}{
		{lengthOf(7), 0, 7, true},
		{lengthOf(0), 640, 0, true},
		{lengthOf(-7), 640, -7, true},
		{lengthOf(1000000), 5, 1000000, true},
		{lengthOf(-1000000), 1000000, -1000000, true},
		{lengthOf(1000001), 5, 0, false},
		{lengthOf(-1000001), 5, 0, false},
		{percentOf(5000), 640, 320, true},
		{percentOf(5000), 641, 320, true},
		{percentOf(-5000), 641, -321, true},
		{percentOf(-5000), 0, 0, true},
		{percentOf(1), 9999, 0, true},
		{percentOf(-1), 1, -1, true},
		{percentOf(10000), 1000000, 1000000, true},
		{percentOf(100000), 100000, 1000000, true},
		{percentOf(-100000), 100000, -1000000, true},
		{percentOf(100000), 100001, 0, false},
		{percentOf(-100000), 100001, 0, false},
		{percentOf(10001), 1000000, 0, false},
		{percentOf(100001), 5, 0, false},
		{percentOf(-100001), 5, 0, false},
		{percentOf(100001), 0, 0, false},
		{autoSize, 640, 0, false},
		{impl.Size{Auto: true, N: 7}, 640, 0, false},
		{impl.Size{Auto: true, Percent: true}, 640, 0, false},
		{lengthOf(7), -1, 0, false},
		{lengthOf(7), 1000001, 0, false},
		{percentOf(5000), -1, 0, false},
		{percentOf(0), 1000001, 0, false},
	}
	for _, c := range cases {
		if got, ok := impl.SizeIn(c.s, c.base); got != c.want || ok != c.ok {
			t.Errorf("SizeIn(%+v, %d) = %d, %v; want %d, %v", c.s, c.base, got, ok, c.want, c.ok)
		}
	}
}

func TestSizeInOfEverySize(t *testing.T) {
	for _, s := range sizesToTry() {
		for _, base := range farInts {
			want, wantOk := sizeInAsSaid(s, base)
			if got, ok := impl.SizeIn(s, base); got != want || ok != wantOk {
				t.Errorf("SizeIn(%+v, %d) = %d, %v; want %d, %v", s, base, got, ok, want, wantOk)
			}
		}
	}
}

func TestBlockAcross(t *testing.T) {
	edged := func(s impl.Style, border int, padding int) impl.Style {
		s.Border, s.Padding = border, padding
		return s
	}
	cut := func(s impl.Style, least int, most int) impl.Style {
		s.MinWidth, s.MaxWidth = least, most
		return s
	}
	none := lengthOf(0)
	cases := []struct {
		name   string
		s      impl.Style
		around int
		want   impl.Across
	}{
		{"plain", plainAsSaid(), 1000, impl.Across{Wide: 1000}},
		{"nothing around", plainAsSaid(), 0, impl.Across{}},
		{"all around", plainAsSaid(), 1000000, impl.Across{Wide: 1000000}},
		{"edges", edged(plainAsSaid(), 3, 10), 1000, impl.Across{Wide: 974}},
		{"edges and margins", edged(acrossStyle(lengthOf(5), autoSize, lengthOf(7)), 3, 10), 1000, impl.Across{Left: 5, Wide: 962, Right: 7}},
		{"margins below 0", acrossStyle(lengthOf(-5), autoSize, lengthOf(-7)), 1000, impl.Across{Left: -5, Wide: 1012, Right: -7}},
		{"percents", acrossStyle(percentOf(1000), autoSize, percentOf(-1000)), 1005, impl.Across{Left: 100, Wide: 1006, Right: -101}},
		{"auto margins beside an auto width", acrossStyle(autoSize, autoSize, autoSize), 1000, impl.Across{Wide: 1000}},
		{"an auto margin beside an auto width", acrossStyle(autoSize, autoSize, lengthOf(7)), 1000, impl.Across{Wide: 993, Right: 7}},
		{"just nothing left", acrossStyle(lengthOf(600), autoSize, lengthOf(400)), 1000, impl.Across{Left: 600, Right: 400}},
		{"too little left", acrossStyle(lengthOf(600), autoSize, lengthOf(401)), 1000, impl.Across{Left: 600, Right: 400}},
		{"less than nothing left", acrossStyle(lengthOf(1600), autoSize, lengthOf(7)), 1000, impl.Across{Left: 1600, Right: -600}},
		{"edges wider than what is around", edged(plainAsSaid(), 300, 300), 1000, impl.Across{Right: -200}},
		{"an auto left one beside too little", edged(acrossStyle(autoSize, autoSize, lengthOf(9)), 500, 0), 1000, impl.Across{}},

		{"a width", acrossStyle(none, lengthOf(600), none), 1000, impl.Across{Wide: 600, Right: 400}},
		{"a width and margins", acrossStyle(lengthOf(50), lengthOf(600), lengthOf(20)), 1000, impl.Across{Left: 50, Wide: 600, Right: 350}},
		{"a width that is too great", acrossStyle(lengthOf(50), lengthOf(1600), lengthOf(20)), 1000, impl.Across{Left: 50, Wide: 1600, Right: -650}},
		{"a percent", acrossStyle(none, percentOf(3333), none), 1000, impl.Across{Wide: 333, Right: 667}},
		{"in the middle", acrossStyle(autoSize, lengthOf(600), autoSize), 1000, impl.Across{Left: 200, Wide: 600, Right: 200}},
		{"in the middle, one over", acrossStyle(autoSize, lengthOf(600), autoSize), 1001, impl.Across{Left: 200, Wide: 600, Right: 201}},
		{"in the middle, no rest", acrossStyle(autoSize, lengthOf(1000), autoSize), 1000, impl.Across{Wide: 1000}},
		{"in the middle, one too many", acrossStyle(autoSize, lengthOf(1001), autoSize), 1000, impl.Across{Wide: 1001, Right: -1}},
		{"in the middle, many too many", acrossStyle(autoSize, lengthOf(1600), autoSize), 1000, impl.Across{Wide: 1600, Right: -600}},
		{"auto on the left", acrossStyle(autoSize, lengthOf(600), lengthOf(100)), 1000, impl.Across{Left: 300, Wide: 600, Right: 100}},
		{"auto on the left, none left", acrossStyle(autoSize, lengthOf(600), lengthOf(400)), 1000, impl.Across{Wide: 600, Right: 400}},
		{"auto on the left, too little", acrossStyle(autoSize, lengthOf(600), lengthOf(401)), 1000, impl.Across{Wide: 600, Right: 400}},
		{"auto on the left, far too little", acrossStyle(autoSize, lengthOf(600), lengthOf(100)), 500, impl.Across{Wide: 600, Right: -100}},
		{"auto on the left of less than nothing", acrossStyle(autoSize, lengthOf(600), lengthOf(-300)), 500, impl.Across{Left: 200, Wide: 600, Right: -300}},
		{"auto on the right", acrossStyle(lengthOf(100), lengthOf(600), autoSize), 1000, impl.Across{Left: 100, Wide: 600, Right: 300}},
		{"auto on the right, too little", acrossStyle(lengthOf(401), lengthOf(600), autoSize), 1000, impl.Across{Left: 401, Wide: 600, Right: -1}},
		{"auto on the right of less than nothing", acrossStyle(lengthOf(-100), lengthOf(600), autoSize), 1000, impl.Across{Left: -100, Wide: 600, Right: 500}},
		{"auto beside edges", edged(acrossStyle(autoSize, lengthOf(600), autoSize), 3, 10), 1000, impl.Across{Left: 187, Wide: 600, Right: 187}},
		{"auto beside a percent", acrossStyle(autoSize, percentOf(5000), percentOf(1000)), 1000, impl.Across{Left: 400, Wide: 500, Right: 100}},

		{"an auto width that is cut", cut(acrossStyle(autoSize, autoSize, autoSize), 0, 600), 1000, impl.Across{Left: 200, Wide: 600, Right: 200}},
		{"an auto width at its most", cut(acrossStyle(autoSize, autoSize, autoSize), 0, 1000), 1000, impl.Across{Wide: 1000}},
		{"a most of 0", cut(acrossStyle(autoSize, autoSize, autoSize), 0, 0), 1000, impl.Across{Left: 500, Right: 500}},
		{"cut beside margins", cut(acrossStyle(lengthOf(50), autoSize, lengthOf(20)), 0, 600), 1000, impl.Across{Left: 50, Wide: 600, Right: 350}},
		{"cut, auto on the left", cut(acrossStyle(autoSize, autoSize, lengthOf(20)), 0, 600), 1000, impl.Across{Left: 380, Wide: 600, Right: 20}},
		{"cut, auto on the right", cut(acrossStyle(lengthOf(50), autoSize, autoSize), 0, 600), 1000, impl.Across{Left: 50, Wide: 600, Right: 350}},
		{"an auto width that is too little", cut(acrossStyle(autoSize, autoSize, autoSize), 1600, -1), 1000, impl.Across{Wide: 1600, Right: -600}},
		{"an auto width at its least", cut(acrossStyle(autoSize, autoSize, autoSize), 1000, -1), 1000, impl.Across{Wide: 1000}},
		{"too little, with a right margin", cut(acrossStyle(autoSize, autoSize, lengthOf(20)), 990, -1), 1000, impl.Across{Wide: 990, Right: 10}},
		{"nothing left, and a least", cut(acrossStyle(lengthOf(1600), autoSize, lengthOf(7)), 5, -1), 1000, impl.Across{Left: 1600, Wide: 5, Right: -605}},
		{"a width that is cut", cut(acrossStyle(autoSize, lengthOf(700), autoSize), 0, 600), 1000, impl.Across{Left: 200, Wide: 600, Right: 200}},
		{"a width at its least", cut(acrossStyle(autoSize, lengthOf(700), autoSize), 800, 600), 1000, impl.Across{Left: 100, Wide: 800, Right: 100}},
	}
	for _, c := range cases {
		if got, ok := impl.BlockAcross(c.s, c.around); got != c.want || !ok {
			t.Errorf("%s: BlockAcross(%+v, %d) = %+v, %v; want %+v, true", c.name, c.s, c.around, got, ok, c.want)
		}
		checkBlock(t, c.s, c.around)
	}
}

func TestFloatAcross(t *testing.T) {
	with := func(change func(s *impl.Style)) impl.Style {
		s := acrossStyle(lengthOf(30), autoSize, lengthOf(20))
		s.Float = impl.SideLeft
		change(&s)
		return s
	}
	auto := with(func(s *impl.Style) {})
	cases := []struct {
		name   string
		s      impl.Style
		around int
		narrow int
		widest int
		want   impl.Across
	}{
		{"all of it has room", auto, 1000, 200, 300, impl.Across{Left: 30, Wide: 300, Right: 20}},
		{"all of it has just room", auto, 1000, 200, 950, impl.Across{Left: 30, Wide: 950, Right: 20}},
		{"what has room", auto, 1000, 200, 951, impl.Across{Left: 30, Wide: 950, Right: 20}},
		{"the narrowest has no room", auto, 100, 200, 300, impl.Across{Left: 30, Wide: 200, Right: 20}},
		{"less than nothing around", auto, 0, 0, 300, impl.Across{Left: 30, Right: 20}},
		{"at least more than at most", auto, 100, 400, 300, impl.Across{Left: 30, Wide: 300, Right: 20}},
		{"nothing in it", auto, 1000, 0, 0, impl.Across{Left: 30, Right: 20}},
		{"limits", plainAsSaid(), 1000000, 1000000, 1000000, impl.Across{Wide: 1000000}},
		{"edges", with(func(s *impl.Style) { s.Border, s.Padding = 3, 10 }), 1000, 200, 5000, impl.Across{Left: 30, Wide: 924, Right: 20}},
		{"auto margins", with(func(s *impl.Style) { s.MarginLeft, s.MarginRight = autoSize, autoSize }), 1000, 200, 5000, impl.Across{Wide: 1000}},
		{"auto margins and a width", with(func(s *impl.Style) { s.MarginLeft, s.MarginRight, s.Width = autoSize, autoSize, lengthOf(60) }), 1000, 200, 300, impl.Across{Wide: 60}},
		{"percents", with(func(s *impl.Style) { s.MarginLeft, s.MarginRight = percentOf(-1), percentOf(1000) }), 1000, 200, 5000, impl.Across{Left: -1, Wide: 901, Right: 100}},
		{"a width", with(func(s *impl.Style) { s.Width = lengthOf(7) }), 1000, 200, 300, impl.Across{Left: 30, Wide: 7, Right: 20}},
		{"a width of 0", with(func(s *impl.Style) { s.Width = lengthOf(0) }), 1000, 200, 300, impl.Across{Left: 30, Right: 20}},
		{"a width in percents", with(func(s *impl.Style) { s.Width = percentOf(15000) }), 1000, 200, 300, impl.Across{Left: 30, Wide: 1500, Right: 20}},
		{"a least", with(func(s *impl.Style) { s.MinWidth = 301 }), 1000, 200, 300, impl.Across{Left: 30, Wide: 301, Right: 20}},
		{"a most", with(func(s *impl.Style) { s.MaxWidth = 299 }), 1000, 200, 300, impl.Across{Left: 30, Wide: 299, Right: 20}},
		{"a most of 0", with(func(s *impl.Style) { s.MaxWidth = 0 }), 1000, 200, 300, impl.Across{Left: 30, Right: 20}},
		{"a least above a most", with(func(s *impl.Style) { s.MaxWidth, s.MinWidth = 3, 9 }), 1000, 200, 300, impl.Across{Left: 30, Wide: 9, Right: 20}},
		{"a width that is cut", with(func(s *impl.Style) { s.Width, s.MaxWidth = lengthOf(700), 600 }), 1000, 200, 300, impl.Across{Left: 30, Wide: 600, Right: 20}},
	}
	for _, c := range cases {
		if got, ok := impl.FloatAcross(c.s, c.around, c.narrow, c.widest); got != c.want || !ok {
			t.Errorf("%s: FloatAcross(%+v, %d, %d, %d) = %+v, %v; want %+v, true", c.name, c.s, c.around, c.narrow, c.widest, got, ok, c.want)
		}
		checkFloat(t, c.s, c.around, c.narrow, c.widest)
	}
}

func TestRestOf(t *testing.T) {
	s := styleOf(func(s *impl.Style) { s.Border, s.Padding = 3, 10 })
	cases := []struct {
		around int
		a      impl.Across
		want   int
	}{
		{1000, impl.Across{}, 974},
		{1000, impl.Across{Left: 1, Wide: 20, Right: 300}, 653},
		{1000, impl.Across{Left: -1, Wide: -20, Right: -300}, 1295},
		{1000, impl.Across{Left: 74, Wide: 800, Right: 100}, 0},
		{0, impl.Across{Left: 1000000, Wide: 1000000, Right: 1000000}, -3000026},
		{1000000, impl.Across{Left: -1000000, Wide: -1000000, Right: -1000000}, 3999974},
	}
	for _, c := range cases {
		if got, ok := impl.RestOf(s, c.around, c.a); got != c.want || !ok {
			t.Errorf("RestOf(%+v, %d, %+v) = %d, %v; want %d, true", s, c.around, c.a, got, ok, c.want)
		}
	}
	// The style's own sizes are not looked at: what counts is what a tells.
	s.Width, s.MarginLeft, s.MarginRight, s.MinWidth = lengthOf(77), percentOf(100000), autoSize, 500
	if got, ok := impl.RestOf(s, 1000000, impl.Across{Wide: 999974}); got != 0 || !ok {
		t.Errorf("RestOf = %d, %v; want 0, true", got, ok)
	}
}

// Answers have no limit of their own: a margin may be beyond a length, and RestOf then takes it no more.
func TestMarginsBeyondLengths(t *testing.T) {
	s := acrossStyle(lengthOf(1000000), lengthOf(1000000), lengthOf(0))
	s.Border, s.Padding = 64000, 64000
	want := impl.Across{Left: 1000000, Wide: 1000000, Right: -2256000}
	if got, ok := impl.BlockAcross(s, 0); got != want || !ok {
		t.Errorf("BlockAcross = %+v, %v; want %+v, true", got, ok, want)
	}
	checkBlock(t, s, 0)
	wide := acrossStyle(lengthOf(-1000000), autoSize, lengthOf(-1000000))
	want = impl.Across{Left: -1000000, Wide: 3000000, Right: -1000000}
	if got, ok := impl.BlockAcross(wide, 1000000); got != want || !ok {
		t.Errorf("BlockAcross = %+v, %v; want %+v, true", got, ok, want)
	}
	checkBlock(t, wide, 1000000)
}

// A size that SizeIn does not tell has no place across.
func TestSizesBeyondLengths(t *testing.T) {
	for _, n := range []int{-100000, 100000} {
		for i := range 3 {
			s := acrossStyle(lengthOf(1), lengthOf(1), lengthOf(1))
			size := []*impl.Size{&s.MarginLeft, &s.Width, &s.MarginRight}[i]
			*size = percentOf(n)
			if i == 1 && n < 0 {
				continue
			}
			for _, around := range []int{99999, 100000} {
				if _, ok := impl.BlockAcross(s, around); !ok {
					t.Errorf("BlockAcross(%+v, %d): none", s, around)
				}
				if _, ok := impl.FloatAcross(s, around, 1, 1); !ok {
					t.Errorf("FloatAcross(%+v, %d): none", s, around)
				}
			}
			for _, around := range []int{100001, 1000000} {
				s.MaxWidth = 5
				if a, ok := impl.BlockAcross(s, around); a != (impl.Across{}) || ok {
					t.Errorf("BlockAcross(%+v, %d) = %+v, %v; want none, false", s, around, a, ok)
				}
				if a, ok := impl.FloatAcross(s, around, 1, 1); a != (impl.Across{}) || ok {
					t.Errorf("FloatAcross(%+v, %d) = %+v, %v; want none, false", s, around, a, ok)
				}
			}
		}
	}
}

// Promise 6: every way in which sizes, edges and limits may stand about what is around.
func TestMarginsEdgesAndWidthAreWhatIsAround(t *testing.T) {
	margins := []impl.Size{autoSize, lengthOf(0), lengthOf(3), lengthOf(-3), lengthOf(6), lengthOf(11), percentOf(5000), percentOf(-3333)}
	widths := []impl.Size{autoSize, lengthOf(0), lengthOf(4), lengthOf(5), lengthOf(12), percentOf(4000), percentOf(20000)}
	limits := [][2]int{{0, -1}, {0, 0}, {0, 4}, {0, 7}, {5, -1}, {9, -1}, {14, -1}, {6, 3}, {1, 8}}
	many := 0
	for _, left := range margins {
		for _, right := range margins {
			for _, wide := range widths {
				for _, limit := range limits {
					for _, edge := range [][2]int{{0, 0}, {1, 0}, {0, 2}, {1, 3}} {
						s := acrossStyle(left, wide, right)
						s.MinWidth, s.MaxWidth, s.Border, s.Padding = limit[0], limit[1], edge[0], edge[1]
						for around := range 17 {
							many++
							checkBlock(t, s, around)
							checkFloat(t, s, around, around/2, 7)
						}
					}
				}
			}
		}
	}
	if many < 100000 {
		t.Errorf("only %d blocks", many)
	}
}

// Promise 6, of thrown styles and widths, those at the limits among them.
func TestThrownStylesFillWhatIsAround(t *testing.T) {
	d := dice(6)
	for range 20000 {
		s := d.style()
		for _, around := range []int{0, d.upTo(500), d.upTo(100001), d.upTo(1000001), 1000000} {
			checkBlock(t, s, around)
			checkFloat(t, s, around, d.upTo(1000001), d.upTo(1000001))
			checkFloat(t, s, around, d.upTo(around+1), d.upTo(around+1))
			checkRest(t, s, around, impl.Across{Left: d.upTo(900) - 450, Wide: d.upTo(around + 1), Right: d.upTo(900) - 450})
		}
	}
}

// What is not across changes nothing: a style that is not shown, or floats, is as wide as others.
func TestOnlyWhatIsAcrossCounts(t *testing.T) {
	plain := acrossStyle(autoSize, percentOf(5000), lengthOf(9))
	want, _ := impl.BlockAcross(plain, 1000)
	for _, s := range []impl.Style{
		{Show: impl.ShowNone}, {Show: impl.ShowInline}, {Float: impl.SideRight}, {Clear: impl.SideBoth}, {Height: lengthOf(70)}, {MarginTop: 99}, {MarginBot: -99},
		{White: impl.WhitePre}, {Align: impl.AlignCenter}, {LineHeight: 640}, {Right: 500}, {Down: -500},
	} {
		other := s
		if other.Show == 0 {
			other.Show = plain.Show
		}
		if other.White == 0 {
			other.White = plain.White
		}
		if other.Align == 0 {
			other.Align = plain.Align
		}
		other.MaxWidth, other.Width, other.MarginLeft, other.MarginRight = plain.MaxWidth, plain.Width, plain.MarginLeft, plain.MarginRight
		if got, ok := impl.BlockAcross(other, 1000); got != want || !ok {
			t.Errorf("BlockAcross(%+v) = %+v, %v; want %+v, true", other, got, ok, want)
		}
		checkFloat(t, other, 1000, 20, 30)
		checkRest(t, other, 1000, want)
	}
}

// Promise 11: wrong styles, and styles at their edges, have the answer that the document tells.
func TestWidthsAnswerAtAnyStyle(t *testing.T) {
	styles := append(oneThingStyles(), impl.Style{}, impl.Style{Show: 1, White: 1, Align: 1}, impl.Style{Show: 1, White: 1, Align: 1, MaxWidth: -2})
	for _, s := range styles {
		for _, around := range []int{-1, 0, 1, 640, 100000, 100001, 1000000, 1000001} {
			checkBlock(t, s, around)
			checkFloat(t, s, around, 64, 640)
			checkRest(t, s, around, impl.Across{Left: 5, Wide: 6, Right: 7})
		}
	}
}

// Promise 11: numbers that are no lengths, or below 0, have the zero answer.
func TestWidthsAnswerAtAnyNumbers(t *testing.T) {
	styles := append(thrownStyles(20), plainAsSaid(), acrossStyle(autoSize, lengthOf(600), autoSize), acrossStyle(autoSize, autoSize, autoSize), impl.Style{})
	for _, s := range styles {
		for _, a := range farInts {
			checkBlock(t, s, a)
			for _, b := range farInts {
				checkFloat(t, s, a, b, 640)
				checkFloat(t, s, a, 64, b)
				checkFloat(t, s, 640, a, b)
				checkRest(t, s, a, impl.Across{Left: b})
				checkRest(t, s, a, impl.Across{Wide: b})
				checkRest(t, s, a, impl.Across{Right: b})
				checkRest(t, s, 640, impl.Across{Left: a, Wide: b, Right: a})
			}
		}
	}
}
