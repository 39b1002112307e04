package tests

import (
	"math"
	"slices"
	"strings"
	"testing"
	"unsafe"

	"loop.example/g00164/impl"
)

// lineFont: a font so small that its lines meet floats of few parts; a line is 8 high.
var lineFont = impl.Font{Ascent: 6, Descent: 2, Narrow: 2, Usual: 5, Broad: 11}

// lineFonts: one more without height, so that lines are one at another's place.
var lineFonts = []impl.Font{lineFont, {Ascent: 0, Descent: 0, Narrow: 1, Usual: 3, Broad: 4}, {Ascent: 1, Descent: 0, Narrow: 4, Usual: 1, Broad: 2}}

var aligns = []int{impl.AlignLeft, impl.AlignRight, impl.AlignCenter}

func lineStyle(white int, align int, height int) impl.Style {
	return styleOf(func(s *impl.Style) { s.White, s.Align, s.LineHeight = white, align, height })
}

func goodFontAsSaid(f impl.Font) bool {
	for k, n := range fontParts(&f) {
		if !within(*n, 0, 6400) || k >= 2 && *n == 0 {
			return false
		}
	}
	return true
}

// keptTextAsSaid tells whether a text is one of chapter 3, and is left as it is.
func keptTextAsSaid(white int, text string) bool {
	for _, c := range []byte(text) {
		if !within(int(c), 32, 126) && c != 9 && c != 10 {
			return false
		}
	}
	return len(text) <= 200 && keptAsSaid(white, text) == text
}

func heightAsSaid(f impl.Font, s impl.Style) int {
	if s.LineHeight == 0 {
		return f.Ascent + f.Descent
	}
	return s.LineHeight
}

func alignAsSaid(align int, from int, to int, w int) int {
	switch {
	case align == impl.AlignLeft || w > to-from:
		return from
	case align == impl.AlignRight:
		return to - w
	}
	return from + int(floorOf(to-from-w, 1, 2).Int64())
}

func linesAsSaid(f impl.Font, s impl.Style, text string, l []impl.Aside, y int, left int, right int) ([]impl.Line, int, bool) {
	good := goodFontAsSaid(f) && goodStyleAsSaid(s) && goodFloatsAsSaid(l) && nearAsSaid(y, left, right)
	if !good || y > 50000000 || !keptTextAsSaid(s.White, text) {
		return nil, 0, false
	}
	lines, end := linesTaken(f, s, text, l, y, left, right)
	return lines, end, true
}

// linesTaken goes along the document's words, however far: of all places from y on, y itself and each bottom, the first one at which the line that is cut there may stand.
func linesTaken(f impl.Font, s impl.Style, text string, l []impl.Aside, y int, left int, right int) ([]impl.Line, int) {
	var lines []impl.Line
	high := heightAsSaid(f, s)
	for text != "" {
		for _, at := range append([]int{y}, bottomsAsSaid(l, y)...) {
			from, to := roomLeft(l, at, high, left, right)
			end := cutAsSaid(f, s.White, text, to-from)
			w := widthAsLine(f, text[:end])
			if w > to-from && anyHeld(l, at, high) {
				continue
			}
			lines = append(lines, impl.Line{X: alignAsSaid(s.Align, from, to, w), Y: at, W: w, H: high, Text: text[:end]})
			y, text = at+high, text[end:]
			break
		}
	}
	return lines, y
}

func lineClearAsSaid(l []impl.Aside, x impl.Line) (bool, bool) {
	if !goodFloatsAsSaid(l) || !nearAsSaid(x.X, x.Y) || !within(x.W, 0, 1000000) || !within(x.H, 0, 1000000) {
		return false, false
	}
	for _, a := range l {
		if inCommon(a.X, a.W, x.X, x.W) && inCommon(a.Y, a.H, x.Y, x.H) {
			return false, true
		}
	}
	return true, true
}

func lineAtAsSaid(lines []impl.Line, y int) (int, bool) {
	good := len(lines) <= 400 && nearAsSaid(y)
	for _, x := range lines {
		good = good && nearAsSaid(x.Y) && within(x.H, 0, 1000000)
	}
	if !good {
		return 0, false
	}
	for i, x := range lines {
		if within(y, x.Y, x.Y+x.H-1) {
			return i, true
		}
	}
	return 0, false
}

// checkLines holds lines against the document and against promise 8.
func checkLines(t *testing.T, f impl.Font, s impl.Style, text string, l []impl.Aside, y int, left int, right int) []impl.Line {
	t.Helper()
	want, wantEnd, wantOk := linesAsSaid(f, s, text, l, y, left, right)
	got, end, ok := impl.LinesOf(f, s, text, l, y, left, right)
	if !slices.Equal(got, want) || end != wantEnd || ok != wantOk {
		t.Fatalf("LinesOf(%+v, %+v, %q, %v, %d, %d, %d) = %v, %d, %v; want %v, %d, %v", f, s, text, l, y, left, right, got, end, ok, want, wantEnd, wantOk)
	}
	if ok {
		checkPromisedLines(t, text, l, got, y, end)
	}
	return got
}

// checkPromisedLines: promise 8, without a word of how lines are made.
func checkPromisedLines(t *testing.T, text string, l []impl.Aside, lines []impl.Line, y int, end int) {
	t.Helper()
	var all strings.Builder
	for _, x := range lines {
		all.WriteString(x.Text)
		if x.Text == "" || x.Y < y {
			t.Fatalf("%q beside %v: %v is empty or above %d", text, l, x, y)
		}
		if clear, ok := impl.LineClear(l, x); ok && !clear {
			t.Fatalf("%q beside %v: %v meets a float", text, l, x)
		}
		y = x.Y + x.H
	}
	if all.String() != text || y != end {
		t.Fatalf("lines have %q of %q, and end at %d; want %d", all.String(), text, y, end)
	}
}

func checkLineClear(t *testing.T, l []impl.Aside, x impl.Line) {
	t.Helper()
	want, wantOk := lineClearAsSaid(l, x)
	if got, ok := impl.LineClear(l, x); got != want || ok != wantOk {
		t.Fatalf("LineClear(%v, %v) = %v, %v; want %v, %v", l, x, got, ok, want, wantOk)
	}
}

func checkLineAt(t *testing.T, lines []impl.Line, y int) {
	t.Helper()
	want, wantOk := lineAtAsSaid(lines, y)
	if got, ok := impl.LineAt(lines, y); got != want || ok != wantOk {
		t.Fatalf("LineAt(%v, %d) = %d, %v; want %d, %v", lines, y, got, ok, want, wantOk)
	}
}

// eight: a line of the lineFont.
func eight(x int, y int, w int, text string) impl.Line {
	return impl.Line{X: x, Y: y, W: w, H: 8, Text: text}
}

func manyLines(n int, x impl.Line) []impl.Line {
	return slices.Repeat([]impl.Line{x}, n)
}

func TestLinesOf(t *testing.T) {
	normal, pre, wrap := impl.WhiteNormal, impl.WhitePre, impl.WhitePreWrap
	left, right, center := impl.AlignLeft, impl.AlignRight, impl.AlignCenter
	cases := []struct {
		name         string
		white, align int
		text         string
		l            []impl.Aside
		want         []impl.Line
		end          int
	}{
		{"nothing", normal, left, "", nil, nil, 0},
		{"nothing beside a float", normal, left, "", []impl.Aside{atLeft(0, 0, 90, 9)}, nil, 0},
		{"two lines", normal, left, "aa bb cc", nil, []impl.Line{eight(0, 0, 22, "aa bb "), eight(0, 8, 10, "cc")}, 16},
		{"two lines on the right", normal, right, "aa bb cc", nil, []impl.Line{eight(8, 0, 22, "aa bb "), eight(20, 8, 10, "cc")}, 16},
		{"two lines in the middle", normal, center, "aa bb cci", nil, []impl.Line{eight(4, 0, 22, "aa bb "), eight(9, 8, 12, "cci")}, 16},
		{"in the middle, down", normal, center, "a", nil, []impl.Line{eight(12, 0, 5, "a")}, 8},
		{"as wide as the room", normal, right, "aaaaaa a", nil, []impl.Line{eight(0, 0, 30, "aaaaaa "), eight(25, 8, 5, "a")}, 16},
		{"wider than the room", normal, right, "aaaaaai a", nil, []impl.Line{eight(0, 0, 32, "aaaaaai "), eight(25, 8, 5, "a")}, 16},
		{"wider than the room, in the middle", normal, center, "aaaaaai", nil, []impl.Line{eight(0, 0, 32, "aaaaaai")}, 8},
		{"beside a left float, as long as it lasts", normal, left, "aa bb cc", []impl.Aside{atLeft(0, 0, 15, 10)},
			[]impl.Line{eight(15, 0, 10, "aa "), eight(15, 8, 10, "bb "), eight(0, 16, 10, "cc")}, 24},
		{"on the right, beside a left float", normal, right, "aa bb", []impl.Aside{atLeft(0, 0, 15, 8)},
			[]impl.Line{eight(20, 0, 10, "aa "), eight(20, 8, 10, "bb")}, 16},
		{"on the right, beside a right float", normal, right, "aa bb", []impl.Aside{atRight(17, 0, 13, 8)},
			[]impl.Line{eight(7, 0, 10, "aa "), eight(20, 8, 10, "bb")}, 16},
		{"between floats, in the middle", normal, center, "aa bb", []impl.Aside{atLeft(0, 0, 4, 8), atRight(27, 7, 3, 2)},
			[]impl.Line{eight(4, 0, 22, "aa bb")}, 8},
		{"between floats, in the middle, with room", normal, center, "aa", []impl.Aside{atLeft(0, 0, 4, 8), atRight(27, 7, 3, 2)},
			[]impl.Line{eight(10, 0, 10, "aa")}, 8},
		{"no room beside", normal, left, "aa bb cc", []impl.Aside{atLeft(0, 0, 21, 10)}, []impl.Line{eight(0, 10, 22, "aa bb "), eight(0, 18, 10, "cc")}, 26},
		{"just room beside", normal, left, "aa bb cc", []impl.Aside{atLeft(0, 0, 20, 10)},
			[]impl.Line{eight(20, 0, 10, "aa "), eight(20, 8, 10, "bb "), eight(0, 16, 10, "cc")}, 24},
		{"a later line has no room", normal, left, "aa bbbb cc", []impl.Aside{atLeft(0, 0, 20, 10)},
			[]impl.Line{eight(20, 0, 10, "aa "), eight(0, 10, 20, "bbbb "), eight(0, 18, 10, "cc")}, 26},
		{"wider than all, below the float", normal, right, "aaaaaaa", []impl.Aside{atLeft(0, 0, 1, 10)}, []impl.Line{eight(0, 10, 35, "aaaaaaa")}, 18},
		{"a float at the last part of the line", normal, left, "aa", []impl.Aside{atLeft(0, 7, 25, 3)}, []impl.Line{eight(0, 10, 10, "aa")}, 18},
		{"a float right below the line", normal, left, "aa", []impl.Aside{atLeft(0, 8, 25, 3)}, []impl.Line{eight(0, 0, 10, "aa")}, 8},
		{"a float that ends where the line begins", normal, left, "aa", []impl.Aside{atLeft(0, -5, 25, 5)}, []impl.Line{eight(0, 0, 10, "aa")}, 8},
		{"the bottoms in turn", normal, left, "aaaa", []impl.Aside{atLeft(0, 0, 20, 9), atLeft(20, 0, 8, 3), atRight(25, 2, 5, 11)},
			[]impl.Line{eight(0, 9, 20, "aaaa")}, 17},
		{"a bottom below that another float begins", normal, left, "aaaa", []impl.Aside{atLeft(0, 0, 20, 3), atRight(0, 10, 30, 3)},
			[]impl.Line{eight(0, 13, 20, "aaaa")}, 21},
		{"a flat float within the line", normal, left, "aa", []impl.Aside{atLeft(0, 4, 25, 0)}, []impl.Line{eight(0, 4, 10, "aa")}, 12},
		{"a flat float with room beside", normal, left, "aa", []impl.Aside{atLeft(0, 4, 20, 0)}, []impl.Line{eight(20, 0, 10, "aa")}, 8},
		{"an empty line where there is no room at all", pre, left, "\n", []impl.Aside{atLeft(0, 0, 30, 10)}, []impl.Line{eight(30, 0, 0, "\n")}, 8},
		{"an empty line where there is less than none", pre, left, "\n", []impl.Aside{atLeft(0, 0, 31, 10)}, []impl.Line{eight(0, 10, 0, "\n")}, 18},
		{"breaks that are kept", pre, right, "aa \n\nbb", nil, []impl.Line{eight(20, 0, 10, "aa \n"), eight(30, 8, 0, "\n"), eight(20, 16, 10, "bb")}, 24},
		{"blanks that are kept", wrap, left, "  aa   bbb", nil, []impl.Line{eight(0, 0, 14, "  aa   "), eight(0, 8, 15, "bbb")}, 16},
		{"no breaks at blanks", impl.WhiteNowrap, left, "aaa aaa", []impl.Aside{atLeft(0, 0, 1, 5)}, []impl.Line{eight(0, 5, 32, "aaa aaa")}, 13},
		{"breaks of lines alone", impl.WhitePreLine, left, "a a\naaa-aaa", nil,
			[]impl.Line{eight(0, 0, 12, "a a\n"), eight(0, 8, 20, "aaa-"), eight(0, 16, 15, "aaa")}, 24},
	}
	for _, c := range cases {
		s := lineStyle(c.white, c.align, 0)
		if got, end, ok := impl.LinesOf(lineFont, s, c.text, c.l, 0, 0, 30); !slices.Equal(got, c.want) || end != c.end || !ok {
			t.Errorf("%s: LinesOf = %v, %d, %v; want %v, %d, true", c.name, got, end, ok, c.want, c.end)
		}
		for _, height := range []int{0, 1, 3, 8, 9, 64000} {
			s.LineHeight = height
			checkLines(t, lineFont, s, c.text, c.l, 0, 0, 30)
			checkLines(t, lineFont, s, c.text, c.l, -3, 5, 28)
			checkLines(t, lineFont, s, c.text, c.l, 2, 30, 0)
		}
	}
}

func TestLineHeights(t *testing.T) {
	flat := impl.Font{Narrow: 1, Usual: 1, Broad: 1}
	cases := []struct {
		f      impl.Font
		height int
		want   int
	}{
		{lineFont, 0, 8}, {lineFont, 1, 1}, {lineFont, 7, 7}, {lineFont, 9, 9}, {lineFont, 64000, 64000},
		{flat, 0, 0}, {flat, 1, 1}, {flat, 64000, 64000}, {impl.Font{Ascent: 6400, Descent: 6400, Narrow: 1, Usual: 1, Broad: 1}, 0, 12800},
	}
	for _, c := range cases {
		s := lineStyle(impl.WhitePre, impl.AlignLeft, c.height)
		lines, end, ok := impl.LinesOf(c.f, s, "a\nb\nc", nil, 5, 0, 10)
		if len(lines) != 3 || lines[2].H != c.want || lines[2].Y != 5+2*c.want || end != 5+3*c.want || !ok {
			t.Errorf("LinesOf(%+v, line-height %d) = %v, %d, %v; want lines %d high", c.f, c.height, lines, end, ok, c.want)
		}
		checkLines(t, c.f, s, "a\nb\nc", []impl.Aside{atLeft(0, 0, 10, 8)}, 5, 0, 10)
	}
}

// A line without height asks for room as if it were 1 high; it meets no float, but goes below one.
func TestLinesWithoutHeight(t *testing.T) {
	flat := impl.Font{Narrow: 1, Usual: 1, Broad: 1}
	l := []impl.Aside{atLeft(0, 0, 8, 10)}
	want := []impl.Line{{Y: 10, W: 3, Text: "aaa"}}
	if got, end, ok := impl.LinesOf(flat, plainAsSaid(), "aaa", l, 9, 0, 10); !slices.Equal(got, want) || end != 10 || !ok {
		t.Errorf("LinesOf = %v, %d, %v; want %v, 10, true", got, end, ok, want)
	}
}

// All that is said of a style but these three is nothing to lines.
func TestLinesOfAnyStyle(t *testing.T) {
	l := []impl.Aside{atLeft(0, 0, 300, 700), atRight(900, 500, 100, 900)}
	good := 0
	for _, s := range append(oneThingStyles(), thrownStyles(300)...) {
		text := keptAsSaid(s.White, "one two-three four")
		lines := checkLines(t, plainFont, s, text, l, 0, 0, 3000)
		if goodStyleAsSaid(s) {
			good++
			same, _, _ := impl.LinesOf(plainFont, lineStyle(s.White, s.Align, s.LineHeight), text, l, 0, 0, 3000)
			if !slices.Equal(lines, same) {
				t.Errorf("%+v: lines %v; want %v", s, lines, same)
			}
		}
	}
	if good < 400 {
		t.Errorf("only %d good styles", good)
	}
}

// Promise 8: every short text, in every white, beside floats of both sides.
func TestEveryShortTextAsLines(t *testing.T) {
	floats := [][]impl.Aside{
		nil,
		{atLeft(0, 0, 9, 5)},
		{atLeft(0, 3, 14, 4), atRight(10, 12, 5, 9)},
		{atRight(6, 0, 9, 1), atLeft(0, 0, 4, 30), atRight(-1, 40, 9, 2)},
	}
	eachText("ai- \n", 5, func(text string) {
		for k, white := range whites {
			if keptAsSaid(white, text) != text {
				if len(text) < 3 {
					checkLines(t, lineFont, lineStyle(white, 1, 0), text, nil, 0, 0, 15)
				}
				continue
			}
			for j, l := range floats {
				s := lineStyle(white, aligns[(len(text)+k+j)%3], 0)
				checkLines(t, lineFont, s, text, l, 0, 0, 15)
			}
		}
	})
}

func (d *dice) lineText(white int) string {
	var text []byte
	for range d.upTo(60) {
		text = append(text, "aaaib-m.1  \n"[d.upTo(12)])
	}
	return keptAsSaid(white, string(text))
}

// Promise 8: floats that meet each other too, from any y, between any edges.
func TestThrownLines(t *testing.T) {
	d := dice(8)
	beside, below := 0, 0
	for range 20000 {
		white := whites[d.upTo(5)]
		s := lineStyle(white, aligns[d.upTo(3)], d.upTo(2)*d.upTo(12))
		text, l := d.lineText(white), d.asides(8)
		y, left := d.upTo(50)-20, d.upTo(30)-10
		lines := checkLines(t, lineFonts[d.upTo(3)], s, text, l, y, left, left+d.upTo(60)-5)
		for _, x := range lines {
			if any, _ := impl.AnyAt(l, x.Y, x.H); any {
				beside++
			}
			if x.Y > y {
				below++
			}
			y = x.Y + x.H
			checkLineClear(t, l, x)
		}
		for range 3 {
			checkLineAt(t, lines, d.upTo(100)-30)
		}
	}
	if beside < 5000 || below < 5000 {
		t.Errorf("only %d lines beside floats, and %d below", beside, below)
	}
}

// Promise 8: beside floats that were placed, as many as there may be.
func TestLinesBesidePlacedFloats(t *testing.T) {
	d := dice(88)
	for range 300 {
		var l []impl.Aside
		right := 40 + d.upTo(60)
		for len(l) < 40 {
			a, ok := impl.PlaceFloat(l, 1+d.upTo(2), d.upTo(30), d.upTo(20), 2*len(l), 0, right)
			if !ok {
				t.Fatalf("none placed among %v", l)
			}
			l = append(l, a)
		}
		white := whites[d.upTo(5)]
		s := lineStyle(white, aligns[d.upTo(3)], 1+d.upTo(9))
		text := keptAsSaid(white, strings.Repeat(d.lineText(white)+" \n", 3))
		checkLines(t, lineFont, s, text, l, d.upTo(40)-20, 0, right)
	}
}

// The limits may be met exactly.
func TestLinesAtTheLimits(t *testing.T) {
	s := plainAsSaid()
	one := func(y int, left int, right int) bool {
		checkLines(t, lineFont, s, "aa bb", nil, y, left, right)
		_, _, ok := impl.LinesOf(lineFont, s, "aa bb", nil, y, left, right)
		return ok
	}
	cases := []struct {
		y, left, right int
		want           bool
	}{
		{50000000, 0, 30, true}, {50000001, 0, 30, false}, {-farthest, 0, 30, true}, {-farthest - 1, 0, 30, false}, {farthest, 0, 30, false},
		{0, -farthest, 30, true}, {0, -farthest - 1, 30, false}, {0, farthest, 30, true}, {0, farthest + 1, 30, false},
		{0, 0, farthest, true}, {0, 0, farthest + 1, false}, {0, 0, -farthest, true}, {0, 0, -farthest - 1, false},
	}
	for _, c := range cases {
		if got := one(c.y, c.left, c.right); got != c.want {
			t.Errorf("LinesOf from %d between %d and %d: %v; want %v", c.y, c.left, c.right, got, c.want)
		}
	}
	for _, text := range longTexts() {
		for _, f := range goodFonts {
			for _, white := range whites {
				checkLines(t, f, lineStyle(white, 3, 0), keptAsSaid(white, text), many(40, atRight(900, 100, 50, 2000)), 0, 0, 3000)
			}
		}
	}
	if lines := checkLines(t, lineFont, lineStyle(impl.WhitePre, 1, 0), strings.Repeat("\n", 200), nil, 0, 0, 30); len(lines) != 200 {
		t.Errorf("%d lines; want 200", len(lines))
	}
	checkLines(t, lineFont, s, "aa bb", many(41, atLeft(0, 0, 5, 5)), 0, 0, 30)
	if _, _, ok := impl.LinesOf(lineFont, s, "aa bb", many(41, atLeft(0, 0, 5, 5)), 0, 0, 30); ok {
		t.Error("lines beside one float too many")
	}
}

// A line may be wider than a length: nothing is said against it.
func TestLinesWiderThanLengths(t *testing.T) {
	f := impl.Font{Narrow: 1, Usual: 1, Broad: 6400}
	text := strings.Repeat("W", 200)
	want := []impl.Line{{X: 7, W: 1280000, Text: text}}
	if got, end, ok := impl.LinesOf(f, lineStyle(1, 2, 0), text, nil, 0, 7, 30); !slices.Equal(got, want) || end != 0 || !ok {
		t.Errorf("LinesOf = %v, %d, %v; want %v, 0, true", got, end, ok, want)
	}
	if clear, ok := impl.LineClear(nil, want[0]); clear || ok {
		t.Errorf("LineClear of a line that is too wide = %v, %v", clear, ok)
	}
}

// What comes up on the way may be further down than y may be at first, and than floats may stand: they are beside the lines there too.
func TestLinesFarDown(t *testing.T) {
	var blocking []impl.Aside
	for k := range 39 {
		blocking = append(blocking, atLeft(0, 50000000+1000000*k, 31, 1000000))
	}
	s := lineStyle(impl.WhitePre, impl.AlignLeft, 64000)
	text := strings.Repeat("\n", 200)
	cases := []struct {
		name  string
		l     []impl.Aside
		first int
		at    int
		x, y  int
		end   int
	}{
		{"ahead of the last float", append(blocking[:39:39], atLeft(0, farthest, 12, 1000000)), 89000000, 170, 0, 99880000, 101800000},
		{"beside the last float", append(blocking[:39:39], atLeft(0, farthest, 12, 1000000)), 89000000, 171, 12, 99944000, 101800000},
		{"beside its end", append(blocking[:39:39], atLeft(0, farthest, 12, 1000000)), 89000000, 187, 12, 100968000, 101800000},
		{"behind it", append(blocking[:39:39], atLeft(0, farthest, 12, 1000000)), 89000000, 188, 0, 101032000, 101800000},
		{"below the last float", append(blocking[:39:39], atLeft(0, farthest, 31, 1000000)), 89000000, 171, 0, 101000000, 102856000},
		{"below the last two, in turn", append(blocking[:38:38], atLeft(0, 99900000, 31, 600000), atLeft(0, farthest, 31, 1000000)), 88000000, 185, 0, 101000000, 101960000},
	}
	for _, c := range cases {
		checkLines(t, lineFont, s, text, c.l, 50000000, 0, 30)
		lines, end, ok := impl.LinesOf(lineFont, s, text, c.l, 50000000, 0, 30)
		if len(lines) != 200 || end != c.end || !ok || lines[0].Y != c.first {
			t.Fatalf("%s: %d lines, %d, %v; want 200 from %d to %d", c.name, len(lines), end, ok, c.first, c.end)
		}
		if x := lines[c.at]; x.X != c.x || x.Y != c.y {
			t.Errorf("%s: the line is at %d, %d; want %d, %d", c.name, x.X, x.Y, c.x, c.y)
		}
	}
}

func TestLineClear(t *testing.T) {
	l := []impl.Aside{atLeft(10, 10, 20, 20), atRight(70, 0, 5, 90)}
	cases := []struct {
		name string
		x    impl.Line
		want bool
	}{
		{"between", impl.Line{X: 30, Y: 0, W: 40, H: 90}, true},
		{"one over on the left", impl.Line{X: 29, Y: 0, W: 40, H: 90}, false},
		{"one over on the right", impl.Line{X: 30, Y: 0, W: 41, H: 90}, false},
		{"above", impl.Line{X: 0, Y: 0, W: 70, H: 10}, true},
		{"above, one over", impl.Line{X: 0, Y: 0, W: 70, H: 11}, false},
		{"below", impl.Line{X: 0, Y: 30, W: 70, H: 10}, true},
		{"below, one over", impl.Line{X: 0, Y: 29, W: 70, H: 10}, false},
		{"within", impl.Line{X: 15, Y: 15, W: 1, H: 1}, false},
		{"around", impl.Line{X: 0, Y: -5, W: 100, H: 100}, false},
		{"without width within", impl.Line{X: 15, Y: 15, H: 1}, true},
		{"without height within", impl.Line{X: 15, Y: 15, W: 1}, true},
		{"the last float alone", impl.Line{X: 74, Y: 89, W: 9, H: 9}, false},
		{"with a text and a box", impl.Line{Box: -7, X: 74, Y: 89, W: 9, H: 9, Text: "\xff"}, false},
		{"with a text and a box, clear", impl.Line{Box: math.MaxInt, X: 75, Y: 89, W: 9, H: 9, Text: strings.Repeat("a", 500)}, true},
		{"as far as may be", impl.Line{X: farthest, Y: -farthest, W: 1000000, H: 1000000}, true},
	}
	for _, c := range cases {
		if got, ok := impl.LineClear(l, c.x); got != c.want || !ok {
			t.Errorf("%s: LineClear = %v, %v; want %v, true", c.name, got, ok, c.want)
		}
		if got, ok := impl.LineClear(nil, c.x); !got || !ok {
			t.Errorf("%s: LineClear of no floats = %v, %v; want true, true", c.name, got, ok)
		}
		if got, ok := impl.LineClear(append(slices.Clone(l), impl.Aside{}), c.x); got || ok {
			t.Errorf("%s: LineClear of a wrong float = %v, %v; want false, false", c.name, got, ok)
		}
		checkLineClear(t, many(40, l[0]), c.x)
		checkLineClear(t, many(41, l[0]), c.x)
	}
}

// Every way in which a line may stand to a float.
func TestLineClearEveryWay(t *testing.T) {
	l := []impl.Aside{atLeft(1, 1, 2, 2), atRight(2, 2, 0, 3), atLeft(4, 0, 1, 1), atRight(3, 1, 3, 0)}
	for at := range 6 * 6 * 4 * 4 {
		x := impl.Line{X: at%6 - 1, Y: at/6%6 - 1, W: at / 36 % 4, H: at / 144}
		checkLineClear(t, l, x)
		for _, a := range l {
			checkLineClear(t, []impl.Aside{a}, x)
		}
	}
}

func TestLineAt(t *testing.T) {
	lines := []impl.Line{{Y: 0, H: 8}, {Y: 8, H: 0}, {Y: 8, H: 4}, {Y: 20, H: 5}, {Y: 2, H: 40}, {Y: -30, H: 1}}
	cases := []struct {
		y    int
		want int
		ok   bool
	}{
		{-31, 0, false}, {-30, 5, true}, {-29, 0, false}, {-1, 0, false}, {0, 0, true}, {7, 0, true}, {8, 2, true}, {11, 2, true},
		{12, 4, true}, {19, 4, true}, {20, 3, true}, {24, 3, true}, {25, 4, true}, {41, 4, true}, {42, 0, false}, {farthest, 0, false}, {-farthest, 0, false},
	}
	for _, c := range cases {
		if got, ok := impl.LineAt(lines, c.y); got != c.want || ok != c.ok {
			t.Errorf("LineAt(%d) = %d, %v; want %d, %v", c.y, got, ok, c.want, c.ok)
		}
		if got, ok := impl.LineAt(nil, c.y); got != 0 || ok {
			t.Errorf("LineAt of none = %d, %v", got, ok)
		}
	}
	far := []impl.Line{{Y: farthest, H: 1000000, X: math.MinInt, W: math.MaxInt, Box: -1}, {Y: -farthest, H: 1000000}}
	for y, want := range map[int]int{farthest: 0, -farthest: 1, 999999 - farthest: 1} {
		if got, ok := impl.LineAt(far, y); got != want || !ok {
			t.Errorf("LineAt(%d) = %d, %v; want %d, true", y, got, ok, want)
		}
	}
	for _, y := range []int{farthest + 1, farthest + 999999, -farthest - 1, math.MinInt, math.MaxInt} {
		if got, ok := impl.LineAt(far, y); got != 0 || ok {
			t.Errorf("LineAt(%d) = %d, %v; want 0, false: a y that is too far", y, got, ok)
		}
	}
	full := append(manyLines(399, impl.Line{Y: 5, H: 5}), impl.Line{Y: 50, H: 5})
	if got, ok := impl.LineAt(full, 50); got != 399 || !ok {
		t.Errorf("LineAt of 400 lines = %d, %v; want 399, true", got, ok)
	}
	if got, ok := impl.LineAt(append(full, impl.Line{}), 50); got != 0 || ok {
		t.Errorf("LineAt of 401 lines = %d, %v; want 0, false", got, ok)
	}
}

// Promise 11: a line that is wrong makes the whole list wrong, wherever it stands.
func TestLineAtWrongLines(t *testing.T) {
	good := impl.Line{Y: 5, H: 5}
	for _, wrong := range []impl.Line{{Y: farthest + 1}, {Y: -farthest - 1, H: 3}, {H: -1}, {H: 1000001}, {Y: math.MinInt, H: math.MaxInt}, {Y: math.MaxInt, H: math.MinInt}} {
		for _, lines := range [][]impl.Line{{wrong}, {good, wrong}, {wrong, good}, {good, wrong, good}} {
			if got, ok := impl.LineAt(lines, 7); got != 0 || ok {
				t.Errorf("LineAt(%v, 7) = %d, %v; want 0, false", lines, got, ok)
			}
		}
	}
}

// Promise 11: any numbers, the limits and those beside them among them.
func TestLinesAnswerAtAnyNumbers(t *testing.T) {
	numbers := append([]int{-farthest - 1, -farthest, farthest, farthest + 1, 49999999, 50000000, 50000001}, farInts...)
	l := []impl.Aside{atLeft(0, 0, 20, 20), atRight(25, 0, 5, 50)}
	for _, n := range numbers {
		for _, s := range []impl.Style{lineStyle(1, 1, 0), lineStyle(1, 2, 9), lineStyle(1, 3, 64000), lineStyle(n, 1, 0), lineStyle(1, n, 0), lineStyle(1, 1, n)} {
			checkLines(t, lineFont, s, "aa bb", l, n, 0, 30)
			checkLines(t, lineFont, s, "aa bb", l, 0, n, 30)
			checkLines(t, lineFont, s, "aa bb", l, 0, 0, n)
			checkLines(t, lineFont, s, "aa bb", l, n, n, n)
			checkLines(t, lineFont, s, "", l, n, n, n)
		}
		for _, wrong := range []impl.Aside{{Side: n, W: 5, H: 5}, atLeft(n, 0, 5, 5), atRight(0, n, 5, 5), atLeft(0, 0, n, 5), atRight(0, 0, 5, n)} {
			l := []impl.Aside{atLeft(0, 0, 10, 10), wrong}
			checkLines(t, lineFont, plainAsSaid(), "aa bb", l, 0, 0, 30)
			checkLineClear(t, l, impl.Line{W: 5, H: 5})
		}
		for _, x := range []impl.Line{{Box: n}, {X: n, W: 5, H: 5}, {Y: n, W: 5, H: 5}, {W: n, H: 5}, {W: 5, H: n}, {Box: n, X: n, Y: n, W: n, H: n}} {
			checkLineClear(t, l, x)
			checkLineAt(t, []impl.Line{x}, 0)
			checkLineAt(t, []impl.Line{x}, n)
			checkLineAt(t, []impl.Line{{Y: 3, H: 3}, x}, 3)
		}
	}
}

// Promise 11: fonts, styles and texts that are wrong, and texts that are not kept.
func TestLinesAnswerAtWrongArguments(t *testing.T) {
	refused := func(f impl.Font, s impl.Style, text string) {
		t.Helper()
		checkLines(t, f, s, text, nil, 0, 0, 30)
		if lines, end, ok := impl.LinesOf(f, s, text, nil, 5, 0, 30); lines != nil || end != 0 || ok {
			t.Errorf("LinesOf(%+v, %+v, %q) = %v, %d, %v; want none, 0, false", f, s, text, lines, end, ok)
		}
	}
	for _, f := range badFonts() {
		refused(f, plainAsSaid(), "aa bb")
		refused(f, plainAsSaid(), "")
	}
	for _, white := range badWhites {
		refused(lineFont, lineStyle(white, 1, 0), "aa")
		refused(lineFont, lineStyle(white, 1, 0), "")
	}
	refused(lineFont, impl.Style{}, "aa")
	for _, text := range wrongTexts() {
		for _, white := range whites {
			refused(lineFont, lineStyle(white, 1, 0), text)
		}
	}
	unkept := map[int][]string{
		impl.WhiteNormal:  {" ", " a", "a ", "a  b", "a\tb", "a\nb", "\n"},
		impl.WhiteNowrap:  {" ", " a", "a ", "a  b", "a\tb", "a\nb", "\n"},
		impl.WhitePre:     {"\t", "a\tb", " \t"},
		impl.WhitePreWrap: {"\t", "a\tb", " \t"},
		impl.WhitePreLine: {" ", " a", "a ", "a  b", "a\tb", "a \nb", "a\n b"},
	}
	for white, texts := range unkept {
		for _, text := range texts {
			refused(lineFont, lineStyle(white, 1, 0), text)
		}
	}
}

// Promise 11: nothing is written into floats or lines, nor read or written behind their end.
func TestLinesWriteIntoNothing(t *testing.T) {
	d := dice(18)
	for range 2000 {
		l := d.asides(8)
		behind := []impl.Aside{atLeft(-10, -10, 500, 500), {Side: 9, H: -1}, atRight(-50, -50, 5, 500)}
		memory := append(slices.Clone(l), behind...)
		before := slices.Clone(memory)
		lines := checkLines(t, lineFont, plainAsSaid(), "aa bb-cc dd", memory[:len(l)], d.upTo(30), 0, 10+d.upTo(40))
		hidden := append(slices.Clone(lines), impl.Line{Y: 200, H: 9}, impl.Line{H: -1})
		told := slices.Clone(hidden)
		checkLineAt(t, hidden[:len(lines)], d.upTo(80))
		checkLineAt(t, hidden[:len(lines)], 204)
		for _, x := range lines {
			checkLineClear(t, memory[:len(l)], x)
		}
		if !slices.Equal(memory, before) || !slices.Equal(hidden, told) {
			t.Fatalf("written: %v, %v; it was %v, %v", memory, hidden, before, told)
		}
	}
}

// Promise 11: lines are new memory, and share none with the text or with those of another call.
func TestLinesAreNewMemory(t *testing.T) {
	text := strings.Repeat("aa bb-", 4)
	for _, right := range []int{5, 30, 1000} {
		lines, _, _ := impl.LinesOf(lineFont, plainAsSaid(), text, nil, 0, 0, right)
		again, _, _ := impl.LinesOf(lineFont, plainAsSaid(), text, nil, 0, 0, right)
		from, to := uintptr(unsafe.Pointer(unsafe.StringData(text))), uintptr(len(text))
		for _, x := range lines {
			if at := uintptr(unsafe.Pointer(unsafe.StringData(x.Text))); at-from < to {
				t.Errorf("%q is a piece of the argument's memory", x.Text)
			}
		}
		want := slices.Clone(again)
		for i := range lines {
			lines[i] = impl.Line{Box: -1, Text: "gone"}
		}
		if !slices.Equal(again, want) {
			t.Errorf("two calls share memory: %v; want %v", again, want)
		}
	}
}
