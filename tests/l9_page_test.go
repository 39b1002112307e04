package tests

import (
	"math"
	"reflect"
	"slices"
	"strconv"
	"strings"
	"testing"
	"unsafe"

	"loop.example/g00164/impl"
)

// level: a height at which boxes stand that is told only when something settles there.
type level struct {
	told bool
	y    int
}

// flow: a context. All that is open stands at the level that is next.
type flow struct {
	y       int
	pending []int
	floats  []impl.Aside
	next    *level
}

// spot: a box, told from the beginning of the float around it.
type spot struct {
	x, w, h int
	top     *level
}

// sheet goes along the document's words. It moves nothing: where all stands is told at the end, from float to float outwards.
type sheet struct {
	f     impl.Font
	l     []impl.Node
	b     []impl.Box
	spots []spot
	lines []impl.Line
}

func joinTaken(margins []int) int {
	return max(0, slices.Max(append([]int{0}, margins...))) + min(0, slices.Min(append([]int{0}, margins...)))
}

func newFlow() *flow {
	return &flow{next: &level{}}
}

func (c *flow) mark(more ...int) int {
	return c.y + joinTaken(append(slices.Clone(c.pending), more...))
}

func (c *flow) settle() {
	c.y, c.pending = c.mark(), nil
	c.next.told, c.next.y = true, c.y
	c.next = &level{}
}

func (m *sheet) style(k int) impl.Style {
	return m.l[m.b[k].Node].Style
}

func (m *sheet) block(c *flow, k int, left int, around int) {
	s, me := m.style(k), &m.spots[k]
	a := blockTaken(s, around)
	edge := s.Border + s.Padding
	me.x, me.w = left+a.Left, a.Wide+2*edge
	used := false
	if s.Clear != 0 {
		would := c.mark(s.MarginTop)
		if to := clearTaken(c.floats, s.Clear, would); to > would {
			c.settle()
			c.y, used = to, true
		}
	}
	if !used {
		c.pending = append(c.pending, s.MarginTop)
	}
	me.top = c.next
	if edge > 0 {
		c.settle()
		c.y += edge
	}
	m.kids(c, k, me.x+edge, a.Wide)
	if !s.Height.Auto {
		c.settle()
		c.y = me.top.y + s.Border + s.Padding + s.Height.N
		me.h = s.Height.N + 2*edge
		c.y += edge
	} else if edge > 0 {
		c.settle()
		c.y += edge
		me.h = max(0, c.y-me.top.y)
	} else if me.top.told {
		me.h = max(0, c.y-me.top.y)
	}
	c.pending = append(c.pending, s.MarginBot)
}

func (m *sheet) kids(c *flow, k int, inner int, wide int) {
	for _, kid := range kidsAsSaid(m.b, k) {
		switch m.b[kid].Kind {
		case 1:
			m.block(c, kid, inner, wide)
		case 2:
			c.settle()
			var lines []impl.Line
			lines, c.y = linesTaken(m.f, m.style(kid), m.b[kid].Text, c.floats, c.y, inner, inner+wide)
			for _, x := range lines {
				x.Box = kid
				m.lines = append(m.lines, x)
			}
		case 3:
			m.float(c, kid, inner, wide)
		}
	}
}

func (m *sheet) float(c *flow, k int, left int, around int) {
	s, me := m.style(k), &m.spots[k]
	a := floatTaken(s, around, acrossAsSaid(m.f, m.l, m.b, k, false), acrossAsSaid(m.f, m.l, m.b, k, true))
	edges := 2*s.Border + 2*s.Padding
	in := newFlow()
	m.kids(in, k, 0, a.Wide)
	in.settle()
	high := s.Height.N
	if s.Height.Auto {
		high = max(in.y, 0)
		for _, b := range in.floats {
			high = max(high, b.Y+b.H)
		}
	}
	from := clearTaken(c.floats, s.Clear, c.mark())
	w, h := max(0, a.Wide+edges+a.Left+a.Right), max(0, high+edges+s.MarginTop+s.MarginBot)
	at := placeTaken(c.floats, s.Float, w, h, from, left, left+around)
	c.floats = append(c.floats, at)
	*me = spot{x: at.X + a.Left, w: a.Wide + edges, h: high + edges, top: &level{told: true, y: at.Y + s.MarginTop}}
}

// origin tells where the innermost float around a box has its content, on the page.
func (m *sheet) origin(k int) (int, int) {
	for k = m.b[k].Up; k >= 0; k = m.b[k].Up {
		if m.b[k].Kind == 3 {
			x, y := m.origin(k)
			edge := m.style(k).Border + m.style(k).Padding
			return x + m.spots[k].x + edge, y + m.spots[k].top.y + edge
		}
	}
	return 0, 0
}

func farAsSaid(x int, y int, w int, h int) bool {
	return !nearAsSaid(x, y, x+w, y+h) || w > 1000000 || h > 1000000
}

// pageAsSaid wants a good font; the tree may be any.
func pageAsSaid(f impl.Font, l []impl.Node, wide int) (impl.Page, int) {
	if !goodFontAsSaid(f) || !goodTreeAsSaid(l) || wide < 0 || wide > 100000 {
		return impl.Page{}, 1
	}
	b, ok := boxesAsSaid(l)
	if !ok {
		return impl.Page{}, 2
	}
	m := sheet{f: f, l: l, b: b, spots: make([]spot, len(b))}
	c := newFlow()
	m.block(c, 0, 0, wide)
	c.settle()
	p := impl.Page{Boxes: b, Places: make([]impl.Place, len(b)), Floats: c.floats, High: c.y}
	far := false
	for k, me := range m.spots {
		if b[k].Kind != 2 {
			x, y := m.origin(k)
			p.Places[k] = impl.Place{X: x + me.x, Y: y + me.top.y, W: me.w, H: me.h}
			far = far || farAsSaid(x+me.x, y+me.top.y, me.w, me.h)
		}
	}
	for _, line := range m.lines {
		x, y := m.origin(line.Box)
		line.X, line.Y = line.X+x, line.Y+y
		p.Lines = append(p.Lines, line)
		far = far || farAsSaid(line.X, line.Y, line.W, line.H)
	}
	for _, a := range c.floats {
		far = far || farAsSaid(a.X, a.Y, a.W, a.H)
	}
	if far {
		return impl.Page{}, 3
	}
	return p, 0
}

// samePage: the empty list and the nil list are the same value.
func samePage(p impl.Page, q impl.Page) bool {
	return slices.Equal(p.Boxes, q.Boxes) && slices.Equal(p.Places, q.Places) && slices.Equal(p.Lines, q.Lines) && slices.Equal(p.Floats, q.Floats) && p.High == q.High
}

func isNoPage(p impl.Page) bool {
	return reflect.DeepEqual(p, impl.Page{})
}

// checkPage holds a page against the document, against promise 9, and what is asked of it, too.
func checkPage(t *testing.T, f impl.Font, l []impl.Node, wide int) (impl.Page, int) {
	t.Helper()
	want, wantCode := pageAsSaid(f, l, wide)
	p, code := impl.LayPage(f, l, wide)
	if !samePage(p, want) || code != wantCode {
		t.Fatalf("LayPage(%+v, %+v, %d) =\n%+v, %d; want\n%+v, %d", f, l, wide, p, code, want, wantCode)
	}
	if code == impl.PageOk {
		checkPromisedPage(t, l, wide, p)
		checkMoved(t, l, p)
	}
	return p, code
}

// checkPromisedPage: promise 9, without a word of how pages are laid out.
func checkPromisedPage(t *testing.T, l []impl.Node, wide int, p impl.Page) {
	t.Helper()
	text := ""
	last := 0
	for _, x := range p.Lines {
		text += x.Text
		if x.Text == "" || x.Box < last || p.Boxes[x.Box].Kind != impl.BoxLines {
			t.Fatalf("%+v: line %+v of box %+v behind one of box %d", l, x, p.Boxes[x.Box], last)
		}
		last = x.Box
	}
	if shown, _ := impl.TextShown(p.Boxes); text != shown {
		t.Fatalf("%+v: lines have %q of %q", l, text, shown)
	}
	if apart, ok := impl.ApartFloats(p.Floats); !apart || !ok {
		t.Fatalf("%+v: floats %v: apart is %v, %v", l, p.Floats, apart, ok)
	}
	for k, x := range p.Boxes {
		checkFilled(t, l, wide, p, k)
		if x.Kind == impl.BoxLines && p.Places[k] != (impl.Place{}) {
			t.Fatalf("%+v: lines have a place: %v", l, p.Places[k])
		}
	}
}

// checkFilled: a block, its margins and its edges are as wide as what is in the box around it.
func checkFilled(t *testing.T, l []impl.Node, wide int, p impl.Page, k int) {
	t.Helper()
	if p.Boxes[k].Kind != impl.BoxBlock {
		return
	}
	left, around := 0, wide
	if up := p.Boxes[k].Up; up >= 0 {
		s := l[p.Boxes[up].Node].Style
		left, around = p.Places[up].X+s.Border+s.Padding, p.Places[up].W-2*s.Border-2*s.Padding
	}
	s, at := l[p.Boxes[k].Node].Style, p.Places[k]
	a, ok := impl.BlockAcross(s, around)
	if !ok {
		return // a margin beyond lengths
	}
	if at.X != left+a.Left || at.W != a.Wide+2*s.Border+2*s.Padding || a.Left+at.W+a.Right != around {
		t.Fatalf("%+v: box %d at %v, margins %d and %d, in %d from %d on", l, k, at, a.Left, a.Right, around, left)
	}
}

// stepAsSaid adds up what moves a box, from the innermost outwards.
func stepAsSaid(l []impl.Node, b []impl.Box, k int) (int, int) {
	right, down := 0, 0
	for ; k >= 0; k = b[k].Up {
		if b[k].Kind != 2 {
			right, down = right+l[b[k].Node].Style.Right, down+l[b[k].Node].Style.Down
		}
	}
	return right, down
}

func movedAsSaid(l []impl.Node, p impl.Page) impl.Page {
	p.Places, p.Lines = slices.Clone(p.Places), slices.Clone(p.Lines)
	for k := range p.Places {
		if p.Boxes[k].Kind != 2 {
			right, down := stepAsSaid(l, p.Boxes, k)
			p.Places[k].X, p.Places[k].Y = p.Places[k].X+right, p.Places[k].Y+down
		}
	}
	for i := range p.Lines {
		right, down := stepAsSaid(l, p.Boxes, p.Lines[i].Box)
		p.Lines[i].X, p.Lines[i].Y = p.Lines[i].X+right, p.Lines[i].Y+down
	}
	return p
}

func checkMoved(t *testing.T, l []impl.Node, p impl.Page) impl.Page {
	t.Helper()
	want := movedAsSaid(l, p)
	q, ok := impl.MovePage(l, p)
	if !samePage(q, want) || !ok {
		t.Fatalf("MovePage(%+v, %+v) =\n%+v, %v; want\n%+v, true", l, p, q, ok, want)
	}
	return q
}

func placeOfAsSaid(p impl.Page, node int) (impl.Place, bool) {
	if len(p.Boxes) > 80 || len(p.Places) != len(p.Boxes) {
		return impl.Place{}, false
	}
	for k, x := range p.Boxes {
		if x.Node == node && x.Kind != 2 {
			return p.Places[k], true
		}
	}
	return impl.Place{}, false
}

func boxAtAsSaid(p impl.Page, x int, y int) (int, bool) {
	good := len(p.Boxes) <= 80 && len(p.Places) == len(p.Boxes) && nearAsSaid(x, y)
	for _, at := range p.Places {
		good = good && !farAsSaid(at.X, at.Y, at.W, at.H)
	}
	if !good {
		return 0, false
	}
	found := -1
	for k, at := range p.Places {
		if p.Boxes[k].Kind != 2 && within(x, at.X, at.X+at.W-1) && within(y, at.Y, at.Y+at.H-1) {
			found = k
		}
	}
	return max(found, 0), found >= 0
}

func linesInAsSaid(p impl.Page, box int) ([]impl.Line, bool) {
	if len(p.Boxes) > 80 || len(p.Places) != len(p.Boxes) || len(p.Lines) > 400 || box < 0 || box >= len(p.Boxes) {
		return nil, false
	}
	return slices.DeleteFunc(slices.Clone(p.Lines), func(x impl.Line) bool { return x.Box != box }), true
}

// checkAsked holds what is asked of any page against the document.
func checkAsked(t *testing.T, p impl.Page, node int, box int, x int, y int) {
	t.Helper()
	place, placeOk := placeOfAsSaid(p, node)
	if got, ok := impl.PlaceOf(p, node); got != place || ok != placeOk {
		t.Fatalf("PlaceOf(%+v, %d) = %v, %v; want %v, %v", p, node, got, ok, place, placeOk)
	}
	at, atOk := boxAtAsSaid(p, x, y)
	if got, ok := impl.BoxAt(p, x, y); got != at || ok != atOk {
		t.Fatalf("BoxAt(%+v, %d, %d) = %d, %v; want %d, %v", p, x, y, got, ok, at, atOk)
	}
	lines, linesOk := linesInAsSaid(p, box)
	if got, ok := impl.LinesIn(p, box); !slices.Equal(got, lines) || ok != linesOk {
		t.Fatalf("LinesIn(%+v, %d) = %v, %v; want %v, %v", p, box, got, ok, lines, linesOk)
	}
}

// blockWith and floatWith change a plain element.
func blockWith(up int, change func(s *impl.Style)) impl.Node { return styled(element(up), change) }
func floatWith(up int, change func(s *impl.Style)) impl.Node { return styled(floating(up), change) }

// apartBy: a block with margins above and below.
func apartBy(up int, top int, bot int) impl.Node {
	return blockWith(up, func(s *impl.Style) { s.MarginTop, s.MarginBot = top, bot })
}

// sized: a left float of that size.
func sized(up int, wide int, high int) impl.Node {
	return floatWith(up, func(s *impl.Style) { s.Width, s.Height = lengthOf(wide), lengthOf(high) })
}

func lineIn(box int, x int, y int, w int, text string) impl.Line {
	return impl.Line{Box: box, X: x, Y: y, W: w, H: 8, Text: text}
}

func TestPageConstants(t *testing.T) {
	if got := []int{impl.MaxWide, impl.PageOk, impl.PageBad, impl.PageBoxes, impl.PageFar}; !slices.Equal(got, []int{100000, 0, 1, 2, 3}) {
		t.Error(got)
	}
}

type pageCase struct {
	name   string
	l      []impl.Node
	places []impl.Place
	lines  []impl.Line
	floats []impl.Aside
	high   int
}

// checkPageCases lays out pages that are 100 wide, in letters of the lineFont.
func checkPageCases(t *testing.T, cases []pageCase) {
	t.Helper()
	for _, c := range cases {
		p, code := impl.LayPage(lineFont, c.l, 100)
		if code != impl.PageOk || !slices.Equal(p.Places, c.places) || !slices.Equal(p.Lines, c.lines) || !slices.Equal(p.Floats, c.floats) || p.High != c.high {
			t.Errorf("%s: LayPage =\n%v, %v, %v, %d, code %d; want\n%v, %v, %v, %d", c.name, p.Places, p.Lines, p.Floats, p.High, code, c.places, c.lines, c.floats, c.high)
		}
		for _, wide := range []int{0, 1, 33, 100, 100000} {
			for _, f := range lineFonts {
				checkPage(t, f, c.l, wide)
			}
		}
	}
}

// Promise 9: margins that join, and blocks that are open.
func TestPagesOfBlocks(t *testing.T) {
	none := impl.Place{}
	edged := func(up int, border int, padding int, top int, bot int) impl.Node {
		return blockWith(up, func(s *impl.Style) {
			s.Border, s.Padding, s.MarginTop, s.MarginBot = border, padding, top, bot
		})
	}
	high := func(up int, n int, top int) impl.Node {
		return blockWith(up, func(s *impl.Style) { s.Height, s.MarginTop = lengthOf(n), top })
	}
	checkPageCases(t, []pageCase{
		{"a block alone", nested(1), []impl.Place{{W: 100}}, nil, nil, 0},
		{"a block alone with margins", []impl.Node{apartBy(-1, 10, -4)}, []impl.Place{{Y: 6, W: 100}}, nil, nil, 6},
		{"a text", []impl.Node{element(-1), words(0, " aa ")}, []impl.Place{{W: 100, H: 8}, none}, []impl.Line{lineIn(1, 0, 0, 10, "aa")}, nil, 8},
		{"margins side by side", []impl.Node{element(-1), apartBy(0, 10, 30), words(1, "a"), apartBy(0, 20, 0), words(3, "b")},
			[]impl.Place{{Y: 10, W: 100, H: 46}, {Y: 10, W: 100, H: 8}, none, {Y: 48, W: 100, H: 8}, none},
			[]impl.Line{lineIn(2, 0, 10, 5, "a"), lineIn(4, 0, 48, 5, "b")}, nil, 56},
		{"one below 0", []impl.Node{element(-1), apartBy(0, 0, 30), words(1, "a"), apartBy(0, -12, 0), words(3, "b")},
			[]impl.Place{{W: 100, H: 34}, {W: 100, H: 8}, none, {Y: 26, W: 100, H: 8}, none},
			[]impl.Line{lineIn(2, 0, 0, 5, "a"), lineIn(4, 0, 26, 5, "b")}, nil, 34},
		{"both below 0", []impl.Node{element(-1), apartBy(0, 0, -3), words(1, "a"), apartBy(0, -5, 0), words(3, "b")},
			[]impl.Place{{W: 100, H: 11}, {W: 100, H: 8}, none, {Y: 3, W: 100, H: 8}, none},
			[]impl.Line{lineIn(2, 0, 0, 5, "a"), lineIn(4, 0, 3, 5, "b")}, nil, 11},
		{"margins in one another", []impl.Node{apartBy(-1, 5, 0), apartBy(0, 7, 0), apartBy(1, -2, 0), words(2, "a")},
			[]impl.Place{{Y: 5, W: 100, H: 8}, {Y: 5, W: 100, H: 8}, {Y: 5, W: 100, H: 8}, none}, []impl.Line{lineIn(3, 0, 5, 5, "a")}, nil, 13},
		{"margins below in one another", []impl.Node{apartBy(-1, 0, 4), apartBy(0, 0, 9), words(1, "a")},
			[]impl.Place{{W: 100, H: 8}, {W: 100, H: 8}, none}, []impl.Line{lineIn(2, 0, 0, 5, "a")}, nil, 17},
		{"an empty block stands where the next thing begins", []impl.Node{element(-1), apartBy(0, 0, 10), words(1, "a"), apartBy(0, 20, 5), apartBy(0, 15, 0), words(4, "b")},
			[]impl.Place{{W: 100, H: 36}, {W: 100, H: 8}, none, {Y: 28, W: 100}, {Y: 28, W: 100, H: 8}, none},
			[]impl.Line{lineIn(2, 0, 0, 5, "a"), lineIn(5, 0, 28, 5, "b")}, nil, 36},
		{"an empty block with an empty one in it", []impl.Node{element(-1), words(0, "a"), apartBy(0, 4, 0), apartBy(2, 6, 1), words(0, "b")},
			[]impl.Place{{W: 100, H: 22}, none, {Y: 14, W: 100}, {Y: 14, W: 100}, none}, []impl.Line{lineIn(1, 0, 0, 5, "a"), lineIn(4, 0, 14, 5, "b")}, nil, 22},
		{"an empty block at the end", []impl.Node{element(-1), words(0, "a"), apartBy(0, 4, 9)},
			[]impl.Place{{W: 100, H: 8}, none, {Y: 17, W: 100}}, []impl.Line{lineIn(1, 0, 0, 5, "a")}, nil, 17},
		{"edges keep margins apart", []impl.Node{edged(-1, 1, 2, 0, 6), apartBy(0, 10, 5), words(1, "a")},
			[]impl.Place{{W: 100, H: 29}, {X: 3, Y: 13, W: 94, H: 8}, none}, []impl.Line{lineIn(2, 3, 13, 5, "a")}, nil, 35},
		{"a border alone does", []impl.Node{edged(-1, 1, 0, 3, 0), apartBy(0, 10, 5), words(1, "a")},
			[]impl.Place{{Y: 3, W: 100, H: 25}, {X: 1, Y: 14, W: 98, H: 8}, none}, []impl.Line{lineIn(2, 1, 14, 5, "a")}, nil, 28},
		{"a padding alone does", []impl.Node{edged(-1, 0, 1, 3, 0), apartBy(0, 10, 5), words(1, "a")},
			[]impl.Place{{Y: 3, W: 100, H: 25}, {X: 1, Y: 14, W: 98, H: 8}, none}, []impl.Line{lineIn(2, 1, 14, 5, "a")}, nil, 28},
		{"an empty block with edges", []impl.Node{element(-1), edged(0, 1, 2, 4, 5), words(0, "a")},
			[]impl.Place{{Y: 4, W: 100, H: 19}, {Y: 4, W: 100, H: 6}, none}, []impl.Line{lineIn(2, 0, 15, 5, "a")}, nil, 23},
		{"no height below 0 with edges", []impl.Node{edged(-1, 1, 0, 0, 0), apartBy(0, 0, -50), words(1, "a")},
			[]impl.Place{{W: 100}, {X: 1, Y: 1, W: 98, H: 8}, none}, []impl.Line{lineIn(2, 1, 1, 5, "a")}, nil, -40},
		{"no height below 0 without", []impl.Node{element(-1), words(0, "a"), apartBy(0, -50, 0), words(2, "b"), words(0, "c")},
			[]impl.Place{{W: 100}, none, {Y: -42, W: 100, H: 8}, none, none},
			[]impl.Line{lineIn(1, 0, 0, 5, "a"), lineIn(3, 0, -42, 5, "b"), lineIn(4, 0, -34, 5, "c")}, nil, -26},
		{"a height", []impl.Node{element(-1), high(0, 20, 0), words(1, "a"), words(0, "b")},
			[]impl.Place{{W: 100, H: 28}, {W: 100, H: 20}, none, none}, []impl.Line{lineIn(2, 0, 0, 5, "a"), lineIn(3, 0, 20, 5, "b")}, nil, 28},
		{"a height that is too little", []impl.Node{element(-1), high(0, 3, 0), words(1, "a"), words(0, "b")},
			[]impl.Place{{W: 100, H: 11}, {W: 100, H: 3}, none, none}, []impl.Line{lineIn(2, 0, 0, 5, "a"), lineIn(3, 0, 3, 5, "b")}, nil, 11},
		{"a height ends the margins in it", []impl.Node{element(-1), high(0, 20, 0), apartBy(1, 0, 50), words(2, "a"), words(0, "b")},
			[]impl.Place{{W: 100, H: 28}, {W: 100, H: 20}, {W: 100, H: 8}, none, none}, []impl.Line{lineIn(3, 0, 0, 5, "a"), lineIn(4, 0, 20, 5, "b")}, nil, 28},
		{"a height of 0 keeps margins apart", []impl.Node{element(-1), high(0, 0, 7), apartBy(0, 5, 0), words(2, "a")},
			[]impl.Place{{Y: 7, W: 100, H: 13}, {Y: 7, W: 100}, {Y: 12, W: 100, H: 8}, none}, []impl.Line{lineIn(3, 0, 12, 5, "a")}, nil, 20},
		{"an empty block with a height takes the margins in it", []impl.Node{element(-1), high(0, 2, 7), apartBy(1, 9, 0), words(0, "a")},
			[]impl.Place{{Y: 9, W: 100, H: 10}, {Y: 9, W: 100, H: 2}, {Y: 9, W: 100}, none}, []impl.Line{lineIn(3, 0, 11, 5, "a")}, nil, 19},
		{"a height with edges", []impl.Node{blockWith(-1, func(s *impl.Style) { s.Height, s.Border, s.Padding, s.MarginBot = lengthOf(20), 1, 2, 5 }), words(0, "a")},
			[]impl.Place{{W: 100, H: 26}, none}, []impl.Line{lineIn(1, 3, 3, 5, "a")}, nil, 31},
		{"across", []impl.Node{blockWith(-1, func(s *impl.Style) {
			s.MarginLeft, s.MarginRight, s.Border = lengthOf(5), percentOf(1000), 2
		}), blockWith(0, func(s *impl.Style) { s.Width, s.MarginLeft, s.MarginRight = percentOf(5000), autoSize, autoSize }), words(1, "a")},
			[]impl.Place{{X: 5, W: 85, H: 12}, {X: 27, Y: 2, W: 40, H: 8}, none}, []impl.Line{lineIn(2, 27, 2, 5, "a")}, nil, 12},
		{"inline elements have no margins", []impl.Node{element(-1), words(0, "a "), styled(inline(0), func(s *impl.Style) { s.MarginTop, s.Padding, s.Clear, s.LineHeight = 9, 9, 3, 50 }), words(2, "b")},
			[]impl.Place{{W: 100, H: 8}, none}, []impl.Line{lineIn(1, 0, 0, 12, "a b")}, nil, 8},
		{"what is not shown has no place", []impl.Node{element(-1), apartBy(0, 1, 1), words(1, "a"), styled(hidden(0), func(s *impl.Style) { s.MarginTop, s.Height = 99, lengthOf(99) }), words(0, "b")},
			[]impl.Place{{Y: 1, W: 100, H: 17}, {Y: 1, W: 100, H: 8}, none, none}, []impl.Line{lineIn(2, 0, 1, 5, "a"), lineIn(3, 0, 10, 5, "b")}, nil, 18},
		{"lines by the style of their block", []impl.Node{blockWith(-1, func(s *impl.Style) { s.Align, s.White, s.LineHeight = impl.AlignRight, impl.WhitePre, 10 }), words(0, "a\nbb")},
			[]impl.Place{{W: 100, H: 20}, none}, []impl.Line{{Box: 1, X: 95, W: 5, H: 10, Text: "a\n"}, {Box: 1, X: 90, Y: 10, W: 10, H: 10, Text: "bb"}}, nil, 20},
	})
}

// Promise 9: floats, lines beside them, and what clears them.
func TestPagesOfFloats(t *testing.T) {
	none := impl.Place{}
	clearing := func(up int, clear int, top int) impl.Node {
		return blockWith(up, func(s *impl.Style) { s.Clear, s.MarginTop = clear, top })
	}
	full := func(s *impl.Style) {
		s.MarginLeft, s.MarginTop, s.MarginRight, s.MarginBot = lengthOf(1), 2, lengthOf(3), 4
		s.Border, s.Padding, s.Width, s.Height = 5, 6, lengthOf(20), lengthOf(30)
	}
	checkPageCases(t, []pageCase{
		{"lines beside a float", []impl.Node{element(-1), sized(0, 80, 10), words(0, "aa aa aaa")},
			[]impl.Place{{W: 100, H: 24}, {W: 80, H: 10}, none},
			[]impl.Line{lineIn(2, 80, 0, 10, "aa "), lineIn(2, 80, 8, 10, "aa "), lineIn(2, 0, 16, 15, "aaa")}, []impl.Aside{atLeft(0, 0, 80, 10)}, 24},
		{"a block beside a float is as wide as ever", []impl.Node{element(-1), sized(0, 80, 10), element(0), words(2, "aa")},
			[]impl.Place{{W: 100, H: 8}, {W: 80, H: 10}, {W: 100, H: 8}, none}, []impl.Line{lineIn(3, 80, 0, 10, "aa")}, []impl.Aside{atLeft(0, 0, 80, 10)}, 8},
		{"a float in a block that is over", []impl.Node{element(-1), element(0), sized(1, 80, 10), element(0), words(3, "aa")},
			[]impl.Place{{W: 100, H: 8}, {W: 100}, {W: 80, H: 10}, {W: 100, H: 8}, none}, []impl.Line{lineIn(4, 80, 0, 10, "aa")}, []impl.Aside{atLeft(0, 0, 80, 10)}, 8},
		{"a float behind lines", []impl.Node{element(-1), words(0, "a"), sized(0, 80, 10), words(0, "b")},
			[]impl.Place{{W: 100, H: 16}, none, {Y: 8, W: 80, H: 10}, none}, []impl.Line{lineIn(1, 0, 0, 5, "a"), lineIn(3, 80, 8, 5, "b")}, []impl.Aside{atLeft(0, 8, 80, 10)}, 16},
		{"a float with all", []impl.Node{element(-1), floatWith(0, full), words(1, "a"), words(0, "b")},
			[]impl.Place{{W: 100, H: 8}, {X: 1, Y: 2, W: 42, H: 52}, none, none}, []impl.Line{lineIn(2, 12, 13, 5, "a"), lineIn(3, 46, 0, 5, "b")}, []impl.Aside{atLeft(0, 0, 46, 58)}, 8},
		{"a float with all on the right", []impl.Node{element(-1), floatWith(0, func(s *impl.Style) { full(s); s.Float = impl.SideRight }), words(1, "a"), words(0, "b")},
			[]impl.Place{{W: 100, H: 8}, {X: 55, Y: 2, W: 42, H: 52}, none, none}, []impl.Line{lineIn(2, 66, 13, 5, "a"), lineIn(3, 0, 0, 5, "b")}, []impl.Aside{atRight(54, 0, 46, 58)}, 8},
		{"a float stands at the mark and settles nothing", []impl.Node{element(-1), apartBy(0, 0, 10), words(1, "a"), sized(0, 9, 9), apartBy(0, 30, 0), words(4, "b")},
			[]impl.Place{{W: 100, H: 46}, {W: 100, H: 8}, none, {Y: 18, W: 9, H: 9}, {Y: 38, W: 100, H: 8}, none},
			[]impl.Line{lineIn(2, 0, 0, 5, "a"), lineIn(5, 0, 38, 5, "b")}, []impl.Aside{atLeft(0, 18, 9, 9)}, 46},
		{"a float in a block that is open", []impl.Node{element(-1), apartBy(0, 10, 0), sized(1, 9, 9), apartBy(1, 30, 0), words(3, "b")},
			[]impl.Place{{Y: 30, W: 100, H: 8}, {Y: 30, W: 100, H: 8}, {Y: 10, W: 9, H: 9}, {Y: 30, W: 100, H: 8}, none},
			[]impl.Line{lineIn(4, 0, 30, 5, "b")}, []impl.Aside{atLeft(0, 10, 9, 9)}, 38},
		{"a float between a block's edges", []impl.Node{blockWith(-1, func(s *impl.Style) { s.Padding, s.MarginLeft = 10, lengthOf(20) }), sized(0, 9, 9), styled(sized(0, 9, 5), func(s *impl.Style) { s.Float = impl.SideRight })},
			[]impl.Place{{X: 20, W: 80, H: 20}, {X: 30, Y: 10, W: 9, H: 9}, {X: 81, Y: 10, W: 9, H: 5}}, nil, []impl.Aside{atLeft(30, 10, 9, 9), atRight(81, 10, 9, 5)}, 20},
		{"floats beside each other and below", []impl.Node{element(-1), sized(0, 60, 9), sized(0, 40, 5), sized(0, 50, 7)},
			[]impl.Place{{W: 100}, {W: 60, H: 9}, {X: 60, W: 40, H: 5}, {Y: 9, W: 50, H: 7}}, nil, []impl.Aside{atLeft(0, 0, 60, 9), atLeft(60, 0, 40, 5), atLeft(0, 9, 50, 7)}, 0},
		{"a float that clears", []impl.Node{element(-1), sized(0, 10, 9), styled(sized(0, 10, 5), func(s *impl.Style) { s.Clear = impl.SideLeft }), styled(sized(0, 10, 5), func(s *impl.Style) { s.Clear = impl.SideRight })},
			[]impl.Place{{W: 100}, {W: 10, H: 9}, {Y: 9, W: 10, H: 5}, {X: 10, Y: 9, W: 10, H: 5}}, nil, []impl.Aside{atLeft(0, 0, 10, 9), atLeft(0, 9, 10, 5), atLeft(10, 9, 10, 5)}, 0},
		{"a block that clears", []impl.Node{element(-1), sized(0, 20, 30), clearing(0, impl.SideLeft, 10), words(2, "b")},
			[]impl.Place{{W: 100, H: 38}, {W: 20, H: 30}, {Y: 30, W: 100, H: 8}, none}, []impl.Line{lineIn(3, 0, 30, 5, "b")}, []impl.Aside{atLeft(0, 0, 20, 30)}, 38},
		{"a block that clears settles without its margin", []impl.Node{element(-1), words(0, "a"), apartBy(0, 3, 0), sized(0, 20, 30), clearing(0, impl.SideBoth, 10), words(4, "b")},
			[]impl.Place{{W: 100, H: 49}, none, {Y: 11, W: 100}, {Y: 11, W: 20, H: 30}, {Y: 41, W: 100, H: 8}, none}, []impl.Line{lineIn(1, 0, 0, 5, "a"), lineIn(5, 0, 41, 5, "b")}, []impl.Aside{atLeft(0, 11, 20, 30)}, 49},
		{"a block that clears is open still", []impl.Node{element(-1), sized(0, 20, 30), clearing(0, impl.SideLeft, 10), apartBy(2, 7, 0), words(3, "b")},
			[]impl.Place{{W: 100, H: 45}, {W: 20, H: 30}, {Y: 37, W: 100, H: 8}, {Y: 37, W: 100, H: 8}, none}, []impl.Line{lineIn(4, 0, 37, 5, "b")}, []impl.Aside{atLeft(0, 0, 20, 30)}, 45},
		{"a margin that clears by itself", []impl.Node{element(-1), sized(0, 20, 30), clearing(0, impl.SideLeft, 30), words(2, "b")},
			[]impl.Place{{Y: 30, W: 100, H: 8}, {W: 20, H: 30}, {Y: 30, W: 100, H: 8}, none}, []impl.Line{lineIn(3, 0, 30, 5, "b")}, []impl.Aside{atLeft(0, 0, 20, 30)}, 38},
		{"a margin that does not", []impl.Node{element(-1), sized(0, 20, 30), clearing(0, impl.SideLeft, 29), words(2, "b")},
			[]impl.Place{{W: 100, H: 38}, {W: 20, H: 30}, {Y: 30, W: 100, H: 8}, none}, []impl.Line{lineIn(3, 0, 30, 5, "b")}, []impl.Aside{atLeft(0, 0, 20, 30)}, 38},
		{"a block that clears the other side", []impl.Node{element(-1), sized(0, 20, 30), clearing(0, impl.SideRight, 10), words(2, "b")},
			[]impl.Place{{Y: 10, W: 100, H: 8}, {W: 20, H: 30}, {Y: 10, W: 100, H: 8}, none}, []impl.Line{lineIn(3, 20, 10, 5, "b")}, []impl.Aside{atLeft(0, 0, 20, 30)}, 18},
		{"as wide as its text", []impl.Node{element(-1), floating(0), words(1, "aa bb")},
			[]impl.Place{{W: 100}, {W: 22, H: 8}, none}, []impl.Line{lineIn(2, 0, 0, 22, "aa bb")}, []impl.Aside{atLeft(0, 0, 22, 8)}, 0},
		{"as wide as there is room", []impl.Node{blockWith(-1, func(s *impl.Style) { s.Width = lengthOf(15) }), floating(0), words(1, "aa bb")},
			[]impl.Place{{W: 15}, {W: 15, H: 16}, none}, []impl.Line{lineIn(2, 0, 0, 10, "aa "), lineIn(2, 0, 8, 10, "bb")}, []impl.Aside{atLeft(0, 0, 15, 16)}, 0},
		{"as wide as its widest word", []impl.Node{blockWith(-1, func(s *impl.Style) { s.Width = lengthOf(8) }), floating(0), words(1, "aa bb")},
			[]impl.Place{{W: 8}, {W: 10, H: 16}, none}, []impl.Line{lineIn(2, 0, 0, 10, "aa "), lineIn(2, 0, 8, 10, "bb")}, []impl.Aside{atLeft(0, 0, 10, 16)}, 0},
		{"margins in a float stay in it", []impl.Node{element(-1), floating(0), apartBy(1, 5, 7), words(2, "a"), words(0, "b")},
			[]impl.Place{{W: 100, H: 8}, {W: 5, H: 20}, {Y: 5, W: 5, H: 8}, none, none}, []impl.Line{lineIn(3, 0, 5, 5, "a"), lineIn(4, 5, 0, 5, "b")}, []impl.Aside{atLeft(0, 0, 5, 20)}, 8},
		{"a float's height is not below 0", []impl.Node{element(-1), floating(0), apartBy(1, 5, -27), words(2, "a")},
			[]impl.Place{{W: 100}, {W: 5}, {Y: 5, W: 5, H: 8}, none}, []impl.Line{lineIn(3, 0, 5, 5, "a")}, []impl.Aside{atLeft(0, 0, 5, 0)}, 0},
		{"a float has its floats in it", []impl.Node{element(-1), floatWith(0, func(s *impl.Style) { s.Padding, s.Width = 3, lengthOf(20) }), sized(1, 9, 30), words(1, "a"), words(0, "b")},
			[]impl.Place{{W: 100, H: 8}, {W: 26, H: 36}, {X: 3, Y: 3, W: 9, H: 30}, none, none},
			[]impl.Line{lineIn(3, 12, 3, 5, "a"), lineIn(4, 26, 0, 5, "b")}, []impl.Aside{atLeft(0, 0, 26, 36)}, 8},
		{"a text in it that goes below them", []impl.Node{element(-1), floatWith(0, func(s *impl.Style) { s.Padding = 3 }), sized(1, 9, 30), words(1, "a"), words(0, "b")},
			[]impl.Place{{W: 100, H: 8}, {W: 15, H: 44}, {X: 3, Y: 3, W: 9, H: 30}, none, none},
			[]impl.Line{lineIn(3, 3, 33, 5, "a"), lineIn(4, 15, 0, 5, "b")}, []impl.Aside{atLeft(0, 0, 15, 44)}, 8},
		{"its own height has not", []impl.Node{element(-1), floatWith(0, func(s *impl.Style) { s.Height = lengthOf(2) }), sized(1, 9, 30), words(0, "b")},
			[]impl.Place{{W: 100, H: 8}, {W: 9, H: 2}, {W: 9, H: 30}, none}, []impl.Line{lineIn(3, 9, 0, 5, "b")}, []impl.Aside{atLeft(0, 0, 9, 2)}, 8},
		{"what is in a float goes with it", []impl.Node{element(-1), words(0, "x"), floatWith(0, full), blockWith(2, func(s *impl.Style) { s.Padding = 1 }), floatWith(3, func(s *impl.Style) { s.Float, s.Border = impl.SideRight, 1 }), words(4, "a"), words(3, "b")},
			[]impl.Place{{W: 100, H: 8}, none, {X: 1, Y: 10, W: 42, H: 52}, {X: 12, Y: 21, W: 20, H: 10}, {X: 24, Y: 22, W: 7, H: 10}, none, none},
			[]impl.Line{lineIn(1, 0, 0, 5, "x"), lineIn(5, 25, 23, 5, "a"), lineIn(6, 13, 22, 5, "b")}, []impl.Aside{atLeft(0, 8, 46, 58)}, 8},
		{"margins below 0 leave a float no size", []impl.Node{element(-1), styled(sized(0, 20, 20), func(s *impl.Style) { s.MarginLeft, s.MarginTop = lengthOf(-21), -21 }), words(0, "b")},
			[]impl.Place{{W: 100, H: 8}, {X: -21, Y: -21, W: 20, H: 20}, none}, []impl.Line{lineIn(2, 0, 0, 5, "b")}, []impl.Aside{atLeft(0, 0, 0, 0)}, 8},
		{"a float's own margins that are Auto", []impl.Node{element(-1), styled(sized(0, 20, 20), func(s *impl.Style) { s.MarginLeft, s.MarginRight = autoSize, autoSize })},
			[]impl.Place{{W: 100}, {W: 20, H: 20}}, nil, []impl.Aside{atLeft(0, 0, 20, 20)}, 0},
	})
}

// fallingBy: nodes in an element, which has lines as high as may be, that bring what is behind them down by n.
func fallingBy(up int, n int) []impl.Node {
	var l []impl.Node
	for n > 0 {
		if n >= 12800000 {
			l = append(l, words(up, strings.Repeat("\n", 200)))
			n -= 12800000
		}
		high := min(n, 1000000)
		l = append(l, blockWith(up, func(s *impl.Style) { s.Height = lengthOf(high) }))
		n -= high
	}
	return l
}

func highLines(s *impl.Style) {
	s.Height, s.White, s.LineHeight = lengthOf(0), impl.WhitePre, 64000
}

// fallen: an element as high as nothing, with a node in it that is so far down.
func fallen(n int, last impl.Node) []impl.Node {
	l := append([]impl.Node{blockWith(-1, highLines)}, fallingBy(0, n)...)
	return append(l, last)
}

func checkCode(t *testing.T, name string, f impl.Font, l []impl.Node, wide int, want int) impl.Page {
	t.Helper()
	p, code := checkPage(t, f, l, wide)
	if code != want {
		t.Errorf("%s: LayPage tells %d; want %d", name, code, want)
	}
	if code != impl.PageOk && !isNoPage(p) {
		t.Errorf("%s: LayPage tells %+v beside %d", name, p, code)
	}
	return p
}

// The limits may be met exactly; one more is too far.
func TestPagesThatAreFar(t *testing.T) {
	flat := blockWith(0, func(s *impl.Style) { s.Height = lengthOf(0) })
	tall := blockWith(0, func(s *impl.Style) { s.Height = lengthOf(7) })
	hanging := styled(sized(0, 5, 7), func(s *impl.Style) { s.MarginBot = 2 })
	sinking := styled(sized(0, 5, 7), func(s *impl.Style) { s.MarginTop, s.MarginBot = 2, -2 })
	for more, want := range []int{impl.PageOk, impl.PageFar} {
		checkCode(t, "the top of a block", lineFont, fallen(farthest+more, flat), 100, want)
		checkCode(t, "an empty block", lineFont, fallen(farthest+more, element(0)), 100, want)
		checkCode(t, "the bottom of a block", lineFont, fallen(farthest-7+more, tall), 100, want)
		checkCode(t, "the bottom of a line", lineFont, fallen(farthest-64000+more, words(0, "a")), 100, want)
		checkCode(t, "the bottom of a float", lineFont, fallen(farthest-7+more, sized(0, 5, 7)), 100, want)
		checkCode(t, "the bottom of a float's margin", lineFont, fallen(farthest-9+more, hanging), 100, want)
		checkCode(t, "the bottom of a float below its margins", lineFont, fallen(farthest-9+more, sinking), 100, want)
		moved := blockWith(0, func(s *impl.Style) { s.Height, s.Down = lengthOf(7), 1000000 })
		checkCode(t, "what moves later does not count", lineFont, fallen(farthest-7+more, moved), 100, want)
	}
	for more, want := range []int{impl.PageOk, impl.PageFar} {
		size := func(wide int, high int, border int, change func(s *impl.Style)) impl.Node {
			return blockWith(-1, func(s *impl.Style) {
				s.Width, s.Height, s.Border = lengthOf(wide), lengthOf(high), border
				change(s)
			})
		}
		plain := func(*impl.Style) {}
		checkCode(t, "a width", lineFont, []impl.Node{size(999998, 0, 1+more, plain)}, 100, want)
		checkCode(t, "a height", lineFont, []impl.Node{size(5, 999998, 1+more, plain)}, 100, want)
		checkCode(t, "a least width", lineFont, []impl.Node{size(5, 0, more, func(s *impl.Style) { s.MinWidth = 1000000 })}, 100, want)
		checkCode(t, "a width in percents", lineFont, []impl.Node{size(5, 0, more, func(s *impl.Style) { s.Width = percentOf(100000) })}, 100000, want)
		checkCode(t, "a width by margins", lineFont, []impl.Node{size(5, 0, 0, func(s *impl.Style) { s.Width, s.MarginLeft = autoSize, lengthOf(-999900-more) })}, 100, want)
		// A font's letters 5000 wide, 200 of them.
		f := impl.Font{Ascent: 1, Narrow: 1, Usual: 1, Broad: 5000 + more}
		checkCode(t, "a line", f, []impl.Node{element(-1), words(0, strings.Repeat("W", 200))}, 100, want)
		content := append([]impl.Node{blockWith(-1, func(s *impl.Style) { s.White, s.LineHeight = impl.WhitePre, 64000 })}, words(0, strings.Repeat("\n", 15)))
		content = append(content, blockWith(0, func(s *impl.Style) { s.Height = lengthOf(40000 + more) }))
		checkCode(t, "a height of all in it", lineFont, content, 100, want)
		wide := styled(sized(0, 999990, 5), func(s *impl.Style) { s.MarginRight = lengthOf(10 + more) })
		high := styled(sized(0, 5, 999990), func(s *impl.Style) { s.MarginTop = 10 + more })
		checkCode(t, "a float's margins across", lineFont, []impl.Node{element(-1), wide}, 100, want)
		checkCode(t, "a float's margins down", lineFont, []impl.Node{element(-1), high}, 100, want)
		// The margins of a float in a float are no Float of the page.
		wide.Up, high.Up = 1, 1
		checkCode(t, "a float in a float", lineFont, []impl.Node{element(-1), sized(0, 10, 10), wide, high}, 100, impl.PageOk)
		checkCode(t, "a float in a float itself", lineFont, []impl.Node{element(-1), sized(0, 10, 10), sized(1, 1000000, 1000000), styled(sized(1, 1000000, 5), func(s *impl.Style) { s.Border = more })}, 100, want)
	}
	deep := nested(8)
	for i := range deep {
		deep[i].Style.MarginLeft, deep[i].Style.MarginRight = percentOf(-100000), percentOf(-100000)
	}
	checkCode(t, "wider and wider", lineFont, deep, 100000, impl.PageFar)
}

// What comes up on the way may be as great as it likes.
func TestPagesFarOnTheWay(t *testing.T) {
	l := []impl.Node{blockWith(-1, highLines)}
	for range 15 {
		l = append(l, blockWith(0, func(s *impl.Style) { s.Height, s.MarginTop = lengthOf(0), -1000000 }))
	}
	l = append(l, floatWith(0, func(s *impl.Style) { highLines(s); s.Width = lengthOf(10) }))
	l = append(l, fallingBy(16, 101000000)...)
	l = append(l, words(16, "a"))
	p := checkCode(t, "a float that begins above the page", lineFont, l, 100, impl.PageOk)
	if last := p.Lines[len(p.Lines)-1]; last.Y != 86000000 || last.Text != "a" {
		t.Errorf("the last line is %+v", last)
	}
	// Lines begin further down than LinesOf lets them.
	p = checkCode(t, "a text far down", lineFont, fallen(90000000, words(0, "a")), 100, impl.PageOk)
	if last := p.Lines[len(p.Lines)-1]; last.Y != 90000000 || last.Text != "a" {
		t.Errorf("the last line is %+v", last)
	}
	// Sizes that are no lengths are taken as they come.
	l = []impl.Node{
		blockWith(-1, func(s *impl.Style) { s.Width = lengthOf(1000000) }),
		blockWith(0, func(s *impl.Style) { s.MarginLeft = percentOf(100000) }),
		blockWith(0, func(s *impl.Style) { s.MarginLeft, s.MaxWidth = percentOf(-100000), 50 }),
		blockWith(0, func(s *impl.Style) { s.Width, s.MaxWidth, s.MarginLeft = percentOf(50000), 70, autoSize }),
		styled(sized(0, 5, 6), func(s *impl.Style) { s.MarginLeft, s.MarginRight = percentOf(100000), percentOf(-100000) }),
		styled(sized(0, 5, 6), func(s *impl.Style) { s.Width, s.MaxWidth = percentOf(100000), 9 }),
	}
	p = checkCode(t, "percents beyond lengths", lineFont, l, 100, impl.PageOk)
	if want := []impl.Place{{W: 1000000}, {X: 10000000}, {X: -10000000, W: 50}, {X: 999930, W: 70}, {X: 10000000, W: 5, H: 6}, {X: 5, W: 9, H: 6}}; !slices.Equal(p.Places, want) {
		t.Errorf("percents beyond lengths: %v; want %v", p.Places, want)
	}
	// At most it would be wider than a length, and is not.
	l = []impl.Node{element(-1), floating(0), sized(1, 600000, 5), sized(1, 600000, 5)}
	p = checkCode(t, "a content beyond lengths", lineFont, l, 100, impl.PageOk)
	if want := []impl.Place{{W: 100}, {W: 600000, H: 10}, {W: 600000, H: 5}, {Y: 5, W: 600000, H: 5}}; !slices.Equal(p.Places, want) {
		t.Errorf("a content beyond lengths: %v; want %v", p.Places, want)
	}
}

// The codes in their order, and the limits of what is laid out.
func TestPageCodes(t *testing.T) {
	good := []impl.Node{element(-1), words(0, "a")}
	far := []impl.Node{blockWith(-1, func(s *impl.Style) { s.Height, s.Border = lengthOf(1000000), 1 })}
	long := []impl.Node{element(-1), words(0, strings.Repeat("a", 200)), words(0, "a")}
	for _, c := range []struct {
		name string
		l    []impl.Node
		code int
	}{
		{"a page", good, impl.PageOk}, {"none", nil, impl.PageBad}, {"too many", beside(41), impl.PageBad}, {"as many as may be", beside(40), impl.PageOk},
		{"a text alone", []impl.Node{words(-1, "a")}, impl.PageBad}, {"a bad text", []impl.Node{element(-1), words(0, "\x00")}, impl.PageBad},
		{"as deep as may be", nested(8), impl.PageOk}, {"too deep", nested(9), impl.PageBad},
		{"inline", []impl.Node{inline(-1)}, impl.PageBoxes}, {"floating", []impl.Node{floating(-1)}, impl.PageBoxes}, {"hidden", []impl.Node{hidden(-1)}, impl.PageBoxes},
		{"a long text", long, impl.PageBoxes}, {"far", far, impl.PageFar},
		{"a long text, and far", append(slices.Clone(far), long[1:]...), impl.PageBoxes},
		{"inline, and too deep", append([]impl.Node{inline(-1)}, nested(9)[1:]...), impl.PageBad},
	} {
		checkCode(t, c.name, lineFont, c.l, 100, c.code)
		checkCode(t, c.name, lineFont, c.l, -1, impl.PageBad)
		checkCode(t, c.name, lineFont, c.l, 100001, impl.PageBad)
		checkCode(t, c.name, impl.Font{}, c.l, 100, impl.PageBad)
	}
	for wide, want := range map[int]int{-1: 1, 0: 0, 100000: 0, 100001: 1, math.MinInt: 1, math.MaxInt: 1} {
		checkCode(t, "a width", lineFont, good, wide, want)
	}
}

// pageStyle throws a style of few parts, so that margins join and floats meet.
func (d *dice) pageStyle() impl.Style {
	s := plainAsSaid()
	few := func(n *int, least int, most int) {
		if d.upTo(3) == 0 {
			*n = least + d.upTo(most-least+1)
		}
	}
	size := func(n *impl.Size, least int, most int) {
		switch d.upTo(8) {
		case 0:
			*n = autoSize
		case 1:
			*n = percentOf(50 * (least + d.upTo(most-least+1)))
		case 2, 3:
			*n = lengthOf(least + d.upTo(most-least+1))
		}
	}
	few(&s.Show, 1, 3)
	s.Float = d.upTo(3)
	few(&s.Clear, 0, 3)
	size(&s.Width, 0, 80)
	if d.upTo(6) == 0 {
		s.Height = lengthOf(d.upTo(30))
	}
	if d.upTo(4) == 0 {
		few(&s.MinWidth, 0, 60)
		few(&s.MaxWidth, -1, 60)
	}
	few(&s.MarginTop, -15, 25)
	few(&s.MarginBot, -15, 25)
	size(&s.MarginLeft, -20, 30)
	size(&s.MarginRight, -20, 30)
	if d.upTo(2) == 0 {
		few(&s.Border, 0, 4)
		few(&s.Padding, 0, 4)
	}
	few(&s.White, 1, 5)
	few(&s.Align, 1, 3)
	few(&s.LineHeight, 0, 12)
	few(&s.Right, -9, 9)
	few(&s.Down, -9, 9)
	return s
}

// Promise 9, of pages of all kinds; and what is asked of them.
func TestThrownPages(t *testing.T) {
	d := dice(9)
	laid, withFloats, inFloats := 0, 0, 0
	for range 20000 {
		l := d.treeOf(20, d.pageStyle)
		if d.upTo(2) == 0 {
			l[0].Style = d.pageStyle()
			l[0].Style.Show, l[0].Style.Float = 1, 0
		}
		p, code := checkPage(t, lineFonts[d.upTo(3)], l, d.upTo(120))
		if code != impl.PageOk {
			continue
		}
		laid++
		if len(p.Floats) > 1 {
			withFloats++
		}
		for _, x := range p.Boxes {
			if x.Kind != impl.BoxLines && x.Up > 0 && p.Boxes[x.Up].Kind == impl.BoxFloat {
				inFloats++
				break
			}
		}
		for range 3 {
			checkAsked(t, p, d.upTo(16)-1, d.upTo(len(p.Boxes)+2)-1, d.upTo(120)-10, d.upTo(120)-20)
		}
	}
	if laid < 15000 || withFloats < 3000 || inFloats < 3000 {
		t.Errorf("only %d pages, %d with floats, %d with boxes in floats", laid, withFloats, inFloats)
	}
}

// Promises 9 and 11: trees as great as may be, and styles of any size.
func TestThrownGreatPages(t *testing.T) {
	d := dice(99)
	codes := map[int]int{}
	for k := range 2500 {
		style := d.pageStyle
		if k%2 == 0 {
			style = d.style
		}
		_, code := checkPage(t, goodFonts[d.upTo(len(goodFonts))], d.treeOf(39, style), d.upTo(100001))
		codes[code]++
	}
	if codes[impl.PageOk] < 1000 || codes[impl.PageFar] < 200 {
		t.Errorf("codes: %v", codes)
	}
}

// Every tree of few nodes of every kind.
func TestEveryShortTreeHasItsPage(t *testing.T) {
	kinds := []func(int) impl.Node{
		func(up int) impl.Node { return apartBy(up, 7, 11) },
		func(up int) impl.Node {
			return blockWith(up, func(s *impl.Style) { s.MarginTop, s.Padding, s.Clear = -3, 1, impl.SideLeft })
		},
		func(up int) impl.Node {
			return blockWith(up, func(s *impl.Style) { s.Height, s.MarginBot, s.Clear = lengthOf(4), 6, impl.SideBoth })
		},
		func(up int) impl.Node {
			return floatWith(up, func(s *impl.Style) { s.MarginTop, s.MarginLeft, s.Border = 2, lengthOf(3), 1 })
		},
		func(up int) impl.Node {
			return styled(sized(up, 30, 13), func(s *impl.Style) { s.Float, s.Clear = impl.SideRight, impl.SideRight })
		},
		func(up int) impl.Node { return words(up, "aa b") },
	}
	many := 0
	var grow func(l []impl.Node)
	grow = func(l []impl.Node) {
		many++
		_, code := checkPage(t, lineFont, l, 40)
		if code != impl.PageOk || len(l) == 5 {
			return
		}
		for up := range l {
			for _, kind := range kinds {
				grow(append(slices.Clone(l), kind(up)))
			}
		}
	}
	for _, kind := range kinds {
		grow([]impl.Node{kind(-1)})
	}
	if many < 10000 {
		t.Errorf("only %d trees", many)
	}
}

// As many floats as a tree may have.
func TestPageOfFloatsAlone(t *testing.T) {
	l := []impl.Node{element(-1)}
	for k := 1; k < 40; k++ {
		l = append(l, sized(0, 10+k%7, 5+k%5))
	}
	if p := checkCode(t, "floats alone", lineFont, l, 100, impl.PageOk); len(p.Floats) != 39 {
		t.Errorf("%d floats; want 39", len(p.Floats))
	}
}

func TestMovePage(t *testing.T) {
	by := func(right int, down int) func(s *impl.Style) {
		return func(s *impl.Style) { s.Right, s.Down = right, down }
	}
	l := []impl.Node{
		blockWith(-1, by(1000, -10)), words(0, "a"),
		styled(inline(0), by(9, 9)), words(2, "b"),
		blockWith(0, by(200, 20)), words(4, "c"),
		styled(sized(4, 30, 9), by(-3, 5)), words(6, "d"),
		blockWith(0, by(0, 0)), words(8, "e"),
	}
	p, _ := checkPage(t, lineFont, l, 100)
	moved := checkMoved(t, l, p)
	none := impl.Place{}
	if want := []impl.Place{{X: 1000, Y: -10, W: 100, H: 24}, none, {X: 1200, Y: 18, W: 100, H: 8}, none, {X: 1197, Y: 31, W: 30, H: 9}, none, {X: 1000, Y: 6, W: 100, H: 8}, none}; !slices.Equal(moved.Places, want) {
		t.Errorf("places %v; want %v", moved.Places, want)
	}
	// A line moves with its block, and just as far.
	if want := []impl.Line{lineIn(1, 1000, -10, 10, "ab"), lineIn(3, 1200, 18, 5, "c"), lineIn(5, 1197, 31, 5, "d"), lineIn(7, 1030, 6, 5, "e")}; !slices.Equal(moved.Lines, want) {
		t.Errorf("lines %v; want %v", moved.Lines, want)
	}
	if want := []impl.Aside{atLeft(0, 16, 30, 9)}; !slices.Equal(moved.Floats, want) || moved.High != 24 || !slices.Equal(moved.Boxes, p.Boxes) {
		t.Errorf("floats %v, high %d, boxes %v; these stay", moved.Floats, moved.High, moved.Boxes)
	}
	// A page that is moved is one that may be moved.
	checkMoved(t, l, moved)
	// Moved beyond what a page has when it is laid out.
	deep := nested(8)
	for i := range deep {
		deep[i].Style.Right, deep[i].Style.Down = 1000000, -1000000
	}
	p, _ = checkPage(t, lineFont, deep, 100)
	if q := checkMoved(t, deep, p); q.Places[7] != (impl.Place{X: 8000000, Y: -8000000, W: 100}) {
		t.Errorf("the innermost one is at %v", q.Places[7])
	}
}

// askedPage: a tree and its page, with a float, lines and a block behind lines.
func askedPage() ([]impl.Node, impl.Page) {
	l := []impl.Node{blockWith(-1, func(s *impl.Style) { s.Padding = 5 }), words(0, "a b"), sized(0, 20, 30), words(2, "c d"), element(0), words(4, "e"), words(0, "f")}
	p, _ := impl.LayPage(lineFont, l, 60)
	return l, p
}

// wrongPages: pages that are none of the asked tree.
func wrongPages() map[string]impl.Page {
	wrong := map[string]impl.Page{"no page": {}}
	add := func(name string, change func(p *impl.Page)) {
		_, p := askedPage()
		change(&p)
		wrong[name+" "+strconv.Itoa(len(wrong))] = p
	}
	add("a place less", func(p *impl.Page) { p.Places = p.Places[:len(p.Places)-1] })
	add("a place more", func(p *impl.Page) { p.Places = append(p.Places, impl.Place{}) })
	add("no places", func(p *impl.Page) { p.Places = nil })
	add("no boxes", func(p *impl.Page) { p.Boxes = nil })
	add("a box less", func(p *impl.Page) { p.Boxes = p.Boxes[:len(p.Boxes)-1] })
	add("a box and a place less", func(p *impl.Page) { p.Boxes, p.Places = p.Boxes[:len(p.Boxes)-1], p.Places[:len(p.Places)-1] })
	add("a box and a place more", func(p *impl.Page) { p.Boxes, p.Places = append(p.Boxes, impl.Box{}), append(p.Places, impl.Place{}) })
	add("another kind", func(p *impl.Page) { p.Boxes[2].Kind = impl.BoxBlock })
	add("another text", func(p *impl.Page) { p.Boxes[1].Text += "b" })
	add("another node", func(p *impl.Page) { p.Boxes[4].Node = 3 })
	add("another box around", func(p *impl.Page) { p.Boxes[4].Up = 2 })
	for _, n := range append([]int{7, 8, -2}, farInts...) {
		if n < 0 || n >= 7 {
			add("a line of no box", func(p *impl.Page) { p.Lines[len(p.Lines)-1].Box = n })
			add("a box of no node", func(p *impl.Page) { p.Boxes[2].Node = n })
			add("a box in no box", func(p *impl.Page) { p.Boxes[2].Up = n })
			add("a box of no kind", func(p *impl.Page) { p.Boxes[2].Kind = n })
		}
	}
	return wrong
}

// Promise 11: what is no page of the tree is not moved, but may be asked.
func TestMovePageRefuses(t *testing.T) {
	l, good := askedPage()
	for name, p := range wrongPages() {
		if q, ok := impl.MovePage(l, p); !isNoPage(q) || ok {
			t.Errorf("%s: MovePage = %+v, %v; want no page, false", name, q, ok)
		}
		for at := -2; at < 9; at++ {
			checkAsked(t, p, at, at, 5*at, 4*at)
		}
	}
	for name, other := range map[string][]impl.Node{
		"no tree": nil, "a bad tree": {words(-1, "a")}, "another tree": l[:len(l)-1], "inline": {inline(-1)}, "too many": make([]impl.Node, 41),
		"another text": append(slices.Clone(l[:6]), words(0, "g")),
	} {
		if q, ok := impl.MovePage(other, good); !isNoPage(q) || ok {
			t.Errorf("%s: MovePage = %+v, %v; want no page, false", name, q, ok)
		}
	}
	// Any numbers are moved; of floats and heights nothing is asked, nor of a line but its box.
	for _, n := range farInts {
		_, p := askedPage()
		p.Places[2], p.Places[1] = impl.Place{X: n, Y: n, W: n, H: n}, impl.Place{X: n, Y: 1}
		p.Lines = append(p.Lines, impl.Line{Box: 2, X: n, Y: n, W: n, H: n, Text: "\xff"}, impl.Line{Box: 0})
		p.Floats, p.High = append(many(50, atLeft(n, n, n, n)), impl.Aside{Side: n}), n
		checkMoved(t, l, p)
		p.Lines = manyLines(1000, impl.Line{Box: 3})
		checkMoved(t, l, p)
	}
}

func TestPlaceOf(t *testing.T) {
	_, p := askedPage()
	for node, want := range map[int]impl.Place{0: {W: 60, H: 34}, 2: {X: 5, Y: 13, W: 20, H: 30}, 4: {X: 5, Y: 13, W: 50, H: 8}} {
		if got, ok := impl.PlaceOf(p, node); got != want || !ok {
			t.Errorf("PlaceOf(%d) = %v, %v; want %v, true", node, got, ok, want)
		}
	}
	for _, node := range append([]int{1, 3, 5, 6, 7}, farInts...) {
		if node != 0 && node != 2 {
			if got, ok := impl.PlaceOf(p, node); got != (impl.Place{}) || ok {
				t.Errorf("PlaceOf(%d) = %v, %v; want none, false", node, got, ok)
			}
		}
	}
	// The first box of a node that is no BoxLines, whatever else it is.
	p = impl.Page{Boxes: []impl.Box{{Kind: 2, Node: 7}, {Kind: 9, Node: 7}, {Kind: 1, Node: 7}, {Kind: 3, Node: -7}}, Places: []impl.Place{{X: 1}, {X: math.MaxInt}, {X: 3}, {X: 4}}}
	for node, want := range map[int]int{7: math.MaxInt, -7: 4} {
		if got, ok := impl.PlaceOf(p, node); got.X != want || !ok {
			t.Errorf("PlaceOf(%d) = %v, %v; want %d, true", node, got, ok, want)
		}
	}
}

func TestBoxAt(t *testing.T) {
	_, p := askedPage()
	for _, c := range []struct {
		x, y int
		want int
		ok   bool
	}{
		{0, 0, 0, true}, {59, 33, 0, true}, {60, 33, 0, false}, {59, 34, 0, false}, {-1, 0, 0, false}, {0, -1, 0, false},
		{5, 12, 0, true}, {4, 13, 0, true}, {5, 13, 4, true}, {54, 20, 4, true}, {55, 20, 0, true}, {24, 21, 2, true}, {25, 21, 0, true},
		{5, 42, 2, true}, {5, 43, 0, false}, {farthest, 0, 0, false}, {0, -farthest, 0, false}, {farthest + 1, 0, 0, false}, {0, math.MinInt, 0, false},
	} {
		if got, ok := impl.BoxAt(p, c.x, c.y); got != c.want || ok != c.ok {
			t.Errorf("BoxAt(%d, %d) = %d, %v; want %d, %v", c.x, c.y, got, ok, c.want, c.ok)
		}
	}
	// One box at the edges of what may be, ahead of one that is anywhere.
	for _, c := range []struct {
		at   impl.Place
		x, y int
		ok   bool
	}{
		{impl.Place{X: farthest - 5, Y: -farthest, W: 5, H: 5}, farthest - 1, -farthest, true},
		{impl.Place{X: farthest - 5, Y: -farthest, W: 6, H: 5}, farthest - 1, -farthest, false},
		{impl.Place{X: -farthest, Y: farthest - 5, W: 5, H: 5}, -farthest, farthest - 1, true},
		{impl.Place{X: -farthest, Y: farthest - 5, W: 5, H: 6}, -farthest, farthest - 1, false},
		{impl.Place{X: -farthest - 1, W: 5, H: 5}, -farthest, 0, false}, {impl.Place{Y: -farthest - 1, W: 5, H: 5}, 0, -farthest, false},
		{impl.Place{W: 1000000, H: 1000000}, 999999, 999999, true}, {impl.Place{W: 1000001, H: 5}, 0, 0, false}, {impl.Place{W: 5, H: 1000001}, 0, 0, false},
		{impl.Place{W: 0, H: 5}, 0, 0, false}, {impl.Place{W: 5, H: -3}, 0, 0, false}, {impl.Place{X: 5, W: -5, H: 5}, 2, 0, false},
	} {
		p := impl.Page{Boxes: []impl.Box{{Kind: 9}}, Places: []impl.Place{c.at}}
		if got, ok := impl.BoxAt(p, c.x, c.y); got != 0 || ok != c.ok {
			t.Errorf("BoxAt(%v, %d, %d) = %d, %v; want 0, %v", c.at, c.x, c.y, got, ok, c.ok)
		}
		checkAsked(t, p, 0, 0, c.x, c.y)
		// A place that is too far makes the page wrong, also that of lines, wherever it stands.
		for _, kind := range []int{1, 2, 3} {
			p := impl.Page{Boxes: []impl.Box{{Kind: 1}, {Kind: kind}, {Kind: 1}}, Places: []impl.Place{{W: 9, H: 9}, c.at, {W: 1, H: 1}}}
			checkAsked(t, p, 0, 1, 0, 0)
			checkAsked(t, p, 0, 1, c.x, c.y)
		}
	}
	p = impl.Page{Boxes: []impl.Box{{Kind: 1}, {Kind: 3}, {Kind: 2}}, Places: []impl.Place{{W: 9, H: 9}, {W: 9, H: 9}, {W: 9, H: 9}}}
	if got, ok := impl.BoxAt(p, 0, 0); got != 1 || !ok {
		t.Errorf("BoxAt = %d, %v; want 1, true: the last one that is no BoxLines", got, ok)
	}
}

func TestLinesIn(t *testing.T) {
	_, p := askedPage()
	for box, want := range [][]impl.Line{nil, {lineIn(1, 5, 5, 12, "a b")}, nil, {lineIn(3, 5, 13, 12, "c d")}, nil, {lineIn(5, 25, 13, 5, "e")}, {lineIn(6, 25, 21, 5, "f")}} {
		if got, ok := impl.LinesIn(p, box); !slices.Equal(got, want) || !ok {
			t.Errorf("LinesIn(%d) = %v, %v; want %v, true", box, got, ok, want)
		}
	}
	for _, box := range append([]int{7, 8}, farInts...) {
		if box < 0 || box >= 7 {
			if got, ok := impl.LinesIn(p, box); got != nil || ok {
				t.Errorf("LinesIn(%d) = %v, %v; want none, false", box, got, ok)
			}
		}
	}
	p.Lines = append(manyLines(399, impl.Line{Box: 2, X: math.MaxInt}), impl.Line{Box: 1, Text: "x"})
	if got, ok := impl.LinesIn(p, 1); !slices.Equal(got, []impl.Line{{Box: 1, Text: "x"}}) || !ok {
		t.Errorf("LinesIn of 400 lines = %v, %v", got, ok)
	}
	if got, ok := impl.LinesIn(p, 2); len(got) != 399 || !ok {
		t.Errorf("LinesIn of 400 lines = %d, %v; want 399, true", len(got), ok)
	}
	p.Lines = append(p.Lines, impl.Line{Box: -1})
	if got, ok := impl.LinesIn(p, 1); got != nil || ok {
		t.Errorf("LinesIn of 401 lines = %v, %v; want none, false", got, ok)
	}
}

// Promise 11: as many boxes as may be, and one more.
func TestPagesOfManyBoxes(t *testing.T) {
	boxes, places := make([]impl.Box, 81), make([]impl.Place, 81)
	for k := range boxes {
		boxes[k], places[k] = impl.Box{Kind: 1, Node: k, Up: k - 1}, impl.Place{X: k, W: 1, H: 1}
	}
	for n, want := range map[int]bool{80: true, 81: false} {
		p := impl.Page{Boxes: boxes[:n], Places: places[:n], Lines: []impl.Line{{Box: 79}}}
		if _, ok := impl.PlaceOf(p, 79); ok != want {
			t.Errorf("PlaceOf of %d boxes: %v", n, ok)
		}
		if _, ok := impl.BoxAt(p, 79, 0); ok != want {
			t.Errorf("BoxAt of %d boxes: %v", n, ok)
		}
		if _, ok := impl.LinesIn(p, 79); ok != want {
			t.Errorf("LinesIn of %d boxes: %v", n, ok)
		}
		checkAsked(t, p, 79, 79, 79, 0)
		checkAsked(t, p, 80, 80, 80, 0)
	}
}

// Promise 11: any numbers, wrong fonts, and wrong trees.
func TestPagesAnswerAtWrongArguments(t *testing.T) {
	l, p := askedPage()
	for _, f := range badFonts() {
		checkCode(t, "a bad font", f, l, 100, impl.PageBad)
	}
	for _, n := range append([]int{farthest, -farthest, farthest + 1, -farthest - 1}, farInts...) {
		checkPage(t, lineFont, l, n)
		for _, other := range append([]int{5, 13, 25}, n, -n) {
			checkAsked(t, p, n, n, n, other)
			checkAsked(t, p, n, n, other, n)
		}
		for _, at := range []impl.Place{{X: n}, {Y: n, H: 5, W: 5}, {W: n, H: 5}, {H: n, W: 5}, {X: n, Y: n, W: n, H: n}, {X: n, W: -n, H: 1}, {Y: -n, H: n, W: 1}} {
			other := p
			other.Places = append([]impl.Place{at}, p.Places[1:]...)
			checkAsked(t, other, 0, 0, 0, 0)
			checkAsked(t, other, 0, 0, n, n)
			checkAsked(t, other, 2, 3, 6, 14)
		}
	}
	for at := range l {
		for _, s := range oneThingStyles() {
			other := slices.Clone(l)
			other[at].Style = s
			checkPage(t, lineFont, other, 60)
		}
		for _, text := range append(wrongTexts(), longTexts()...) {
			other := slices.Clone(l)
			other[at].Text = text
			checkPage(t, lineFont, other, 60)
		}
		for _, up := range farInts {
			other := slices.Clone(l)
			other[at].Up = up
			checkPage(t, lineFont, other, 60)
		}
	}
	checkPage(t, lineFont, make([]impl.Node, 40), 60)
	checkPage(t, lineFont, make([]impl.Node, 100000), 60)
}

// clonedPage has no list of the page itself.
func clonedPage(p impl.Page) impl.Page {
	p.Boxes, p.Places, p.Lines, p.Floats = slices.Clone(p.Boxes), slices.Clone(p.Places), slices.Clone(p.Lines), slices.Clone(p.Floats)
	return p
}

// spoil writes into all lists of a page, up to the end of their memory.
func spoil(p impl.Page) {
	for i := range p.Boxes[:cap(p.Boxes)] {
		p.Boxes[:cap(p.Boxes)][i] = impl.Box{Kind: -7}
	}
	for i := range p.Places[:cap(p.Places)] {
		p.Places[:cap(p.Places)][i] = impl.Place{X: -7}
	}
	for i := range p.Lines[:cap(p.Lines)] {
		p.Lines[:cap(p.Lines)][i] = impl.Line{Box: -7}
	}
	for i := range p.Floats[:cap(p.Floats)] {
		p.Floats[:cap(p.Floats)][i] = impl.Aside{Side: -7}
	}
}

// sharesText takes no note of single letters, of which the language itself may keep one for all.
func sharesText(a string, b string) bool {
	return len(a) > 1 && len(b) > 1 && unsafe.StringData(a) == unsafe.StringData(b)
}

// Promise 11: nothing is written into an argument, nor read behind its end, and answers are new memory.
func TestPagesAreNotWritten(t *testing.T) {
	d := dice(19)
	for range 1500 {
		l := d.treeOf(12, d.pageStyle)
		whole := append(slices.Clone(l), impl.Node{Up: 77}, element(0))
		before := slices.Clone(whole)
		p, code := checkPage(t, lineFont, whole[:len(l)], 60)
		if code != impl.PageOk {
			continue
		}
		want := clonedPage(p)
		again, _ := impl.LayPage(lineFont, l, 60)
		spoil(again)
		longer := impl.Page{
			Boxes: append(clonedPage(p).Boxes, impl.Box{Node: 1}), Places: append(clonedPage(p).Places, impl.Place{X: math.MaxInt}),
			Lines: append(clonedPage(p).Lines, impl.Line{Box: -1}, impl.Line{Box: 1}), Floats: append(clonedPage(p).Floats, impl.Aside{Side: 9}), High: p.High,
		}
		told := clonedPage(longer)
		p = impl.Page{Boxes: longer.Boxes[:len(p.Boxes)], Places: longer.Places[:len(p.Places)], Lines: longer.Lines[:len(p.Lines)], Floats: longer.Floats[:len(p.Floats)], High: p.High}
		moved := checkMoved(t, l, p)
		for i, x := range moved.Lines {
			if sharesText(x.Text, p.Lines[i].Text) {
				t.Fatalf("MovePage: %q is the argument's memory", x.Text)
			}
		}
		for i, x := range moved.Boxes {
			if sharesText(x.Text, p.Boxes[i].Text) {
				t.Fatalf("MovePage: %q is the argument's memory", x.Text)
			}
		}
		spoil(moved)
		for k := range p.Boxes {
			checkAsked(t, p, k, k, d.upTo(60), d.upTo(60))
			lines, _ := impl.LinesIn(p, k)
			for i := range lines[:cap(lines)] {
				lines[:cap(lines)][i] = impl.Line{Box: -7}
			}
		}
		if !samePage(p, want) || !samePage(longer, told) || !slices.Equal(whole, before) {
			t.Fatalf("written into %+v or into %+v", whole, longer)
		}
	}
}

// Promise 11: no line that is told has its text from the argument's memory.
func TestLinesInAreNewMemory(t *testing.T) {
	l, p := askedPage()
	for k := range p.Boxes {
		lines, _ := impl.LinesIn(p, k)
		for _, x := range lines {
			for _, y := range p.Lines {
				if sharesText(x.Text, y.Text) {
					t.Errorf("LinesIn: %q is the argument's memory", x.Text)
				}
			}
		}
	}
	for _, x := range p.Lines {
		for _, n := range l {
			if sharesText(x.Text, n.Text) {
				t.Errorf("LayPage: %q is the argument's memory", x.Text)
			}
		}
		if sharesText(x.Text, p.Boxes[x.Box].Text) {
			t.Errorf("LayPage: %q is in two lists", x.Text)
		}
	}
}
