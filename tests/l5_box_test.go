package tests

import (
	"math"
	"slices"
	"strings"
	"testing"

	"loop.example/g00164/impl"
)

func inline(up int) impl.Node {
	n := element(up)
	n.Style.Show = impl.ShowInline
	return n
}

func floating(up int) impl.Node {
	n := element(up)
	n.Style.Float = impl.SideLeft
	return n
}

// styled changes an element's style.
func styled(n impl.Node, change func(s *impl.Style)) impl.Node {
	change(&n.Style)
	return n
}

func lengthOf(n int) impl.Size  { return impl.Size{N: n} }
func percentOf(n int) impl.Size { return impl.Size{Percent: true, N: n} }

// flatAsSaid tells the texts and blocks that stand in a node, in order, those of inline elements among them.
func flatAsSaid(l []impl.Node, in int) []int {
	var flat []int
	for i, n := range l {
		if i == 0 || n.Up != in || n.Style.Show == 3 {
			continue
		}
		if n.Style.Show == 2 && n.Style.Float == 0 {
			flat = append(flat, flatAsSaid(l, i)...)
		} else {
			flat = append(flat, i)
		}
	}
	return flat
}

// boxesAsSaid goes down from block to block, and wants a good tree; a text that is too long makes it tell false.
func boxesAsSaid(l []impl.Node) ([]impl.Box, bool) {
	if l[0].Style.Show != 1 || l[0].Style.Float != 0 {
		return nil, false
	}
	var b []impl.Box
	good := true
	var down func(node int, kind int, up int)
	down = func(node int, kind int, up int) {
		me, text := len(b), ""
		b = append(b, impl.Box{Kind: kind, Node: node, Up: up})
		end := func() {
			if good = good && len(text) <= 200; good {
				if kept := keptAsSaid(l[node].Style.White, text); kept != "" {
					b = append(b, impl.Box{Kind: 2, Node: node, Up: me, Text: kept})
				}
			}
			text = ""
		}
		for _, i := range flatAsSaid(l, node) {
			switch {
			case l[i].Style == (impl.Style{}):
				text += l[i].Text
			case l[i].Style.Float == 0:
				end()
				down(i, 1, me)
			default:
				end()
				down(i, 3, me)
			}
		}
		end()
	}
	down(0, 1, -1)
	if !good {
		return nil, false
	}
	return b, true
}

func kidsAsSaid(b []impl.Box, k int) []int {
	var kids []int
	for i, x := range b {
		if x.Up == k {
			kids = append(kids, i)
		}
	}
	return kids
}

func outerAsSaid(s impl.Style, content int) int {
	if !s.Width.Auto && !s.Width.Percent {
		content = s.Width.N
	}
	if s.MaxWidth >= 0 && content > s.MaxWidth {
		content = s.MaxWidth
	}
	if content < s.MinWidth {
		content = s.MinWidth
	}
	outer := content + s.Border + s.Border + s.Padding + s.Padding
	if !s.MarginLeft.Auto && !s.MarginLeft.Percent {
		outer += s.MarginLeft.N
	}
	if !s.MarginRight.Auto && !s.MarginRight.Percent {
		outer += s.MarginRight.N
	}
	if outer < 0 {
		return 0
	}
	return outer
}

// acrossAsSaid tells how wide a box's content is at least or, if atMost, at most.
func acrossAsSaid(f impl.Font, l []impl.Node, b []impl.Box, k int, atMost bool) int {
	if b[k].Kind == 2 {
		ends := []int{len(b[k].Text)}
		if atMost {
			ends = append(forcedAsSaid(b[k].Text), ends...)
		} else {
			ends = breaksAsSaid(l[b[k].Node].Style.White, b[k].Text)
		}
		return widestAsSaid(f, b[k].Text, ends)
	}
	// Rows of outer widths: each kid has its own, floats at most share one.
	var rows []int
	last := 0
	for _, kid := range kidsAsSaid(b, k) {
		outer := acrossAsSaid(f, l, b, kid, atMost)
		if b[kid].Kind != 2 {
			outer = outerAsSaid(l[b[kid].Node].Style, outer)
		}
		if atMost && b[kid].Kind == 3 && last == 3 {
			rows[len(rows)-1] += outer
		} else {
			rows = append(rows, outer)
		}
		last = b[kid].Kind
	}
	return slices.Max(append(rows, 0))
}

// checkBoxes holds all that chapter 5 tells of a tree against the document, and tells its boxes.
func checkBoxes(t *testing.T, f impl.Font, l []impl.Node) ([]impl.Box, bool) {
	t.Helper()
	var want []impl.Box
	wantOk := false
	if goodTreeAsSaid(l) {
		want, wantOk = boxesAsSaid(l)
	}
	b, ok := impl.BoxesOf(l)
	if !slices.Equal(b, want) || ok != wantOk {
		t.Fatalf("BoxesOf(%+v) = %+v, %v; want %+v, %v", l, b, ok, want, wantOk)
	}
	if got := impl.GoodBoxes(l, want); got != wantOk {
		t.Fatalf("GoodBoxes(%+v, %+v) = %v", l, want, got)
	}
	text := ""
	for k, x := range b {
		text += x.Text
		checkKids(t, b, k)
		least := acrossAsSaid(f, l, b, k, false)
		most := acrossAsSaid(f, l, b, k, true)
		if got, ok := impl.NarrowestOf(f, l, b, k); got != least || !ok {
			t.Fatalf("NarrowestOf(%+v, %+v, %+v, %d) = %d, %v; want %d, true", f, l, b, k, got, ok, least)
		}
		if got, ok := impl.WidestOf(f, l, b, k); got != most || !ok {
			t.Fatalf("WidestOf(%+v, %+v, %+v, %d) = %d, %v; want %d, true", f, l, b, k, got, ok, most)
		}
		if least > most || least < 0 {
			t.Fatalf("%+v: box %d is %d at least, %d at most", l, k, least, most)
		}
	}
	if got, ok := impl.TextShown(b); got != text || !ok {
		t.Fatalf("TextShown(%+v) = %q, %v; want %q, true", b, got, ok, text)
	}
	return b, ok
}

func checkKids(t *testing.T, b []impl.Box, k int) {
	t.Helper()
	want := kidsAsSaid(b, k)
	if got, ok := impl.KidsOf(b, k); !slices.Equal(got, want) || !ok {
		t.Fatalf("KidsOf(%+v, %d) = %v, %v; want %v, true", b, k, got, ok, want)
	}
}

func TestBoxConstants(t *testing.T) {
	if got := []int{impl.BoxBlock, impl.BoxLines, impl.BoxFloat, impl.MaxBoxes}; !slices.Equal(got, []int{1, 2, 3, 80}) {
		t.Error(got)
	}
}

func TestBoxesOf(t *testing.T) {
	block := func(node int, up int) impl.Box { return impl.Box{Kind: impl.BoxBlock, Node: node, Up: up} }
	float := func(node int, up int) impl.Box { return impl.Box{Kind: impl.BoxFloat, Node: node, Up: up} }
	lines := func(node int, up int, text string) impl.Box {
		return impl.Box{Kind: impl.BoxLines, Node: node, Up: up, Text: text}
	}
	pre := func(s *impl.Style) { s.White = impl.WhitePre }
	long := strings.Repeat("a", 200)
	cases := []struct {
		name string
		l    []impl.Node
		want []impl.Box
		ok   bool
	}{
		{"a block alone", nested(1), []impl.Box{block(0, -1)}, true},
		{"blocks in one another", nested(3), []impl.Box{block(0, -1), block(1, 0), block(2, 1)}, true},
		{"a text", []impl.Node{element(-1), words(0, " a\tb ")}, []impl.Box{block(0, -1), lines(0, 0, "a b")}, true},
		{"blanks", []impl.Node{element(-1), words(0, " \n")}, []impl.Box{block(0, -1)}, true},
		{"kept blanks", []impl.Node{styled(element(-1), pre), words(0, " \t\n")}, []impl.Box{block(0, -1), lines(0, 0, "  \n")}, true},
		{"texts side by side", []impl.Node{element(-1), words(0, "a "), words(0, " b"), words(0, "c")}, []impl.Box{block(0, -1), lines(0, 0, "a bc")}, true},
		{"texts of inline elements", []impl.Node{element(-1), words(0, "a"), inline(0), words(2, "b "), inline(2), words(4, " c"), words(0, "d")},
			[]impl.Box{block(0, -1), lines(0, 0, "ab cd")}, true},
		{"an inline element's own white", []impl.Node{element(-1), styled(inline(0), pre), words(1, "a  \n b")}, []impl.Box{block(0, -1), lines(0, 0, "a b")}, true},
		{"the white of the block around", []impl.Node{element(-1), styled(element(0), pre), inline(1), words(2, "a  "), words(0, "b  ")},
			[]impl.Box{block(0, -1), block(1, 0), lines(1, 1, "a  "), lines(0, 0, "b")}, true},
		{"a block ends a text", []impl.Node{element(-1), words(0, "a"), element(0), words(0, "b")},
			[]impl.Box{block(0, -1), lines(0, 0, "a"), block(2, 0), lines(0, 0, "b")}, true},
		{"a float ends a text", []impl.Node{element(-1), words(0, "a"), floating(0), words(2, "c"), words(0, "b")},
			[]impl.Box{block(0, -1), lines(0, 0, "a"), float(2, 0), lines(2, 2, "c"), lines(0, 0, "b")}, true},
		{"a block in an inline element", []impl.Node{element(-1), inline(0), words(1, "a"), element(1), words(3, "b"), words(1, "c"), words(0, "d")},
			[]impl.Box{block(0, -1), lines(0, 0, "a"), block(3, 0), lines(3, 2, "b"), lines(0, 0, "cd")}, true},
		{"an inline element that floats", []impl.Node{element(-1), words(0, "a"), styled(floating(0), func(s *impl.Style) { s.Show = impl.ShowInline }), words(2, "b")},
			[]impl.Box{block(0, -1), lines(0, 0, "a"), float(2, 0), lines(2, 2, "b")}, true},
		{"what is not shown ends no text", []impl.Node{element(-1), words(0, "a"), hidden(0), words(2, "x"), element(2), words(4, "y"), words(0, "b")},
			[]impl.Box{block(0, -1), lines(0, 0, "ab")}, true},
		{"a float that is not shown", []impl.Node{element(-1), words(0, "a"), styled(floating(0), func(s *impl.Style) { s.Show = impl.ShowNone }), words(0, "b")},
			[]impl.Box{block(0, -1), lines(0, 0, "ab")}, true},
		{"an empty inline element", []impl.Node{element(-1), words(0, "a"), inline(0), words(0, "b")}, []impl.Box{block(0, -1), lines(0, 0, "ab")}, true},
		{"the first one is not shown", []impl.Node{hidden(-1)}, nil, false},
		{"the first one is inline", []impl.Node{inline(-1)}, nil, false},
		{"the first one floats", []impl.Node{floating(-1)}, nil, false},
		{"the first one floats and is inline", []impl.Node{styled(floating(-1), func(s *impl.Style) { s.Show = impl.ShowInline })}, nil, false},
		{"200 together", []impl.Node{element(-1), words(0, long[:150]), inline(0), words(2, long[:50])}, []impl.Box{block(0, -1), lines(0, 0, long)}, true},
		{"201 together", []impl.Node{element(-1), words(0, long[:150]), inline(0), words(2, long[:51])}, nil, false},
		{"201 together ahead of a block", []impl.Node{element(-1), words(0, long), words(0, "a"), element(0)}, nil, false},
		{"201 together, mostly blanks", []impl.Node{element(-1), words(0, "a"+strings.Repeat(" ", 199)), words(0, "b")}, nil, false},
		{"201 blanks together", []impl.Node{element(-1), words(0, strings.Repeat(" ", 200)), words(0, " ")}, nil, false},
		{"201 together in a block that is over", []impl.Node{element(-1), element(0), words(1, long), words(1, "a"), words(0, "b")}, nil, false},
		{"201 about a block", []impl.Node{element(-1), words(0, long), element(0), words(0, long)}, []impl.Box{block(0, -1), lines(0, 0, long), block(2, 0), lines(0, 0, long)}, true},
		{"201 about a block's end", []impl.Node{element(-1), element(0), words(1, long), words(0, long)}, []impl.Box{block(0, -1), block(1, 0), lines(1, 1, long), lines(0, 0, long)}, true},
		{"201 not shown", []impl.Node{element(-1), hidden(0), words(1, long), words(1, long), words(0, "a")}, []impl.Box{block(0, -1), lines(0, 0, "a")}, true},
		{"no tree", nil, nil, false},
		{"a bad tree", []impl.Node{element(-1), words(0, "")}, nil, false},
		{"a bad tree in what is not shown", []impl.Node{element(-1), hidden(0), words(1, "\x00")}, nil, false},
	}
	for _, c := range cases {
		if got, ok := impl.BoxesOf(c.l); !slices.Equal(got, c.want) || ok != c.ok {
			t.Errorf("%s: BoxesOf(%+v) = %+v, %v; want %+v, %v", c.name, c.l, got, ok, c.want, c.ok)
		}
		checkBoxes(t, textFont, c.l)
	}
}

func TestNarrowestAndWidest(t *testing.T) {
	f := plainFont
	long := words(0, "aa bbb")
	wide := func(up int, n int) impl.Node {
		return styled(element(up), func(s *impl.Style) { s.Width = lengthOf(n) })
	}
	aside := func(up int, n int) impl.Node {
		return styled(floating(up), func(s *impl.Style) { s.Width = lengthOf(n) })
	}
	with := func(change func(s *impl.Style)) []impl.Node {
		return []impl.Node{element(-1), styled(element(0), change), words(1, "aa bbb")}
	}
	white := func(white int) []impl.Node {
		return []impl.Node{styled(element(-1), func(s *impl.Style) { s.White = white }), words(0, "aa bbb\nc")}
	}
	two, three, six := 2*f.Usual, 3*f.Usual, 5*f.Usual+f.Narrow
	cases := []struct {
		name  string
		l     []impl.Node
		least int
		most  int
	}{
		{"nothing", nested(1), 0, 0},
		{"a text", []impl.Node{element(-1), long}, three, six},
		{"normal", white(impl.WhiteNormal), three, six + f.Narrow + f.Usual},
		{"nowrap", white(impl.WhiteNowrap), six + f.Narrow + f.Usual, six + f.Narrow + f.Usual},
		{"pre", white(impl.WhitePre), six, six},
		{"pre-wrap", white(impl.WhitePreWrap), three, six},
		{"pre-line", white(impl.WhitePreLine), three, six},
		{"in a block", with(func(s *impl.Style) {}), three, six},
		{"its own width is not its content's", []impl.Node{styled(element(-1), func(s *impl.Style) { s.Width, s.Padding = lengthOf(7), 5 }), long}, three, six},
		{"a width", with(func(s *impl.Style) { s.Width = lengthOf(7) }), 7, 7},
		{"a width of 0", with(func(s *impl.Style) { s.Width = lengthOf(0) }), 0, 0},
		{"a percent", with(func(s *impl.Style) { s.Width = percentOf(7) }), three, six},
		{"a least", with(func(s *impl.Style) { s.MinWidth = three + 1 }), three + 1, six},
		{"a most", with(func(s *impl.Style) { s.MaxWidth = six - 1 }), three, six - 1},
		{"a most of 0", with(func(s *impl.Style) { s.MaxWidth = 0 }), 0, 0},
		{"a least above a most", with(func(s *impl.Style) { s.MaxWidth, s.MinWidth = 3, 9 }), 9, 9},
		{"a width that is cut", with(func(s *impl.Style) { s.Width, s.MaxWidth = lengthOf(700), 600 }), 600, 600},
		{"a width that is too little", with(func(s *impl.Style) { s.Width, s.MinWidth = lengthOf(700), 800 }), 800, 800},
		{"edges", with(func(s *impl.Style) { s.Border, s.Padding = 3, 10 }), three + 26, six + 26},
		{"edges are not cut", with(func(s *impl.Style) { s.Border, s.MaxWidth = 3, 1 }), 7, 7},
		{"margins", with(func(s *impl.Style) { s.MarginLeft, s.MarginRight = lengthOf(5), lengthOf(30) }), three + 35, six + 35},
		{"margins below 0", with(func(s *impl.Style) { s.MarginLeft, s.MarginRight = lengthOf(-5), lengthOf(1) }), three - 4, six - 4},
		{"margins far below 0", with(func(s *impl.Style) { s.MarginLeft = lengthOf(-three) }), 0, six - three},
		{"margins further below 0", with(func(s *impl.Style) { s.MarginRight = lengthOf(-1000000) }), 0, 0},
		{"margins that are no lengths", with(func(s *impl.Style) { s.MarginLeft, s.MarginRight = impl.Size{Auto: true}, percentOf(5000) }), three, six},
		{"margins and heights above and below", with(func(s *impl.Style) { s.MarginTop, s.MarginBot, s.Height = 9000, 9000, lengthOf(9000) }), three, six},
		{"blocks below each other", []impl.Node{element(-1), wide(0, 5), wide(0, 9), wide(0, 7)}, 9, 9},
		{"floats beside each other", []impl.Node{element(-1), aside(0, 5), aside(0, 9), aside(0, 7)}, 9, 21},
		{"on both sides", []impl.Node{element(-1), aside(0, 5), styled(aside(0, 9), func(s *impl.Style) { s.Float = impl.SideRight }), aside(0, 7)}, 9, 21},
		{"a text between", []impl.Node{element(-1), aside(0, 5), aside(0, 9), words(0, "|"), aside(0, 7), aside(0, 8)}, max(9, f.Narrow), max(15, f.Narrow)},
		{"blanks between", []impl.Node{element(-1), words(0, " "), aside(0, 5), words(0, " \n"), aside(0, 9), words(0, " ")}, 9, 14},
		{"a block between", []impl.Node{element(-1), aside(0, 5), wide(0, 1), aside(0, 9)}, 9, 9},
		{"what is not shown between", []impl.Node{element(-1), aside(0, 5), hidden(0), aside(2, 8), aside(0, 9)}, 9, 14},
		{"an inline element between", []impl.Node{element(-1), aside(0, 5), inline(0), aside(2, 8), aside(0, 9)}, 9, 22},
		{"floats in blocks side by side", []impl.Node{element(-1), element(0), aside(1, 5), element(0), aside(3, 9)}, 9, 9},
		{"floats in a float", []impl.Node{element(-1), floating(0), aside(1, 5), aside(1, 9), aside(0, 100)}, 100, 114},
		{"floats with edges", []impl.Node{element(-1), styled(aside(0, 5), func(s *impl.Style) { s.Border = 2 }), styled(aside(0, 6), func(s *impl.Style) { s.MarginLeft = lengthOf(-100) })}, 9, 9},
		{"a text is measured by its block", []impl.Node{styled(element(-1), func(s *impl.Style) { s.White = impl.WhitePre }), element(0), words(1, "aa bb")}, two, 2*two + f.Narrow},
	}
	for _, c := range cases {
		b, ok := checkBoxes(t, f, c.l)
		if !ok {
			t.Fatalf("%s: no boxes", c.name)
		}
		if got, ok := impl.NarrowestOf(f, c.l, b, 0); got != c.least || !ok {
			t.Errorf("%s: NarrowestOf = %d, %v; want %d, true", c.name, got, ok, c.least)
		}
		if got, ok := impl.WidestOf(f, c.l, b, 0); got != c.most || !ok {
			t.Errorf("%s: WidestOf = %d, %v; want %d, true", c.name, got, ok, c.most)
		}
	}
}

// Contents may be wider than a length.
func TestContentsBeyondLengths(t *testing.T) {
	l := []impl.Node{element(-1)}
	for len(l) < 40 {
		l = append(l, styled(floating(0), func(s *impl.Style) {
			s.Width, s.Border, s.Padding, s.MarginLeft, s.MarginRight = lengthOf(1000000), 64000, 64000, lengthOf(1000000), lengthOf(1000000)
		}))
	}
	b, _ := checkBoxes(t, plainFont, l)
	if got, ok := impl.NarrowestOf(plainFont, l, b, 0); got != 3256000 || !ok {
		t.Errorf("NarrowestOf = %d, %v", got, ok)
	}
	if got, ok := impl.WidestOf(plainFont, l, b, 0); got != 39*3256000 || !ok {
		t.Errorf("WidestOf = %d, %v", got, ok)
	}
}

// Every tree of few nodes of every kind.
func TestEveryShortTreeHasItsBoxes(t *testing.T) {
	kinds := []func(int) impl.Node{
		func(up int) impl.Node {
			return styled(element(up), func(s *impl.Style) { s.Border = 1 })
		},
		func(up int) impl.Node {
			return styled(element(up), func(s *impl.Style) { s.White, s.MarginLeft = impl.WhitePre, lengthOf(-100) })
		},
		inline, hidden,
		func(up int) impl.Node {
			return styled(floating(up), func(s *impl.Style) { s.Padding = 10 })
		},
		func(up int) impl.Node { return words(up, "a b") },
		func(up int) impl.Node { return words(up, " ") },
	}
	many := 0
	var grow func(l []impl.Node)
	grow = func(l []impl.Node) {
		many++
		_, ok := checkBoxes(t, textFont, l)
		if !ok || len(l) == 5 {
			return
		}
		for up := range l {
			for _, kind := range kinds {
				grow(append(slices.Clone(l), kind(up)))
			}
		}
	}
	for _, kind := range kinds {
		grow([]impl.Node{kind(-1)})
	}
	if many < 10000 {
		t.Errorf("only %d trees", many)
	}
}

// tree throws a good tree: elements of any style, not too many of them hidden, and texts.
func (d *dice) tree(most int) []impl.Node {
	return d.treeOf(most, d.style)
}

func (d *dice) treeOf(most int, style func() impl.Style) []impl.Node {
	l := []impl.Node{element(-1)}
	around := []int{0}
	for many := 1 + d.upTo(most); len(l) < many; {
		around = around[:1+d.upTo(len(around))]
		up := around[len(around)-1]
		if d.upTo(2) == 0 || len(around) > 6 {
			l = append(l, words(up, d.text()))
			continue
		}
		n := impl.Node{Up: up, Style: style()}
		if n.Style.Show == 3 && d.upTo(3) > 0 {
			n.Style.Show = 2
		}
		if d.upTo(2) == 0 {
			n.Style.Float = 0
		}
		around = append(around, len(l))
		l = append(l, n)
	}
	return l
}

func (d *dice) text() string {
	var text []byte
	for range 1 + d.upTo(12) {
		text = append(text, "ab-w.1 \t\n  i"[d.upTo(12)])
	}
	return string(text)
}

// Promise 5: each element that shows as a block has its box, and all shown text is there in order.
func TestEveryShownBlockHasItsBox(t *testing.T) {
	d := dice(5)
	for range 1500 {
		l := d.tree(40)
		b, ok := checkBoxes(t, textFont, l)
		if !ok {
			continue
		}
		var blocks []int
		shown, _ := impl.ShownIn(l)
		for _, i := range shown {
			if s, _ := impl.FixStyle(l[i].Style); s.Show == impl.ShowBlock {
				blocks = append(blocks, i)
			}
		}
		var boxed []int
		for _, x := range b {
			if x.Kind != impl.BoxLines {
				boxed = append(boxed, x.Node)
			}
		}
		if !slices.Equal(blocks, boxed) {
			t.Fatalf("%+v: boxes of %v; want of %v", l, boxed, blocks)
		}
	}
}

func TestThrownTreesInEveryFont(t *testing.T) {
	d := dice(55)
	for _, f := range goodFonts {
		for range 50 {
			checkBoxes(t, f, d.tree(12))
		}
	}
}

func TestKidsOf(t *testing.T) {
	b := []impl.Box{{Up: -1}, {Up: 0}, {Up: -1}, {Up: 1}, {Up: 0}, {Up: 0, Kind: 9, Node: -5, Text: "\x00"}, {Up: 5}}
	for k, want := range [][]int{{1, 4, 5}, {3}, {}, {}, {}, {6}, {}} {
		if got, ok := impl.KidsOf(b, k); !slices.Equal(got, want) || !ok {
			t.Errorf("KidsOf(%d) = %v, %v; want %v, true", k, got, ok, want)
		}
	}
	for _, k := range append([]int{7, 8, -2}, farInts...) {
		if k >= 0 && k < len(b) {
			continue
		}
		if got, ok := impl.KidsOf(b, k); got != nil || ok {
			t.Errorf("KidsOf(%d) = %v, %v; want none, false", k, got, ok)
		}
	}
	for at := range b {
		for _, up := range append([]int{-2, at, at + 1}, farInts...) {
			if up >= -1 && up < at {
				continue
			}
			wrong := slices.Clone(b)
			wrong[at].Up = up
			for k := range wrong {
				if got, ok := impl.KidsOf(wrong, k); got != nil || ok {
					t.Errorf("KidsOf(%+v, %d) = %v, %v; want none, false", wrong, k, got, ok)
				}
			}
		}
	}
	if got, ok := impl.KidsOf(nil, 0); got != nil || ok {
		t.Errorf("KidsOf of none = %v, %v", got, ok)
	}
	many := make([]impl.Box, 1000)
	for i := range many {
		many[i].Up = i - 1
	}
	checkKids(t, many, 998)
	checkKids(t, many, 999)
}

func TestGoodBoxes(t *testing.T) {
	l := []impl.Node{element(-1), words(0, "a "), floating(0), words(2, "b"), words(0, "c")}
	b, _ := checkBoxes(t, textFont, l)
	wrong := [][]impl.Box{nil, {}, b[:len(b)-1], b[1:], append(slices.Clone(b), b[0]), append(slices.Clone(b), impl.Box{}), make([]impl.Box, len(b)), make([]impl.Box, 100000)}
	for i := range b {
		for _, change := range []func(x *impl.Box){
			func(x *impl.Box) { x.Kind = 1 + x.Kind%3 },
			func(x *impl.Box) { x.Kind = math.MaxInt },
			func(x *impl.Box) { x.Node++ },
			func(x *impl.Box) { x.Node = -1 },
			func(x *impl.Box) { x.Node = math.MaxInt },
			func(x *impl.Box) { x.Up-- },
			func(x *impl.Box) { x.Up = math.MaxInt },
			func(x *impl.Box) { x.Text += " " },
			func(x *impl.Box) { x.Text += "\x00" },
		} {
			other := slices.Clone(b)
			change(&other[i])
			wrong = append(wrong, other)
		}
	}
	for _, other := range wrong {
		if impl.GoodBoxes(l, other) {
			t.Errorf("GoodBoxes(%+v, %+v) = true", l, other)
		}
		for k := -1; k <= min(len(other), 9); k++ {
			if n, ok := impl.NarrowestOf(textFont, l, other, k); n != 0 || ok {
				t.Errorf("NarrowestOf(%+v, %+v, %d) = %d, %v; want 0, false", l, other, k, n, ok)
			}
			if n, ok := impl.WidestOf(textFont, l, other, k); n != 0 || ok {
				t.Errorf("WidestOf(%+v, %+v, %d) = %d, %v; want 0, false", l, other, k, n, ok)
			}
		}
	}
	// Of a tree without boxes no boxes are good, not even none.
	for _, other := range [][]impl.Node{nil, {hidden(-1)}, {floating(-1)}, {element(0)}, make([]impl.Node, 41)} {
		if impl.GoodBoxes(other, nil) || impl.GoodBoxes(other, b) || impl.GoodBoxes(other, []impl.Box{{Kind: 1, Up: -1}}) {
			t.Errorf("GoodBoxes(%+v) = true", other)
		}
	}
}

func TestTextShown(t *testing.T) {
	b := []impl.Box{{Kind: 1, Text: "x"}, {Kind: 2, Text: "a "}, {Kind: 3, Text: "y"}, {Kind: 2, Text: "\x00\xff"}, {Kind: 2}, {Kind: 0, Text: "z"}, {Kind: 2, Text: " b", Up: 99, Node: -9}}
	if got, ok := impl.TextShown(b); got != "a \x00\xff b" || !ok {
		t.Errorf("TextShown(%+v) = %q, %v", b, got, ok)
	}
	if got, ok := impl.TextShown(nil); got != "" || !ok {
		t.Errorf("TextShown of none = %q, %v; want the empty text, true", got, ok)
	}
	many := make([]impl.Box, 81)
	for i := range many {
		many[i] = impl.Box{Kind: 2, Text: strings.Repeat("a", 300)}
	}
	if got, ok := impl.TextShown(many[:80]); len(got) != 80*300 || !ok {
		t.Errorf("TextShown of 80 = %d bytes, %v", len(got), ok)
	}
	if got, ok := impl.TextShown(many); got != "" || ok {
		t.Errorf("TextShown of 81 = %d bytes, %v; want none, false", len(got), ok)
	}
}

// Promise 11: wrong fonts, wrong numbers, wrong trees.
func TestBoxesAnswerAtWrongArguments(t *testing.T) {
	l := []impl.Node{element(-1), words(0, "a "), floating(0), words(2, "b"), words(0, "c")}
	b, _ := impl.BoxesOf(l)
	for _, f := range badFonts() {
		for k := range b {
			if n, ok := impl.NarrowestOf(f, l, b, k); n != 0 || ok {
				t.Errorf("NarrowestOf(%+v) = %d, %v; want 0, false", f, n, ok)
			}
			if n, ok := impl.WidestOf(f, l, b, k); n != 0 || ok {
				t.Errorf("WidestOf(%+v) = %d, %v; want 0, false", f, n, ok)
			}
		}
	}
	for _, k := range append([]int{len(b), len(b) + 1, -2}, farInts...) {
		if k >= 0 && k < len(b) {
			continue
		}
		if n, ok := impl.NarrowestOf(textFont, l, b, k); n != 0 || ok {
			t.Errorf("NarrowestOf of box %d = %d, %v; want 0, false", k, n, ok)
		}
		if n, ok := impl.WidestOf(textFont, l, b, k); n != 0 || ok {
			t.Errorf("WidestOf of box %d = %d, %v; want 0, false", k, n, ok)
		}
	}
	for at := range l {
		for _, s := range oneThingStyles() {
			other := slices.Clone(l)
			other[at].Style = s
			checkBoxes(t, textFont, other)
		}
		for _, text := range append(wrongTexts(), longTexts()...) {
			other := slices.Clone(l)
			other[at].Text = text
			checkBoxes(t, textFont, other)
		}
		for _, up := range farInts {
			other := slices.Clone(l)
			other[at].Up = up
			checkBoxes(t, textFont, other)
		}
	}
	checkBoxes(t, textFont, make([]impl.Node, 40))
	checkBoxes(t, textFont, make([]impl.Node, 100000))
}

// Promise 11: nothing is written into an argument, nor read behind its end, and answers are new memory.
func TestBoxesAreNotWritten(t *testing.T) {
	whole := append(beside(40), element(77))
	wholeWant := slices.Clone(whole)
	for n := range len(whole) + 1 {
		b, ok := checkBoxes(t, textFont, whole[:n])
		if !ok {
			continue
		}
		want := slices.Clone(b)
		more := append(slices.Clone(b), impl.Box{Kind: 2, Up: 99, Text: "behind"})
		if kids, ok := impl.KidsOf(more[:len(b)], 0); !slices.Equal(kids, kidsAsSaid(b, 0)) || !ok {
			t.Fatalf("KidsOf = %v, %v", kids, ok)
		}
		if text, _ := impl.TextShown(more[:len(b)]); strings.Contains(text, "behind") {
			t.Fatalf("TextShown = %q", text)
		}
		if !impl.GoodBoxes(whole[:n], more[:len(b)]) {
			t.Fatal("GoodBoxes read behind the end")
		}
		again, _ := impl.BoxesOf(whole[:n])
		for i := range b[:cap(b)] {
			b[:cap(b)][i] = impl.Box{Node: -7}
		}
		if !slices.Equal(again, want) || !slices.Equal(more[:len(want)], want) {
			t.Fatal("boxes share memory")
		}
	}
	if !slices.Equal(whole, wholeWant) {
		t.Error("a tree was written into")
	}
	boxes := []impl.Box{{Up: -1}, {Up: 0}, {Up: 0}}
	first, _ := impl.KidsOf(boxes, 0)
	first[0] = 7
	if second, _ := impl.KidsOf(boxes, 0); !slices.Equal(second, []int{1, 2}) {
		t.Errorf("KidsOf: %v", second)
	}
}
