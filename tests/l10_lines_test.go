package tests

import (
	"fmt"
	"math"
	"regexp"
	"slices"
	"strconv"
	"strings"
	"testing"
	"unsafe"

	"loop.example/g00164/impl"
)

var (
	nodeForm = regexp.MustCompile(`^( *)(?:<([^\n]*)|\|([^\n]*))\n$`)
	wideForm = regexp.MustCompile(`^wide (0|[1-9][0-9]{0,5})$`)
	fontForm = regexp.MustCompile(`^font` + strings.Repeat(` (0|[1-9][0-9]{0,5})`, 5) + `$`)
)

// treeTextAsSaid takes any nodes.
func treeTextAsSaid(l []impl.Node) (string, bool) {
	if !goodTreeAsSaid(l) {
		return "", false
	}
	text := ""
	for i, n := range l {
		chain, _ := chainOf(l, i)
		told, ok := "|"+n.Text, !strings.Contains(n.Text, "\n")
		if n.Style != (impl.Style{}) {
			told, ok = styleTextAsSaid(n.Style)
			told = "<" + told
		}
		if !ok {
			return "", false
		}
		text += fmt.Sprintf("%*s%s\n", len(chain), "", told)
	}
	if len(text) > 3000 {
		return "", false
	}
	return text, true
}

// treeAsSaid reads each line by its form, and looks back for the element around it.
func treeAsSaid(s string) ([]impl.Node, bool) {
	lines := strings.SplitAfter(s, "\n")
	if len(s) > 3000 || lines[len(lines)-1] != "" {
		return nil, false
	}
	var l []impl.Node
	var deep []int
	for i, line := range lines[:len(lines)-1] {
		m := nodeForm.FindStringSubmatch(line)
		if m == nil {
			return nil, false
		}
		n, ok := impl.Node{Text: m[3]}, true
		if line[len(m[1])] == '<' {
			n.Style, ok = styleAsSaid(m[2])
		}
		n.Up = i - 1
		for n.Up >= 0 && (deep[n.Up] != len(m[1])-1 || l[n.Up].Style == impl.Style{}) {
			n.Up--
		}
		if !ok || n.Up < 0 && m[1] != "" {
			return nil, false
		}
		l, deep = append(l, n), append(deep, len(m[1]))
	}
	if !goodTreeAsSaid(l) {
		return nil, false
	}
	return l, true
}

// pageTextAsSaid takes any page.
func pageTextAsSaid(p impl.Page) (string, bool) {
	if len(p.Boxes) > 80 || len(p.Places) != len(p.Boxes) || len(p.Lines) > 400 {
		return "", false
	}
	text := ""
	for k, x := range p.Boxes {
		if at := p.Places[k]; x.Kind != 2 {
			text += fmt.Sprintf("box %d %d %d %d %d\n", x.Node, at.X, at.Y, at.W, at.H)
		}
	}
	for _, x := range p.Lines {
		text += fmt.Sprintf("line %d %d %d %d %s\n", x.Box, x.X, x.Y, x.W, strings.ReplaceAll(x.Text, "\n", "/"))
	}
	return text + fmt.Sprintf("high %d\n", p.High), true
}

// answerAsSaid is to a tree.
func answerAsSaid(f impl.Font, wide int, text string) string {
	l, ok := treeAsSaid(text)
	if !ok {
		return "no\n"
	}
	p, code := pageAsSaid(f, l, wide)
	if code != 0 {
		return fmt.Sprintf("no %d\n", code)
	}
	told, _ := pageTextAsSaid(movedAsSaid(l, p))
	return told
}

// fontAsSaid wants a match of the font's form.
func fontAsSaid(m []string) (impl.Font, bool) {
	var f impl.Font
	for k, n := range fontParts(&f) {
		*n, _ = strconv.Atoi(m[k+1])
	}
	return f, goodFontAsSaid(f)
}

func runAsSaid(text string) string {
	lines := strings.Split(text, "\n")
	if len(text) > 3000 || len(lines) > 61 || lines[len(lines)-1] != "" {
		return ""
	}
	lines = lines[:len(lines)-1]
	answers, f, wide := "", plainFont, 6400
	for len(lines) > 0 {
		line := lines[0]
		lines = lines[1:]
		answer := "what\n"
		switch {
		case line == "tree" && slices.Contains(lines, "end"):
			end := slices.Index(lines, "end")
			answer = answerAsSaid(f, wide, strings.Join(append(slices.Clone(lines[:end]), ""), "\n"))
			lines = lines[end+1:]
		case strings.HasPrefix(line, "wide "):
			answer = "no\n"
			if m := wideForm.FindStringSubmatch(line); m != nil {
				if n, _ := strconv.Atoi(m[1]); n <= 100000 {
					answer, wide = "ok\n", n
				}
			}
		case strings.HasPrefix(line, "font "):
			answer = "no\n"
			if m := fontForm.FindStringSubmatch(line); m != nil {
				if told, ok := fontAsSaid(m); ok {
					answer, f = "ok\n", told
				}
			}
		}
		answers += answer
	}
	return answers
}

// checkTreeText holds a tree's text against the document and against promise 10.
func checkTreeText(t *testing.T, l []impl.Node) (string, bool) {
	t.Helper()
	want, wantOk := treeTextAsSaid(l)
	text, ok := impl.TreeText(l)
	if text != want || ok != wantOk {
		t.Fatalf("TreeText(%+v) = %q, %v; want %q, %v", l, text, ok, want, wantOk)
	}
	if ok {
		if back, ok := impl.ReadTree(text); !slices.Equal(back, l) || !ok {
			t.Fatalf("ReadTree(%q) = %+v, %v; want %+v, true", text, back, ok, l)
		}
	}
	return text, ok
}

func checkReadTree(t *testing.T, s string) ([]impl.Node, bool) {
	t.Helper()
	want, wantOk := treeAsSaid(s)
	l, ok := impl.ReadTree(s)
	if !slices.Equal(l, want) || ok != wantOk {
		t.Fatalf("ReadTree(%.300q) = %+v, %v; want %+v, %v", s, l, ok, want, wantOk)
	}
	if ok {
		if text, ok := impl.TreeText(l); text != s || !ok {
			t.Fatalf("TreeText(%+v) = %q, %v; want %q, true", l, text, ok, s)
		}
	}
	return l, ok
}

func checkPageText(t *testing.T, p impl.Page) (string, bool) {
	t.Helper()
	want, wantOk := pageTextAsSaid(p)
	text, ok := impl.PageText(p)
	if text != want || ok != wantOk {
		t.Fatalf("PageText(%+v) = %q, %v; want %q, %v", p, text, ok, want, wantOk)
	}
	return text, ok
}

func checkRun(t *testing.T, text string) string {
	t.Helper()
	want := runAsSaid(text)
	got := impl.RunPage(text)
	if got != want {
		t.Fatalf("RunPage(%.3100q) = %q; want %q", text, got, want)
	}
	return got
}

func TestLinesConstants(t *testing.T) {
	if got := []int{impl.MaxScript, impl.MaxLines}; !slices.Equal(got, []int{3000, 60}) {
		t.Error(got)
	}
}

// filling: a tree whose text has 3000 bytes, and so many more.
func filling(more int) []impl.Node {
	l := []impl.Node{element(-1)}
	for range 14 {
		l = append(l, words(0, strings.Repeat("a", 200)))
	}
	return append(l, words(0, strings.Repeat("b", 153+more)))
}

func TestTreeText(t *testing.T) {
	float := blockWith(0, func(s *impl.Style) { s.Float, s.Width, s.Padding = 2, percentOf(5000), 96 })
	cases := []struct {
		name string
		l    []impl.Node
		want string
	}{
		{"one", nested(1), "<\n"},
		{"a text", []impl.Node{element(-1), words(0, "a b")}, "<\n |a b\n"},
		{"one blank for each element around", nested(4), "<\n <\n  <\n   <\n"},
		{"a text has them too", append(nested(3), words(2, "a"), words(1, "b"), words(0, "c")), "<\n <\n  <\n   |a\n  |b\n |c\n"},
		{"a style", []impl.Node{element(-1), float, words(1, "c"), element(0)}, "<\n <float:right;width:50%;padding:1.5px;\n  |c\n <\n"},
		{"a hidden one", []impl.Node{hidden(-1), hidden(0), words(1, "a")}, "<show:none;\n <show:none;\n  |a\n"},
		{"blanks and tabs stay", []impl.Node{element(-1), words(0, "  a\t "), words(0, " "), words(0, "\t")}, "<\n |  a\t \n | \n |\t\n"},
		{"signs of a tree in a text", []impl.Node{element(-1), words(0, "<"), words(0, "|"), words(0, " <a|:;"), words(0, "end")}, "<\n |<\n ||\n | <a|:;\n |end\n"},
		{"as deep as may be", nested(8), "<\n <\n  <\n   <\n    <\n     <\n      <\n       <\n"},
		{"a text as deep as may be", append(nested(7), words(6, "a")), "<\n <\n  <\n   <\n    <\n     <\n      <\n       |a\n"},
		{"as many as may be", append(nested(1), slices.Repeat([]impl.Node{words(0, "a")}, 39)...), "<\n" + strings.Repeat(" |a\n", 39)},
	}
	for _, c := range cases {
		if got, ok := checkTreeText(t, c.l); got != c.want || !ok {
			t.Errorf("%s: TreeText = %q, %v; want %q, true", c.name, got, ok, c.want)
		}
	}
	for more, want := range []bool{true, false} {
		if got, ok := checkTreeText(t, filling(more)); ok != want || ok && len(got) != 3000 {
			t.Errorf("TreeText of %d bytes = %d bytes, %v", 3000+more, len(got), ok)
		}
	}
}

// Promise 11: trees without a text have the zero answer.
func TestTreeTextRefuses(t *testing.T) {
	cases := map[string][]impl.Node{
		"none": nil, "a text first": {words(-1, "a")}, "two roots": {element(-1), element(-1)}, "an empty text": {element(-1), words(0, "")},
		"a 10 in a text": {element(-1), words(0, "a\nb")}, "a 10 alone": {element(-1), words(0, "\n")}, "a 10 at the end": {element(-1), words(0, "a\n")},
		"no quarter":       {element(-1), blockWith(0, func(s *impl.Style) { s.Padding = 17 })},
		"no whole percent": {element(-1), blockWith(0, func(s *impl.Style) { s.Width = percentOf(150) })},
		"a bad style":      {element(-1), blockWith(0, func(s *impl.Style) { s.Show = 4 })},
		"too deep":         nested(9), "a text too deep": append(nested(8), words(7, "a")), "too many": beside(41), "too long": filling(1), "far too many": make([]impl.Node, 100000),
	}
	for name, l := range cases {
		if got, ok := checkTreeText(t, l); got != "" || ok {
			t.Errorf("%s: TreeText = %q, %v; want none, false", name, got, ok)
		}
	}
}

// Promise 11: texts that no tree has.
func TestReadTreeRefuses(t *testing.T) {
	for _, s := range []string{
		"", "\n", "<", "<\n\n", "\n<\n", "<\n |a", "<\n |a\n |b", "|a\n", " <\n", "<\n<\n", "<\n|a\n", "<\n |\n", "<\n  |a\n", "<\n  <\n", "<\n |a\n  |b\n", "<\n |a\n  <\n",
		"<\n <\n |a\n  |b\n", "<\n <\n |a\n  <\n", "<\n <\n <\n   <\n", "<\n a\n", "<\n >\n", "a\n", "<\n\t|a\n", "<\n\t<\n", "\t<\n", "<\n < \n", "< \n", "<\n <padding:1px; \n", "<\n <padding:1px\n",
		"<\n <padding:0px;\n", "<\n <padding:01px;\n", "<\n <padding:1.0px;\n", "<\n <padding:1.50px;\n", "<\n <padding:0.3px;\n", "<\n <show:block;\n", "<\n <show:many;\n", "<\n <border:1px;float:left;\n",
		"<\n <padding:1px;padding:1px;\n", "<\n <padding:1001px;\n", "<\n <width:50.5%;\n", "<\n <width:1001%;\n", "<\n |a\x00\n", "<\n |\x7f\n", "<\n |é\n", "<\n |a\r\n", "<\r\n", "<\n |a\nend\n", "\x00", "\xff\n",
		"<\n |" + strings.Repeat("a", 201) + "\n", "<\n" + strings.Repeat(" <\n", 40), "<\n" + strings.Repeat(" |a\n", 40), strings.Repeat("<\n", 40), strings.Repeat(" ", 3000), strings.Repeat("<", 3000),
		strings.Repeat("\n", 3000), strings.Repeat("<\n", 1500), strings.Repeat("<\n |a\n", 1000000), "<\n <\n  <\n   <\n    <\n     <\n      <\n       <\n        <\n", "<\n <\n  <\n   <\n    <\n     <\n      <\n       <\n        |a\n",
	} {
		if l, ok := checkReadTree(t, s); l != nil || ok {
			t.Errorf("ReadTree(%.100q) = %+v, %v; want none, false", s, l, ok)
		}
	}
	full, _ := impl.TreeText(filling(0))
	for s, want := range map[string]bool{full: true, strings.Replace(full, "b", "bb", 1): false, full + "\n": false} {
		if _, ok := checkReadTree(t, s); ok != want {
			t.Errorf("ReadTree of %d bytes: %v", len(s), ok)
		}
	}
}

// Promise 10: every tree of few nodes comes back.
func TestEveryShortTreeComesBack(t *testing.T) {
	kinds := []func(int) impl.Node{
		element, inline,
		func(up int) impl.Node { return words(up, "a") },
		func(up int) impl.Node { return words(up, " |\t<") },
		func(up int) impl.Node { return words(up, "a\n") },
	}
	back := 0
	var grow func(l []impl.Node)
	grow = func(l []impl.Node) {
		if _, ok := checkTreeText(t, l); !ok {
			return
		}
		back++
		if len(l) == 5 {
			return
		}
		for up := -1; up <= len(l); up++ {
			for _, kind := range kinds {
				grow(append(slices.Clone(l), kind(up)))
			}
		}
	}
	for _, kind := range kinds {
		grow([]impl.Node{kind(-1)})
	}
	if back < 1000 {
		t.Errorf("only %d trees", back)
	}
}

// without10: the tree with tabs for what no text of a tree may have.
func without10(l []impl.Node) []impl.Node {
	for i := range l {
		l[i].Text = strings.ReplaceAll(l[i].Text, "\n", "\t")
	}
	return l
}

// Promise 10: trees of any styles come back, as great as may be.
func TestThrownTreesComeBack(t *testing.T) {
	d := dice(10)
	back, too := 0, 0
	for k := range 4000 {
		l := d.tree(1 + k%40)
		if k%4 > 0 {
			l = without10(l)
		}
		if _, ok := checkTreeText(t, l); ok {
			back++
		} else {
			too++
		}
	}
	if back < 1500 || too < 500 {
		t.Errorf("%d trees come back, %d have no text", back, too)
	}
}

// Promise 10: what is read is told again, whatever few lines it is.
func TestReadTreeOfEveryFewLines(t *testing.T) {
	lines := []string{"<\n", " <\n", "  <\n", " |a\n", "  |a\n", "   |b\n", "|a\n"}
	good := 0
	var grow func(s string, more int)
	grow = func(s string, more int) {
		if _, ok := checkReadTree(t, s); ok {
			good++
		}
		for _, line := range lines[:min(more, 1)*len(lines)] {
			grow(s+line, more-1)
		}
	}
	grow("", 5)
	if good < 100 {
		t.Errorf("only %d good trees", good)
	}
}

func TestReadTreeOfEveryShortText(t *testing.T) {
	eachText("<| a\n", 6, func(s string) { checkReadTree(t, s) })
	eachText("<| a\n", 6, func(s string) { checkReadTree(t, "<\n"+s+"\n") })
}

// changedTexts: one byte gone, put in, or another, at each place.
func changedTexts(s string, bytes string, do func(string)) {
	for at := range len(s) + 1 {
		if at < len(s) {
			do(s[:at] + s[at+1:])
		}
		for _, c := range []byte(bytes) {
			do(s[:at] + string([]byte{c}) + s[at:])
			if at < len(s) {
				do(s[:at] + string([]byte{c}) + s[at+1:])
			}
		}
	}
}

func TestReadTreeAtChangedTexts(t *testing.T) {
	d := dice(1010)
	for range 6 {
		s, ok := checkTreeText(t, without10(d.tree(6)))
		if ok {
			changedTexts(s, " <|\n:;a05%-\t\x00\x7f\xff", func(s string) { checkReadTree(t, s) })
		}
	}
}

func TestPageText(t *testing.T) {
	l, p := askedPage()
	if got, ok := checkPageText(t, p); got != "box 0 0 0 60 34\nbox 2 5 13 20 30\nbox 4 5 13 50 8\nline 1 5 5 12 a b\nline 3 5 13 12 c d\nline 5 25 13 5 e\nline 6 25 21 5 f\nhigh 34\n" || !ok {
		t.Errorf("PageText of %+v = %q, %v", l, got, ok)
	}
	cases := []struct {
		name string
		p    impl.Page
		want string
	}{
		{"no page", impl.Page{}, "high 0\n"},
		{"below 0", impl.Page{High: -5}, "high -5\n"},
		{"lines without a box", impl.Page{Lines: []impl.Line{{Box: -3, X: -1, Y: 2, W: 4, H: 9, Text: "a"}}}, "line -3 -1 2 4 a\nhigh 0\n"},
		{"an empty line", impl.Page{Lines: []impl.Line{{}}}, "line 0 0 0 0 \nhigh 0\n"},
		{"each 10", impl.Page{Lines: []impl.Line{{Text: "\na/\n b\n\n"}, {Text: "\n"}}}, "line 0 0 0 0 /a// b//\nline 0 0 0 0 /\nhigh 0\n"},
		{"any bytes", impl.Page{Lines: []impl.Line{{Text: " \t\x00\xff\r "}}}, "line 0 0 0 0  \t\x00\xff\r \nhigh 0\n"},
		{"a box's text is not told", impl.Page{Boxes: []impl.Box{{Kind: 1, Node: 4, Up: 8, Text: "a"}}, Places: []impl.Place{{X: 1, Y: 2, W: 3, H: 4}}}, "box 4 1 2 3 4\nhigh 0\n"},
		{"BoxLines alone", impl.Page{Boxes: []impl.Box{{Kind: 2, Node: 4, Text: "a"}}, Places: []impl.Place{{X: 1, Y: 2, W: 3, H: 4}}}, "high 0\n"},
		{"any kind but BoxLines", impl.Page{Boxes: []impl.Box{{Kind: 0}, {Kind: 2}, {Kind: 3, Node: -7}, {Kind: 9}}, Places: make([]impl.Place, 4)}, "box 0 0 0 0 0\nbox -7 0 0 0 0\nbox 0 0 0 0 0\nhigh 0\n"},
		{"floats are not told", impl.Page{Floats: many(50, atLeft(1, 2, 3, 4)), High: 7}, "high 7\n"},
		{"far", impl.Page{Boxes: []impl.Box{{Node: math.MinInt}}, Places: []impl.Place{{X: math.MaxInt, Y: math.MinInt}}, High: math.MinInt}, "box -9223372036854775808 9223372036854775807 -9223372036854775808 0 0\nhigh -9223372036854775808\n"},
	}
	for _, c := range cases {
		if got, ok := checkPageText(t, c.p); got != c.want || !ok {
			t.Errorf("%s: PageText = %q, %v; want %q, true", c.name, got, ok, c.want)
		}
	}
}

// Promise 11: as much as a page may have, and one more; any numbers.
func TestPageTextAtItsLimits(t *testing.T) {
	for more, want := range []bool{true, false} {
		p := impl.Page{Boxes: make([]impl.Box, 80+more), Places: make([]impl.Place, 80+more), Lines: manyLines(400, impl.Line{Text: strings.Repeat("a\n", 500)})}
		if _, ok := checkPageText(t, p); ok != want {
			t.Errorf("PageText of %d boxes: %v", len(p.Boxes), ok)
		}
		p = impl.Page{Boxes: make([]impl.Box, 80), Places: make([]impl.Place, 80), Lines: manyLines(400+more, impl.Line{Box: 3, Text: "a"})}
		if _, ok := checkPageText(t, p); ok != want {
			t.Errorf("PageText of %d lines: %v", len(p.Lines), ok)
		}
		p = impl.Page{Boxes: make([]impl.Box, 3), Places: make([]impl.Place, 3+more)}
		if _, ok := checkPageText(t, p); ok != want {
			t.Errorf("PageText of %d boxes, %d places: %v", len(p.Boxes), len(p.Places), ok)
		}
		p = impl.Page{Boxes: make([]impl.Box, 3+more), Places: make([]impl.Place, 3)}
		if _, ok := checkPageText(t, p); ok != want {
			t.Errorf("PageText of %d boxes, %d places: %v", len(p.Boxes), len(p.Places), ok)
		}
	}
	for _, p := range wrongPages() {
		checkPageText(t, p)
	}
	for _, n := range farInts {
		_, p := askedPage()
		p.Boxes[2].Node, p.Boxes[2].Kind, p.Places[0], p.High = n, n, impl.Place{X: n, Y: -n, W: n, H: -n}, n
		p.Lines[1].Box, p.Lines[1].X, p.Lines[1].Y, p.Lines[1].W, p.Lines[1].H = n, n, n, n, n
		checkPageText(t, p)
	}
}

func TestRunPage(t *testing.T) {
	plain := "tree\n<\n |a\nend\n"
	cases := []struct {
		name string
		text string
		want string
	}{
		{"nothing", "", ""},
		{"an empty line", "\n", "what\n"},
		{"no 10 at the end", "wide 5", ""},
		{"no 10 behind the last", "wide 5\nfly", ""},
		{"what is none", "fly\nwhat\nend\nok\n<\n |a\nwideness\nwide5\nWide 5\n wide 5\n tree\n", strings.Repeat("what\n", 11)},
		{"commands alone", "wide\nfont\n", "what\nwhat\n"},
		{"a tree that is not alone", "tree \ntree 1\ntrees\n", "what\nwhat\nwhat\n"},
		{"widths", "wide 0\nwide 1\nwide 10\nwide 99999\nwide 100000\n", strings.Repeat("ok\n", 5)},
		{"widths with needless noughts", "wide 00\nwide 007\nwide 01\nwide 05000\nwide 099999\nwide 000000\nwide 0100000\n", strings.Repeat("no\n", 7)},
		{"wrong widths", "wide \nwide 100001\nwide 999999\nwide 1000000\nwide 0000001\nwide -1\nwide +1\nwide x\nwide 1x\nwide  1\nwide 1 \nwide 1 2\nwide 1.5\nwide 0x1\n", strings.Repeat("no\n", 14)},
		{"fonts", "font 0 0 1 1 1\nfont 6400 6400 6400 6400 6400\nfont 640 160 192 384 640\nfont 10 100 1000 10 100\n", strings.Repeat("ok\n", 4)},
		{"fonts with needless noughts", "font 00 0 1 1 1\nfont 0 00 1 1 1\nfont 0640 160 192 384 640\nfont 640 0160 192 384 640\nfont 640 160 0192 384 640\nfont 640 160 192 000384 640\nfont 640 160 192 384 0640\n", strings.Repeat("no\n", 7)},
		{"wrong fonts", "font \nfont 1\nfont 1 1 1 1\nfont 1 1 1 1 1 1\nfont 1 1 1 1 1 \nfont  1 1 1 1 1\nfont 1 1 1  1 1\nfont 1 1 0 1 1\nfont 1 1 1 0 1\nfont 1 1 1 1 0\nfont 6401 1 1 1 1\nfont 1 6401 1 1 1\nfont 1 1 6401 1 1\nfont 1 1 1 6401 1\nfont 1 1 1 1 6401\nfont -1 1 1 1 1\nfont 1 1 1 1 x\nfont 0000001 1 1 1 1\n", strings.Repeat("no\n", 18)},
		{"a page as at first", plain, "box 0 0 0 6400 800\nline 1 0 0 384 a\nhigh 800\n"},
		{"a page of another width", "wide 70\n" + plain, "ok\nbox 0 0 0 70 800\nline 1 0 0 384 a\nhigh 800\n"},
		{"a page in another font", "font 6 2 2 5 11\n" + plain, "ok\nbox 0 0 0 6400 8\nline 1 0 0 5 a\nhigh 8\n"},
		{"the last width and font count", "wide 70\nfont 6 2 2 5 11\nwide 80\nfont 7 2 2 9 11\n" + plain, "ok\nok\nok\nok\nbox 0 0 0 80 9\nline 1 0 0 9 a\nhigh 9\n"},
		{"wrong ones change nothing", "wide 70\nfont 6 2 2 5 11\nwide 100001\nfont 9 9 9 9 0\nwide\nfont\n" + plain, "ok\nok\nno\nno\nwhat\nwhat\nbox 0 0 0 70 8\nline 1 0 0 5 a\nhigh 8\n"},
		{"ones with needless noughts change nothing", "wide 70\nfont 6 2 2 5 11\nwide 0080\nfont 7 2 2 9 011\n" + plain, "ok\nok\nno\nno\nbox 0 0 0 70 8\nline 1 0 0 5 a\nhigh 8\n"},
		{"a width counts for what is behind it", plain + "wide 70\n" + plain, "box 0 0 0 6400 800\nline 1 0 0 384 a\nhigh 800\nok\nbox 0 0 0 70 800\nline 1 0 0 384 a\nhigh 800\n"},
		{"a page that is moved", "tree\n<right:1px;\n |a\n <down:-2px;\n  |b\nend\n", "box 0 64 0 6400 1600\nbox 2 64 672 6400 800\nline 1 64 0 384 a\nline 3 64 672 384 b\nhigh 1600\n"},
		{"no tree", "tree\nend\n", "no\n"},
		{"wrong trees", "tree\n|a\nend\ntree\n<\n<\nend\ntree\n<\n  |a\nend\ntree\n\nend\ntree\n<padding:1;\nend\n", strings.Repeat("no\n", 5)},
		{"commands in a tree are none", "tree\n<\nwide 5\nend\nwide 5\n", "no\nok\n"},
		{"a tree in a tree", "tree\ntree\nend\nend\n", "no\nwhat\n"},
		{"an end that is none", "tree\n<\n |end\n <\nend \n end\nend\n", "no\n"},
		{"a text that is an end", "tree\n<\n |end\nend\n", "box 0 0 0 6400 800\nline 1 0 0 1152 end\nhigh 800\n"},
		{"a tree without an end", "tree\n<\n |a\n", "what\nwhat\nwhat\n"},
		{"a tree without an end, and commands", "wide 5\ntree\n<\n |a\nwide 5\nwide x\nfly\n", "ok\nwhat\nwhat\nwhat\nok\nno\nwhat\n"},
		{"a tree that is the last line", "fly\ntree\n", "what\nwhat\n"},
		{"trees without an end", "tree\ntree\n<\ntree\n", strings.Repeat("what\n", 4)},
		{"the end of another tree", "tree\nwide 70\n" + plain, "no\n"},
		{"a tree without an end behind one with it", plain + "tree\nwide 70\n<\n", "box 0 0 0 6400 800\nline 1 0 0 384 a\nhigh 800\nwhat\nok\nwhat\n"},
		{"what is like an end", "tree\n<\nend \n end\nend.\nEnd\n\n |end\n", strings.Repeat("what\n", 8)},
		{"no boxes", "tree\n<show:none;\nend\ntree\n<show:inline;\n |a\nend\ntree\n<float:left;\nend\n", "no 2\nno 2\nno 2\n"},
		{"texts that are too long together", "tree\n<\n |" + strings.Repeat("a", 100) + "\n |" + strings.Repeat("b", 101) + "\nend\n", "no 2\n"},
		{"far", "tree\n<width:15625px;border:0.25px;\nend\nwide 1\n", "no 3\nok\n"},
		{"as far as may be", "tree\n<width:15625px;\nend\n", "box 0 0 0 1000000 0\nhigh 0\n"},
		{"other bytes", "\x00\n\xff\xfe\nwide \x00\nfont \xff\n\r\nwide 5\r\ntree\n<\n |\x00\nend\n", "what\nwhat\nno\nno\nwhat\nno\nno\n"},
	}
	for _, c := range cases {
		if got := checkRun(t, c.text); got != c.want {
			t.Errorf("%s: RunPage(%q) = %q; want %q", c.name, c.text, got, c.want)
		}
	}
}

// hundreds: a script with a tree of so many blocks, each with a hundred words.
func hundreds(blocks int) string {
	text := "wide 0\ntree\n<\n"
	for range blocks {
		text += " <\n  |" + strings.Repeat("a ", 100) + "\n"
	}
	return text + "end\nfly\n"
}

// Promise 11: the limits of a script may be met exactly.
func TestRunPageAtItsLimits(t *testing.T) {
	for text, want := range map[string]string{
		strings.Repeat("x", 2999) + "\n":                   "what\n",
		strings.Repeat("x", 3000) + "\n":                   "",
		strings.Repeat("x", 3000):                          "",
		"wide 5\n" + strings.Repeat("x", 2992) + "\n":      "ok\nwhat\n",
		"wide 5\n" + strings.Repeat("x", 2993) + "\n":      "",
		strings.Repeat("\n", 60):                           strings.Repeat("what\n", 60),
		strings.Repeat("\n", 61):                           "",
		strings.Repeat("wide 5\n", 60):                     strings.Repeat("ok\n", 60),
		strings.Repeat("wide 5\n", 61):                     "",
		strings.Repeat("wide 5\n", 60) + "x":               "",
		strings.Repeat("tree\nend\n", 30):                  strings.Repeat("no\n", 30),
		strings.Repeat("tree\nend\n", 30) + "\n":           "",
		strings.Repeat("tree\n", 60):                       strings.Repeat("what\n", 60),
		strings.Repeat("tree\n", 59) + "end\n":             "no\n",
		strings.Repeat("tree\n", 58) + "end\nwide 5\n":     "no\nok\n",
		"tree\n<\n" + strings.Repeat(" <\n", 40) + "end\n": "no\n",
		strings.Repeat("a\n", 1000000):                     "",
	} {
		if got := checkRun(t, text); got != want {
			t.Errorf("RunPage(%.100q) = %.200q; want %.200q", text, got, want)
		}
	}
	if got := checkRun(t, hundreds(4)); strings.Count(got, "line ") != 400 || !strings.HasSuffix(got, "\nhigh 320000\nwhat\n") {
		t.Errorf("a page of 400 lines: %q", got)
	}
	// No PageText is told of more lines; the tree and its page are good all the same.
	if got := checkRun(t, hundreds(5)); got != "ok\nwhat\n" {
		t.Errorf("a page of 500 lines: %q", got)
	}
}

// told makes a style one that has a text.
func told(s impl.Style) impl.Style {
	for _, name := range styleNames {
		if size := sizeAt(&s, name); size != nil && size.Percent {
			size.N *= 2
		} else if size != nil {
			size.N *= 16
		} else if n := numberAt(&s, name); styleWords[name] == nil && (name != "max-width" || *n > 0) {
			*n *= 16
		}
	}
	return s
}

func (d *dice) treeLines(most int) string {
	l := without10(d.treeOf(most, func() impl.Style { return told(d.pageStyle()) }))
	text, _ := impl.TreeText(l)
	if d.upTo(6) == 0 {
		at := d.upTo(len(text))
		text = text[:at] + string("<| \nxend"[d.upTo(8)]) + text[at+1:]
	}
	if d.upTo(20) == 0 {
		return "tree\n" + text
	}
	return "tree\n" + text + "end\n"
}

// script throws commands, most of them good ones.
func (d *dice) script() string {
	text := ""
	for range 1 + d.upTo(6) {
		switch d.upTo(7) {
		case 0:
			text += "wide " + strconv.Itoa(d.upTo(8000)) + "\n"
		case 1:
			text += fmt.Sprintf("font %d %d %d %d %d\n", d.upTo(1000), d.upTo(300), d.upTo(250), 1+d.upTo(500), 1+d.upTo(900))
		case 2:
			text += []string{"wide x", "wide", "font 1 2", "tree 1", "end", "", "fly", "wide 100001"}[d.upTo(8)] + "\n"
		default:
			text += d.treeLines(9)
		}
	}
	return text
}

func TestThrownScripts(t *testing.T) {
	d := dice(101)
	many := map[string]int{}
	for range 4000 {
		answers := checkRun(t, d.script())
		for line := range strings.Lines(answers) {
			word, _, _ := strings.Cut(strings.TrimSuffix(line, "\n"), " ")
			many[word]++
		}
	}
	for _, word := range []string{"box", "line", "high", "ok", "no", "what"} {
		if many[word] < 500 {
			t.Errorf("%q only %d times", word, many[word])
		}
	}
}

// Promise 11: any bytes, at any place of a script.
func TestRunPageAtChangedTexts(t *testing.T) {
	text := "wide 5000\nfont 6 2 2 5 11\ntree\n<padding:1px;\n |a b\n <float:right;\n  |c\nend\nfly\n"
	changedTexts(text, " \n<|0x:;\x00\xff", func(s string) { checkRun(t, s) })
	for n := range len(text) {
		checkRun(t, text[:n])
		checkRun(t, text[n:])
	}
	eachText("012 ", 6, func(s string) {
		checkRun(t, "wide "+s+"\n")
		checkRun(t, "font 1 1 1 1 "+s+"\n")
		checkRun(t, "font "+s+" 1 1 1 1\n")
	})
	eachText("wide 1\n", 5, func(s string) { checkRun(t, s); checkRun(t, "wide "+s+"\n"); checkRun(t, "tree\n<\n"+s+"end\n") })
}

// isPieceOf tells whether a text lies in the memory of another.
func isPieceOf(whole string, piece string) bool {
	if whole == "" || piece == "" {
		return false
	}
	from, at := uintptr(unsafe.Pointer(unsafe.StringData(whole))), uintptr(unsafe.Pointer(unsafe.StringData(piece)))
	return from <= at && at < from+uintptr(len(whole))
}

// Promise 11: nothing is written into an argument, nor read behind its end, and answers are new memory.
func TestTreesAndPagesAreNotWritten(t *testing.T) {
	d := dice(110)
	for range 1500 {
		l := without10(d.treeOf(12, func() impl.Style { return told(d.pageStyle()) }))
		whole := append(slices.Clone(l), impl.Node{Up: 77}, element(0))
		before := slices.Clone(whole)
		text, ok := checkTreeText(t, whole[:len(l)])
		if !ok {
			t.Fatalf("%+v has no text", l)
		}
		first, _ := impl.ReadTree(text)
		for _, n := range first {
			if isPieceOf(text, n.Text) {
				t.Fatalf("ReadTree: %q is the argument's memory", n.Text)
			}
		}
		second, _ := impl.ReadTree(text)
		for i := range first[:cap(first)] {
			first[:cap(first)][i] = impl.Node{Up: -7}
		}
		if third, _ := impl.ReadTree(text); !slices.Equal(second, l) || !slices.Equal(third, l) {
			t.Fatalf("ReadTree(%q) = %+v, then %+v; want %+v", text, second, third, l)
		}
		p, _ := impl.LayPage(plainFont, l, 6400)
		longer := impl.Page{
			Boxes: append(p.Boxes, impl.Box{Kind: 1, Node: 7}), Places: append(p.Places, impl.Place{X: 9}),
			Lines: append(p.Lines, impl.Line{Box: -1, Text: "x"}), Floats: append(p.Floats, impl.Aside{Side: 9}), High: p.High,
		}
		want := clonedPage(longer)
		checkPageText(t, impl.Page{Boxes: longer.Boxes[:len(p.Boxes)], Places: longer.Places[:len(p.Places)], Lines: longer.Lines[:len(p.Lines)], High: p.High})
		if !samePage(longer, want) || !slices.Equal(whole, before) {
			t.Fatalf("written into %+v or into %+v", whole, longer)
		}
	}
}

// Promise 11: nothing is kept from one script to the next.
func TestRunPageKeepsNothing(t *testing.T) {
	plain := "tree\n<\n |a b\nend\n"
	want := impl.RunPage(plain)
	for _, other := range []string{"wide 5\nfont 1 1 1 1 1\n", "tree\n<width:15625px;border:1px;\nend\n", "wide 100000", "tree\n"} {
		impl.RunPage(other)
		if got := impl.RunPage(plain); got != want {
			t.Errorf("RunPage behind %q = %q; want %q", other, got, want)
		}
	}
}
