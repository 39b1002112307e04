package tests

import (
	"fmt"
	"math"
	"regexp"
	"slices"
	"strconv"
	"strings"
	"testing"

	"loop.example/g00164/impl"
)

// styleNames: the names of a style's things, in the order of its text.
var styleNames = []string{
	"show", "float", "clear", "width", "height", "min-width", "max-width", "margin-top", "margin-right",
	"margin-bottom", "margin-left", "border", "padding", "white", "align", "line-height", "right", "down",
}

var styleWords = map[string][]string{
	"show":  {1: "block", 2: "inline", 3: "none"},
	"float": {"none", "left", "right"},
	"clear": {"none", "left", "right", "both"},
	"white": {1: "normal", 2: "nowrap", 3: "pre", 4: "pre-wrap", 5: "pre-line"},
	"align": {1: "left", 2: "right", 3: "center"},
}

// numberLimits: from where on to where each number of a style is good.
var numberLimits = map[string][2]int{
	"show": {1, 3}, "float": {0, 2}, "clear": {0, 3}, "min-width": {0, 1000000}, "max-width": {-1, 1000000},
	"margin-top": {-1000000, 1000000}, "margin-bottom": {-1000000, 1000000}, "border": {0, 64000}, "padding": {0, 64000},
	"white": {1, 5}, "align": {1, 3}, "line-height": {0, 64000}, "right": {-1000000, 1000000}, "down": {-1000000, 1000000},
}

// numberAt and sizeAt tell where a thing stands in a style: one of them does.
func numberAt(s *impl.Style, name string) *int {
	switch name {
	case "show":
		return &s.Show
	case "float":
		return &s.Float
	case "clear":
		return &s.Clear
	case "min-width":
		return &s.MinWidth
	case "max-width":
		return &s.MaxWidth
	case "margin-top":
		return &s.MarginTop
	case "margin-bottom":
		return &s.MarginBot
	case "border":
		return &s.Border
	case "padding":
		return &s.Padding
	case "white":
		return &s.White
	case "align":
		return &s.Align
	case "line-height":
		return &s.LineHeight
	case "right":
		return &s.Right
	case "down":
		return &s.Down
	}
	return nil
}

func sizeAt(s *impl.Style, name string) *impl.Size {
	switch name {
	case "width":
		return &s.Width
	case "height":
		return &s.Height
	case "margin-right":
		return &s.MarginRight
	case "margin-left":
		return &s.MarginLeft
	}
	return nil
}

func plainAsSaid() impl.Style {
	return impl.Style{
		Show: 1, Width: impl.Size{Auto: true}, Height: impl.Size{Auto: true}, MaxWidth: -1, White: 1, Align: 1,
	}
}

func goodSizeAsSaid(name string, s impl.Size) bool {
	if (name == "width" || name == "height") && s.N < 0 || name == "height" && s.Percent {
		return false
	}
	if s.Auto {
		return s == impl.Size{Auto: true}
	}
	if s.Percent {
		return s.N >= -100000 && s.N <= 100000
	}
	return s.N >= -1000000 && s.N <= 1000000
}

func goodStyleAsSaid(s impl.Style) bool {
	for _, name := range styleNames {
		if size := sizeAt(&s, name); size != nil {
			if !goodSizeAsSaid(name, *size) {
				return false
			}
			continue
		}
		if n, limit := *numberAt(&s, name), numberLimits[name]; n < limit[0] || n > limit[1] {
			return false
		}
	}
	return true
}

// pixelsTextAsSaid writes quarters by a fraction with two digits, and takes the noughts off.
func pixelsTextAsSaid(n int) (string, bool) {
	if n%16 != 0 {
		return "", false
	}
	return strings.TrimRight(strings.TrimRight(fmt.Sprintf("%.2f", float64(n)/64), "0"), ".") + "px", true
}

func sizeTextAsSaid(s impl.Size) (string, bool) {
	switch {
	case s.Auto:
		return "auto", true
	case s.Percent:
		return fmt.Sprintf("%d%%", s.N/100), s.N%100 == 0
	}
	return pixelsTextAsSaid(s.N)
}

func thingTextAsSaid(s impl.Style, name string) (string, bool) {
	if size := sizeAt(&s, name); size != nil {
		return sizeTextAsSaid(*size)
	}
	n := *numberAt(&s, name)
	if words := styleWords[name]; words != nil {
		return words[n], true
	}
	return sizeTextAsSaid(impl.Size{N: n})
}

// styleTextAsSaid wants a good style.
func styleTextAsSaid(s impl.Style) (string, bool) {
	text, plain := "", plainAsSaid()
	for _, name := range styleNames {
		if size := sizeAt(&s, name); size != nil && *size == *sizeAt(&plain, name) {
			continue
		}
		if n := numberAt(&s, name); n != nil && *n == *numberAt(&plain, name) {
			continue
		}
		value, ok := thingTextAsSaid(s, name)
		if !ok {
			return "", false
		}
		text += name + ":" + value + ";"
	}
	return text, true
}

var (
	percentForm = regexp.MustCompile(`^(0|-?[1-9][0-9]*)%$`)
	saidForm    = regexp.MustCompile(`^([a-z-]+):([^:;]*);`)
)

// sizeAsSaid reads a value in the form that a text tells, and no other.
func sizeAsSaid(value string) (impl.Size, bool) {
	if value == "auto" {
		return impl.Size{Auto: true}, true
	}
	if m := percentForm.FindStringSubmatch(value); m != nil {
		n, err := strconv.Atoi(m[1])
		return impl.Size{Percent: true, N: n * 100}, err == nil && n >= -1000 && n <= 1000
	}
	n, ok := pixelsAsSaid(value)
	return impl.Size{N: n}, ok && shortForm.MatchString(value)
}

// styleAsSaid reads a text thing by thing, and looks at the order of the names and at each value's form.
func styleAsSaid(text string) (impl.Style, bool) {
	s, plain, last := plainAsSaid(), plainAsSaid(), -1
	for text != "" {
		m := saidForm.FindStringSubmatch(text)
		if m == nil {
			return impl.Style{}, false
		}
		at := slices.Index(styleNames, m[1])
		if at <= last {
			return impl.Style{}, false
		}
		text, last = text[len(m[0]):], at
		value, ok := sizeAsSaid(m[2])
		if size := sizeAt(&s, m[1]); size != nil {
			*size = value
			ok = ok && value != *sizeAt(&plain, m[1])
		} else if words := styleWords[m[1]]; words != nil {
			*numberAt(&s, m[1]) = slices.Index(words, m[2])
			ok = m[2] != "" && slices.Contains(words, m[2]) && *numberAt(&s, m[1]) != *numberAt(&plain, m[1])
		} else {
			*numberAt(&s, m[1]) = value.N
			ok = ok && !value.Auto && !value.Percent && value.N != *numberAt(&plain, m[1])
		}
		if !ok || !goodStyleAsSaid(s) {
			return impl.Style{}, false
		}
	}
	return s, true
}

// sizesToTry: sizes at the edges that the document names, just beyond them, and far.
func sizesToTry() []impl.Size {
	var l []impl.Size
	for _, n := range append([]int{-16, -100, 100, 150, 5000, 6400, 6410, 64000, -99999, 1000016, 100100}, farInts...) {
		for k := range 4 {
			l = append(l, impl.Size{Auto: k&1 != 0, Percent: k&2 != 0, N: n})
		}
	}
	return l
}

// oneThingStyles: each thing of a plain style by turns at what it may be, at its edges and beyond.
func oneThingStyles() []impl.Style {
	var l []impl.Style
	numbers := append([]int{-2, -16, 4, 5, 6, 8, 17, 24, 48, 63984, 63999, 64000, 64001, 64016, 1000016, -1000016, 999984}, farInts...)
	for _, name := range styleNames {
		s := plainAsSaid()
		if size := sizeAt(&s, name); size != nil {
			for _, *size = range sizesToTry() {
				l = append(l, s)
			}
			continue
		}
		n := numberAt(&s, name)
		for _, *n = range numbers {
			l = append(l, s)
		}
	}
	return l
}

// dice: a fixed row of numbers that look thrown.
type dice uint64

func (d *dice) upTo(n int) int {
	*d = *d*6364136223846793005 + 1442695040888963407
	return int(uint64(*d)>>33) % n
}

func (d *dice) size(auto bool, below bool, percent bool) impl.Size {
	low := 0
	if below {
		low = 1
	}
	switch k := d.upTo(4); {
	case k == 0 && auto:
		return impl.Size{Auto: true}
	case k == 1 && percent:
		return impl.Size{Percent: true, N: 100 * (d.upTo(1001+1000*low) - 1000*low)}
	}
	return impl.Size{N: d.quarters(-62500*low, 62500)}
}

func (d *dice) quarters(least int, most int) int {
	if d.upTo(8) == 0 {
		return 16 * []int{least, most}[d.upTo(2)]
	}
	if d.upTo(2) == 0 {
		least, most = max(least, -20), min(most, 20)
	}
	return 16 * (least + d.upTo(most-least+1))
}

// style throws a good style that has a text; about half of its things are plain.
func (d *dice) style() impl.Style {
	s := plainAsSaid()
	for _, name := range styleNames {
		size, n, limit := sizeAt(&s, name), numberAt(&s, name), numberLimits[name]
		switch {
		case d.upTo(2) == 0:
		case size != nil:
			*size = d.size(true, strings.HasPrefix(name, "margin"), name != "height")
		case styleWords[name] != nil:
			*n = limit[0] + d.upTo(limit[1]-limit[0]+1)
		default:
			*n = d.quarters(limit[0]/16, limit[1]/16)
		}
	}
	return s
}

func thrownStyles(many int) []impl.Style {
	d := dice(7)
	l := make([]impl.Style, many)
	for i := range l {
		l[i] = d.style()
	}
	return l
}

func checkStyleText(t *testing.T, s impl.Style) string {
	t.Helper()
	want, wantOk := "", false
	if goodStyleAsSaid(s) {
		want, wantOk = styleTextAsSaid(s)
	}
	got, ok := impl.StyleText(s)
	if got != want || ok != wantOk {
		t.Fatalf("StyleText(%+v) = %q, %v; want %q, %v", s, got, ok, want, wantOk)
	}
	return got
}

func checkReadStyle(t *testing.T, text string) {
	t.Helper()
	want, wantOk := styleAsSaid(text)
	if got, ok := impl.ReadStyle(text); got != want || ok != wantOk {
		t.Fatalf("ReadStyle(%.200q) = %+v, %v; want %+v, %v", text, got, ok, want, wantOk)
	}
}

func TestStyleConstants(t *testing.T) {
	got := []int{
		impl.MaxNodes, impl.MaxDeep, impl.ShowBlock, impl.ShowInline, impl.ShowNone, impl.SideNone, impl.SideLeft,
		impl.SideRight, impl.SideBoth, impl.AlignLeft, impl.AlignRight, impl.AlignCenter,
	}
	if !slices.Equal(got, []int{40, 8, 1, 2, 3, 0, 1, 2, 3, 1, 2, 3}) {
		t.Error(got)
	}
}

func TestPlainStyle(t *testing.T) {
	if s := impl.PlainStyle(); s != plainAsSaid() {
		t.Errorf("PlainStyle() = %+v", s)
	}
}

func TestGoodStyle(t *testing.T) {
	for _, s := range oneThingStyles() {
		if got, want := impl.GoodStyle(s), goodStyleAsSaid(s); got != want {
			t.Errorf("GoodStyle(%+v) = %v", s, got)
		}
	}
	for _, s := range thrownStyles(2000) {
		if !impl.GoodStyle(s) {
			t.Errorf("GoodStyle(%+v) = false", s)
		}
	}
	if impl.GoodStyle(impl.Style{}) {
		t.Error("the zero style is good")
	}
}

// One thing that is not good makes a style not good, whatever the others are.
func TestGoodStyleWantsAllGood(t *testing.T) {
	for i, s := range thrownStyles(200) {
		name := styleNames[i%len(styleNames)]
		if size := sizeAt(&s, name); size != nil {
			*size = impl.Size{Auto: true, N: 1}
		} else {
			*numberAt(&s, name) = numberLimits[name][1] + 1
		}
		if impl.GoodStyle(s) {
			t.Errorf("GoodStyle(%+v) = true, with a bad %s", s, name)
		}
	}
}

func fixedAsSaid(s impl.Style) impl.Style {
	if s.Show == 3 || s.Show == 1 {
		return s
	}
	if s.Float == 0 {
		s = plainAsSaid()
		s.Show = 2
		return s
	}
	s.Show = 1
	return s
}

func TestFixStyle(t *testing.T) {
	full := impl.Style{
		Show: impl.ShowInline, Clear: impl.SideBoth, Width: impl.Size{N: 7}, Height: impl.Size{N: 8}, MinWidth: 1, MaxWidth: 2, MarginTop: 3,
		MarginRight: impl.Size{Auto: true}, MarginBot: -4, MarginLeft: impl.Size{Percent: true, N: -5}, Border: 6, Padding: 7,
		White: impl.WhitePre, Align: impl.AlignCenter, LineHeight: 9, Right: 10, Down: -11,
	}
	inline := plainAsSaid()
	inline.Show = impl.ShowInline
	if got, ok := impl.FixStyle(full); got != inline || !ok {
		t.Errorf("FixStyle(%+v) = %+v, %v; want %+v, true", full, got, ok, inline)
	}
	full.Float = impl.SideRight
	want := full
	want.Show = impl.ShowBlock
	if got, ok := impl.FixStyle(full); got != want || !ok {
		t.Errorf("FixStyle(%+v) = %+v, %v; want %+v, true", full, got, ok, want)
	}
	full.Show = impl.ShowNone
	if got, ok := impl.FixStyle(full); got != full || !ok {
		t.Errorf("FixStyle(%+v) = %+v, %v; want itself, true", full, got, ok)
	}
}

// Promise 4: what is fixed stays.
func TestWhatIsFixedStays(t *testing.T) {
	styles := thrownStyles(500)
	for _, s := range oneThingStyles() {
		if goodStyleAsSaid(s) {
			styles = append(styles, s)
		}
	}
	for _, s := range styles {
		for s.Show = 1; s.Show <= 3; s.Show++ {
			for s.Float = range 3 {
				got, ok := impl.FixStyle(s)
				if got != fixedAsSaid(s) || !ok {
					t.Fatalf("FixStyle(%+v) = %+v, %v; want %+v, true", s, got, ok, fixedAsSaid(s))
				}
				if again, ok := impl.FixStyle(got); again != got || !ok || !impl.GoodStyle(got) {
					t.Fatalf("FixStyle(%+v) = %+v, and again %+v, %v", s, got, again, ok)
				}
			}
		}
	}
}

func TestStyleText(t *testing.T) {
	with := func(change func(s *impl.Style)) impl.Style {
		s := impl.PlainStyle()
		change(&s)
		return s
	}
	cases := []struct {
		s    impl.Style
		want string
		ok   bool
	}{
		{impl.PlainStyle(), "", true},
		{with(func(s *impl.Style) { s.Show = impl.ShowInline }), "show:inline;", true},
		{with(func(s *impl.Style) { s.Show = impl.ShowNone }), "show:none;", true},
		{with(func(s *impl.Style) { s.Float = impl.SideRight }), "float:right;", true},
		{with(func(s *impl.Style) { s.Clear = impl.SideBoth }), "clear:both;", true},
		{with(func(s *impl.Style) { s.Width = impl.Size{} }), "width:0px;", true},
		{with(func(s *impl.Style) { s.Width = impl.Size{Percent: true} }), "width:0%;", true},
		{with(func(s *impl.Style) { s.Width = impl.Size{Percent: true, N: 100000} }), "width:1000%;", true},
		{with(func(s *impl.Style) { s.Width = impl.Size{Percent: true, N: 150} }), "", false},
		{with(func(s *impl.Style) { s.Height = impl.Size{N: 1000000} }), "height:15625px;", true},
		{with(func(s *impl.Style) { s.MinWidth = 16 }), "min-width:0.25px;", true},
		{with(func(s *impl.Style) { s.MinWidth = 15 }), "", false},
		{with(func(s *impl.Style) { s.MaxWidth = 0 }), "max-width:0px;", true},
		{with(func(s *impl.Style) { s.MarginTop = -1000000 }), "margin-top:-15625px;", true},
		{with(func(s *impl.Style) { s.MarginRight = impl.Size{Auto: true} }), "margin-right:auto;", true},
		{with(func(s *impl.Style) { s.MarginRight = impl.Size{Percent: true} }), "margin-right:0%;", true},
		{with(func(s *impl.Style) { s.MarginBot = -32 }), "margin-bottom:-0.5px;", true},
		{with(func(s *impl.Style) { s.MarginLeft = impl.Size{Percent: true, N: -100000} }), "margin-left:-1000%;", true},
		{with(func(s *impl.Style) { s.Border = 64000 }), "border:1000px;", true},
		{with(func(s *impl.Style) { s.Border = 64001 }), "", false},
		{with(func(s *impl.Style) { s.Padding = 96 }), "padding:1.5px;", true},
		{with(func(s *impl.Style) { s.White = impl.WhiteNowrap }), "white:nowrap;", true},
		{with(func(s *impl.Style) { s.White = impl.WhitePre }), "white:pre;", true},
		{with(func(s *impl.Style) { s.White = impl.WhitePreWrap }), "white:pre-wrap;", true},
		{with(func(s *impl.Style) { s.White = impl.WhitePreLine }), "white:pre-line;", true},
		{with(func(s *impl.Style) { s.Align = impl.AlignCenter }), "align:center;", true},
		{with(func(s *impl.Style) { s.Align = impl.AlignRight }), "align:right;", true},
		{with(func(s *impl.Style) { s.LineHeight = 1280 }), "line-height:20px;", true},
		{with(func(s *impl.Style) { s.LineHeight = 1281 }), "", false},
		{with(func(s *impl.Style) { s.Right = -64 }), "right:-1px;", true},
		{with(func(s *impl.Style) { s.Down = 48 }), "down:0.75px;", true},
		{with(func(s *impl.Style) { s.Down, s.Float = 1, impl.SideLeft }), "", false},
		{impl.Style{}, "", false},
	}
	for _, c := range cases {
		if got, ok := impl.StyleText(c.s); got != c.want || ok != c.ok {
			t.Errorf("StyleText(%+v) = %q, %v; want %q, %v", c.s, got, ok, c.want, c.ok)
		}
	}
}

// All things at once: the order of the document.
func TestStyleTextHasItsOrder(t *testing.T) {
	want := "show:inline;float:left;clear:right;width:1px;height:2px;min-width:3px;max-width:4px;margin-top:5px;margin-right:6%;" +
		"margin-bottom:7px;margin-left:auto;border:8px;padding:9px;white:pre;align:right;line-height:10px;right:11px;down:12px;"
	s, ok := impl.ReadStyle(want)
	full := impl.Style{
		Show: impl.ShowInline, Float: impl.SideLeft, Clear: impl.SideRight, Width: impl.Size{N: 64}, Height: impl.Size{N: 128}, MinWidth: 192,
		MaxWidth: 256, MarginTop: 320, MarginRight: impl.Size{Percent: true, N: 600}, MarginBot: 448, MarginLeft: impl.Size{Auto: true},
		Border: 512, Padding: 576, White: impl.WhitePre, Align: impl.AlignRight, LineHeight: 640, Right: 704, Down: 768,
	}
	if s != full || !ok {
		t.Errorf("ReadStyle(%q) = %+v, %v", want, s, ok)
	}
	if got, ok := impl.StyleText(full); got != want || !ok {
		t.Errorf("StyleText = %q, %v; want %q", got, ok, want)
	}
	// Two things side by side in the other order are no text.
	parts := strings.SplitAfter(strings.TrimSuffix(want, ";"), ";")
	for i := range len(parts) - 1 {
		other := slices.Clone(parts)
		other[len(other)-1] += ";"
		other[i], other[i+1] = other[i+1], other[i]
		if s, ok := impl.ReadStyle(strings.Join(other, "")); s != (impl.Style{}) || ok {
			t.Errorf("ReadStyle(%q) = %+v, %v; want none", strings.Join(other, ""), s, ok)
		}
	}
}

// Promise 4: styles come back from their texts.
func TestStylesComeBack(t *testing.T) {
	for _, s := range append(oneThingStyles(), thrownStyles(3000)...) {
		text := checkStyleText(t, s)
		if _, ok := impl.StyleText(s); !ok {
			continue
		}
		if back, ok := impl.ReadStyle(text); back != s || !ok {
			t.Fatalf("ReadStyle(%q) = %+v, %v; want %+v, true", text, back, ok, s)
		}
	}
}

// Each quarter of a pixel and each whole percent comes back.
func TestStylesComeBackAtEveryQuarter(t *testing.T) {
	s := impl.PlainStyle()
	for n := -1000000; n <= 1000000; n += 16 * 13 {
		s.MarginTop, s.MarginLeft.N, s.Padding = n, -n, max(0, n/16%4000*16)
		text, ok := impl.StyleText(s)
		if back, backOk := impl.ReadStyle(text); !ok || !backOk || back != s {
			t.Fatalf("%+v: %q, %v; back %+v, %v", s, text, ok, back, backOk)
		}
	}
	s = impl.PlainStyle()
	for n := -1000; n <= 1000; n++ {
		s.MarginRight = impl.Size{Percent: true, N: n * 100}
		if text, ok := impl.StyleText(s); text != "margin-right:"+strconv.Itoa(n)+"%;" || !ok {
			t.Fatalf("StyleText of %d percents = %q, %v", n, text, ok)
		}
		checkReadStyle(t, "margin-right:"+strconv.Itoa(n)+"%;")
	}
}

// Promise 11: a text that no style has is not read.
func TestReadStyleAtWrongTexts(t *testing.T) {
	texts := []string{
		"x", ";", ":", ":;", "show", "show:", "show:;", "show:inline", "show:inline;;", ";show:inline;", " show:inline;", "show: inline;", "show :inline;",
		"show:inline; ", "show:inline;\n", "SHOW:inline;", "Show:Inline;", "show:INLINE;", "show:block;", "show:2;", "show:in;", "float:none;", "float:both;",
		"clear:none;", "clear:left right;", "white:normal;", "white:prewrap;", "align:left;", "align:centre;", "align:both;", "width:auto;", "height:auto;",
		"width:-1px;", "width:-5%;", "width:-0%;", "width:1001%;", "width:1000%;", "width:99999%;", "width:00%;", "width:05%;", "width:+5%;", "width:5.5%;",
		"width:5 %;", "width:%;", "width:-%;", "width:1e1%;", "width:px;", "width:5;", "width:05px;", "width:5.0px;", "width:5.50px;", "width:.5px;", "width:5.px;",
		"width:5.1px;", "width:5.20px;", "width:0.3px;", "width:0.01px;", "width:-0px;", "width:15625px;", "width:15625.25px;", "width:15626px;", "width:99999px;",
		"width:100000px;", "height:50%;", "height:0%;", "height:0px;", "min-width:0px;", "min-width:auto;", "min-width:5%;", "min-width:-1px;", "max-width:-1px;",
		"max-width:-0.01px;", "max-width:-0.02px;", "max-width:none;", "max-width:auto;", "max-width:0px;", "margin-top:auto;", "margin-top:5%;", "margin-top:0px;",
		"margin-bottom:auto;", "margin-bottom:0px;", "margin-left:0px;", "margin-left:0%;", "margin-left:-0%;", "margin-right:-1000%;", "margin-right:-1001%;",
		"margin:1px;", "margin-bot:1px;", "border:-1px;", "border:1000px;", "border:1000.25px;", "border:1001px;", "padding:1000.25px;", "line-height:1000px;",
		"line-height:1000.25px;", "line-height:-1px;", "right:15625px;", "right:-15625.25px;", "down:auto;", "down:0px;", "width:1px;width:1px;", "width:1px;width:2px;",
		"width:1px,height:1px;", "width:1px;height:1px", "height:1px;width:1px;", "width:1px;x:1px;", "x:1px;width:1px;", "widthheight:1px;", "width:1px;\x00", "\x00",
		"é:1px;", "width:é;", "width:1px\xff;", "width:1 px;", "width:auto;width:1px;", strings.Repeat("width:1px;", 100000), strings.Repeat(";", 100000),
		"width:" + strings.Repeat("1", 100000) + "px;", "width:" + strings.Repeat("0", 100000) + "%;", strings.Repeat("a", 100000), "show:" + strings.Repeat("none", 10000) + ";",
	}
	for _, text := range texts {
		checkReadStyle(t, text)
	}
	if s, ok := impl.ReadStyle(""); s != plainAsSaid() || !ok {
		t.Errorf("ReadStyle of the empty text = %+v, %v; want the plain style", s, ok)
	}
}

// A byte more, less or other makes of a text another style's, or none's.
func TestReadStyleAtChangedTexts(t *testing.T) {
	texts := []string{
		"show:none;width:10.5px;", "float:left;clear:both;", "height:25px;margin-right:auto;", "margin-left:-100%;", "max-width:0px;border:1000px;", "white:pre-wrap;align:center;",
		"margin-top:-0.25px;margin-bottom:15625px;", "line-height:20px;right:-1px;down:2px;",
	}
	for _, text := range texts {
		checkReadStyle(t, text)
		for i := range len(text) + 1 {
			for _, c := range []byte("05-.:;%pxa\x00") {
				checkReadStyle(t, text[:i]+string([]byte{c})+text[i:])
				if i < len(text) {
					checkReadStyle(t, text[:i]+string([]byte{c})+text[i+1:])
					checkReadStyle(t, text[:i]+text[i+1:])
				}
			}
			checkReadStyle(t, text[i:])
			checkReadStyle(t, text[:i])
		}
	}
}

// Promise 11: styles that are not good have the zero answer.
func TestStylesAnswerAtWrongStyles(t *testing.T) {
	for _, s := range append(oneThingStyles(), impl.Style{}) {
		if goodStyleAsSaid(s) {
			continue
		}
		if got, ok := impl.FixStyle(s); got != (impl.Style{}) || ok {
			t.Errorf("FixStyle(%+v) = %+v, %v; want none, false", s, got, ok)
		}
		if got, ok := impl.StyleText(s); got != "" || ok {
			t.Errorf("StyleText(%+v) = %q, %v; want none, false", s, got, ok)
		}
	}
}

func element(up int) impl.Node {
	return impl.Node{Up: up, Style: plainAsSaid()}
}

func words(up int, text string) impl.Node {
	return impl.Node{Up: up, Text: text}
}

func hidden(up int) impl.Node {
	n := element(up)
	n.Style.Show = impl.ShowNone
	return n
}

// chainOf tells the elements that a node of a tree would stand in, the innermost first; not where its Ups do not go back to the first one.
func chainOf(l []impl.Node, at int) ([]int, bool) {
	var chain []int
	for at != 0 {
		up := l[at].Up
		if up < 0 || up >= at || l[up].Style == (impl.Style{}) {
			return nil, false
		}
		chain = append(chain, up)
		at = up
	}
	return chain, true
}

func goodTreeAsSaid(l []impl.Node) bool {
	if len(l) < 1 || len(l) > 40 || l[0].Up != -1 || l[0].Style == (impl.Style{}) {
		return false
	}
	for i, n := range l {
		isText := n.Style == impl.Style{}
		if isText && (n.Text == "" || len(n.Text) > 200 || strings.Trim(n.Text, allPlain()+"\t\n") != "") {
			return false
		}
		if !isText && (n.Text != "" || !goodStyleAsSaid(n.Style)) {
			return false
		}
		chain, ok := chainOf(l, i)
		if !ok || len(chain) > 7 {
			return false
		}
		if i == 0 {
			continue
		}
		ahead, _ := chainOf(l, i-1)
		if n.Up != i-1 && !slices.Contains(ahead, n.Up) {
			return false
		}
	}
	return true
}

func shownAsSaid(l []impl.Node) []int {
	var shown []int
	for i, n := range l {
		chain, _ := chainOf(l, i)
		isHidden := n.Style == (impl.Style{}) || n.Style.Show == 3
		for _, k := range chain {
			isHidden = isHidden || l[k].Style.Show == 3
		}
		if !isHidden {
			shown = append(shown, i)
		}
	}
	return shown
}

func checkTree(t *testing.T, l []impl.Node) bool {
	t.Helper()
	want := goodTreeAsSaid(l)
	if got := impl.GoodTree(l); got != want {
		t.Fatalf("GoodTree(%+v) = %v", l, got)
	}
	var shown []int
	if want {
		shown = shownAsSaid(l)
	}
	if got, ok := impl.ShownIn(l); !slices.Equal(got, shown) || ok != want {
		t.Fatalf("ShownIn(%+v) = %v, %v; want %v, %v", l, got, ok, shown, want)
	}
	return want
}

// nested: so many elements, each in the one ahead.
func nested(many int) []impl.Node {
	var l []impl.Node
	for i := range many {
		l = append(l, element(i-1))
	}
	return l
}

// beside: so many nodes, all but the first in the first.
func beside(many int) []impl.Node {
	l := []impl.Node{element(-1)}
	for len(l) < many {
		if len(l)%2 == 0 {
			l = append(l, element(0))
		} else {
			l = append(l, words(0, "a"))
		}
	}
	return l
}

func TestGoodTree(t *testing.T) {
	cases := []struct {
		name string
		l    []impl.Node
		want bool
	}{
		{"none", nil, false},
		{"one", nested(1), true},
		{"a text first", []impl.Node{words(-1, "a")}, false},
		{"the first one in itself", []impl.Node{element(0)}, false},
		{"the first one further out", []impl.Node{element(-2)}, false},
		{"two roots", []impl.Node{element(-1), element(-1)}, false},
		{"a text in the node ahead", []impl.Node{element(-1), words(0, "a")}, true},
		{"a node in a text", []impl.Node{element(-1), words(0, "a"), words(1, "b")}, false},
		{"an element in a text", []impl.Node{element(-1), words(0, "a"), element(1)}, false},
		{"back behind a text", []impl.Node{element(-1), element(0), words(1, "a"), words(1, "b"), words(0, "c")}, true},
		{"into one that is over", []impl.Node{element(-1), element(0), element(0), element(1)}, false},
		{"into one that is over, by a text", []impl.Node{element(-1), element(0), words(0, "a"), words(1, "b")}, false},
		{"in itself", []impl.Node{element(-1), element(1)}, false},
		{"in one behind", []impl.Node{element(-1), element(2), element(0)}, false},
		{"far", []impl.Node{element(-1), element(math.MaxInt)}, false},
		{"far below", []impl.Node{element(-1), element(math.MinInt)}, false},
		{"8 deep", nested(8), true},
		{"9 deep", nested(9), false},
		{"a text in the seventh", append(nested(7), words(6, "a")), true},
		{"a text in the eighth", append(nested(8), words(7, "a")), false},
		{"a text of blanks in the eighth", append(nested(8), words(7, " ")), false},
		{"a text in the ninth", append(nested(9), words(8, "a")), false},
		{"a text beside the eighth", append(nested(8), words(6, "a")), true},
		{"a text beside the eighth, and one in it", append(nested(7), words(6, "a"), element(6), words(8, "b")), false},
		{"back from the eighth, and in again", append(nested(8), element(6), element(0)), true},
		{"back from the eighth, and a text in again", append(nested(8), element(6), words(8, "a")), false},
		{"40", beside(40), true},
		{"41", beside(41), false},
		{"an element with a text", []impl.Node{element(-1), {Up: 0, Text: "a", Style: plainAsSaid()}}, false},
		{"the first one with a text", []impl.Node{{Up: -1, Text: "a", Style: plainAsSaid()}}, false},
		{"an empty text", []impl.Node{element(-1), words(0, "")}, false},
		{"a text of blanks", []impl.Node{element(-1), words(0, " \t\n")}, true},
		{"a text of 200", []impl.Node{element(-1), words(0, strings.Repeat("a", 200))}, true},
		{"a text of 201", []impl.Node{element(-1), words(0, strings.Repeat("a", 201))}, false},
		{"a text that is none", []impl.Node{element(-1), words(0, "a\x00")}, false},
		{"a text beyond plain", []impl.Node{element(-1), words(0, "\x7f")}, false},
		{"hidden", []impl.Node{hidden(-1), hidden(0), words(1, "a")}, true},
	}
	for _, c := range cases {
		if got := checkTree(t, c.l); got != c.want {
			t.Errorf("%s: GoodTree(%+v) = %v", c.name, c.l, got)
		}
	}
}

func TestShownIn(t *testing.T) {
	cases := []struct {
		l    []impl.Node
		want []int
	}{
		{nested(3), []int{0, 1, 2}},
		{[]impl.Node{hidden(-1), element(0), words(1, "a")}, nil},
		{[]impl.Node{element(-1), words(0, "a"), element(0), words(2, "b")}, []int{0, 2}},
		{[]impl.Node{element(-1), hidden(0), element(1), element(2), words(3, "b"), element(0), words(0, "c"), element(0), hidden(7)}, []int{0, 5, 7}},
	}
	for _, c := range cases {
		if got, ok := impl.ShownIn(c.l); !slices.Equal(got, c.want) || !ok {
			t.Errorf("ShownIn(%+v) = %v, %v; want %v, true", c.l, got, ok, c.want)
		}
	}
	l := nested(3)
	l[1].Style.Show, l[2].Style.Float = impl.ShowInline, impl.SideLeft
	if got, ok := impl.ShownIn(l); !slices.Equal(got, []int{0, 1, 2}) || !ok {
		t.Errorf("ShownIn with an inline element = %v, %v", got, ok)
	}
	// A Float does not show what is not shown.
	l[1].Style.Show, l[1].Style.Float = impl.ShowNone, impl.SideLeft
	if got, ok := impl.ShownIn(l); !slices.Equal(got, []int{0}) || !ok {
		t.Errorf("ShownIn with a hidden float = %v, %v", got, ok)
	}
}

// Every tree of few nodes: each an element, a text or hidden, in any node that there is or is not. One that is not good is not grown on.
func TestEveryShortTree(t *testing.T) {
	kinds := []func(int) impl.Node{element, hidden, func(up int) impl.Node { return words(up, "a") }}
	good := 0
	var grow func(l []impl.Node)
	grow = func(l []impl.Node) {
		if len(l) > 0 && !checkTree(t, l) {
			return
		}
		good++
		if len(l) == 6 {
			return
		}
		for up := -1; up <= len(l); up++ {
			for _, kind := range kinds {
				grow(append(slices.Clone(l), kind(up)))
			}
		}
	}
	grow([]impl.Node{})
	if good < 100 {
		t.Errorf("only %d good trees", good)
	}
}

// Nodes of every kind behind elements that stand about as deep as they may.
func TestEveryDeepTree(t *testing.T) {
	kinds := []func(int) impl.Node{element, hidden, func(up int) impl.Node { return words(up, "a") }}
	var grow func(l []impl.Node, more int)
	grow = func(l []impl.Node, more int) {
		if !checkTree(t, l) || more == 0 {
			return
		}
		for up := range l {
			for _, kind := range kinds {
				grow(append(slices.Clone(l), kind(up)), more-1)
			}
		}
	}
	for deep := 6; deep <= 9; deep++ {
		grow(nested(deep), 3)
	}
}

// Promise 11: wrong styles, wrong texts and wrong Ups anywhere in a tree.
func TestTreesAnswerAtWrongNodes(t *testing.T) {
	for at := range 6 {
		for _, s := range oneThingStyles() {
			l := []impl.Node{element(-1), element(0), words(1, "a"), element(1), element(0), words(4, "b")}
			l[at].Style = s
			checkTree(t, l)
		}
		for _, text := range append(wrongTexts(), longTexts()...) {
			l := []impl.Node{element(-1), element(0), words(1, "a"), element(1), element(0), words(4, "b")}
			l[at].Text = text
			checkTree(t, l)
		}
		for _, up := range farInts {
			l := []impl.Node{element(-1), element(0), words(1, "a"), element(1), element(0), words(4, "b")}
			l[at].Up = up
			checkTree(t, l)
		}
	}
	checkTree(t, make([]impl.Node, 40))
	checkTree(t, make([]impl.Node, 100000))
}

// Promise 11: nothing is written into a tree, nor read behind its end, and lists are new memory.
func TestTreesAreNotWritten(t *testing.T) {
	whole := append(beside(40), element(77))
	want := slices.Clone(whole)
	for n := range len(whole) + 1 {
		checkTree(t, whole[:n])
	}
	if !slices.Equal(whole, want) {
		t.Error("a tree was written into")
	}
	first, _ := impl.ShownIn(whole[:40])
	kept := slices.Clone(first)
	second, _ := impl.ShownIn(whole[:40])
	for i := range first[:cap(first)] {
		first[:cap(first)][i] = -7
	}
	if third, _ := impl.ShownIn(whole[:40]); !slices.Equal(second, kept) || !slices.Equal(third, kept) {
		t.Errorf("ShownIn: %v, then %v; want %v", second, third, kept)
	}
}
