package tests

import (
	"math"
	"strings"
	"testing"

	"loop.example/g00164/impl"
)

var plainFont = impl.Font{Ascent: 640, Descent: 160, Narrow: 192, Usual: 384, Broad: 640}

// goodFonts: fonts at the limits and between them; the letters' widths need not rise from narrow to broad.
var goodFonts = []impl.Font{
	plainFont,
	{Ascent: 0, Descent: 0, Narrow: 1, Usual: 1, Broad: 1},
	{Ascent: 6400, Descent: 6400, Narrow: 6400, Usual: 6400, Broad: 6400},
	{Ascent: 6400, Descent: 0, Narrow: 1, Usual: 2, Broad: 3},
	{Ascent: 0, Descent: 6400, Narrow: 7, Usual: 5, Broad: 1},
	{Ascent: 641, Descent: 160, Narrow: 6400, Usual: 1, Broad: 10},
	{Ascent: 640, Descent: 161, Narrow: 1, Usual: 100, Broad: 6400},
}

// fontParts tells the five numbers of a font in the order of the document, so that a test can set each.
func fontParts(f *impl.Font) []*int {
	return []*int{&f.Ascent, &f.Descent, &f.Narrow, &f.Usual, &f.Broad}
}

// badFonts: the plain font with each of its numbers just beyond its limits, or far.
func badFonts() []impl.Font {
	l := []impl.Font{{}}
	for k := range 5 {
		for _, n := range []int{math.MinInt, -6400, -1, 0, 6401, 1000000, math.MaxInt} {
			if k < 2 && n == 0 {
				continue
			}
			f := plainFont
			*fontParts(&f)[k] = n
			l = append(l, f)
		}
	}
	return l
}

// fontTexts: texts of at most 400 plain bytes, the longest ones of each kind of letter among them.
func fontTexts() []string {
	return []string{
		"", " ", "i", "a", "m", "wi a", "  ", "ill.", "Mm@Ww", "a word, and another one: 'mill' | 'WILL'!", allPlain(),
		strings.Repeat(" ", 400), strings.Repeat("a", 400), strings.Repeat("W", 400), strings.Repeat("im a", 100), strings.Repeat("x", 399) + "@",
	}
}

// badTexts: texts that are too long, or not all plain.
func badTexts() []string {
	l := []string{
		strings.Repeat("a", 401), strings.Repeat(" ", 401), strings.Repeat("i", 100000), strings.Repeat("a", 400) + "\n",
		"é", "a\u00a0b", "a\tb", "a\nb", "\n", "ab\x00", "\x1f", "a\x7f", strings.Repeat("a", 399) + "\x80", "\xff\xfe",
	}
	for c := range 256 {
		if c < 32 || c > 126 {
			l = append(l, string([]byte{byte(c)}), string([]byte{'a', byte(c)}))
		}
	}
	return l
}

func allPlain() string {
	var b []byte
	for c := 32; c <= 126; c++ {
		b = append(b, byte(c))
	}
	return string(b)
}

// widthAsSaid tells a letter's width by the document's own lists.
func widthAsSaid(f impl.Font, c byte) int {
	switch {
	case strings.IndexByte("ijl.,;:'!| ", c) >= 0:
		return f.Narrow
	case strings.IndexByte("mwMW@", c) >= 0:
		return f.Broad
	}
	return f.Usual
}

func TestGoodFont(t *testing.T) {
	for _, f := range goodFonts {
		if !impl.GoodFont(f) {
			t.Errorf("GoodFont(%+v) = false", f)
		}
	}
	for _, f := range badFonts() {
		if impl.GoodFont(f) {
			t.Errorf("GoodFont(%+v) = true", f)
		}
	}
}

func TestGoodFontAtEachLimit(t *testing.T) {
	for k, least := range []int{0, 0, 1, 1, 1} {
		for _, n := range append([]int{-1, 6399, 6400, 6401}, farInts...) {
			f := plainFont
			*fontParts(&f)[k] = n
			if got, want := impl.GoodFont(f), n >= least && n <= 6400; got != want {
				t.Errorf("GoodFont(%+v) = %v", f, got)
			}
		}
	}
}

func TestAdvanceOf(t *testing.T) {
	cases := []struct {
		s    string
		want int
	}{
		{"", 0},
		{" ", 192},
		{"  ", 384},
		{"wi a", 640 + 192 + 192 + 384},
		{"ijl.,;:'!| ", 11 * 192},
		{"mwMW@", 5 * 640},
		{"IJL\"`/\\()-_?", 12 * 384},
		{"nvNV#Oo0~", 9 * 384},
		{strings.Repeat("a", 400), 400 * 384},
	}
	for _, c := range cases {
		if got, ok := impl.AdvanceOf(plainFont, c.s); got != c.want || !ok {
			t.Errorf("AdvanceOf(%q) = %d, %v; want %d, true", c.s, got, ok, c.want)
		}
	}
	// A width is no length of chapter 1: it may be above MaxLength.
	f := impl.Font{Narrow: 6400, Usual: 6400, Broad: 6400}
	if got, ok := impl.AdvanceOf(f, strings.Repeat("a", 400)); got != 2560000 || !ok {
		t.Errorf("AdvanceOf the longest text = %d, %v; want 2560000, true", got, ok)
	}
}

func TestAdvanceOfEachLetter(t *testing.T) {
	for _, f := range goodFonts {
		for c := range 256 {
			want, wantOk := 0, c >= 32 && c <= 126
			if wantOk {
				want = widthAsSaid(f, byte(c))
			}
			if got, ok := impl.AdvanceOf(f, string([]byte{byte(c)})); got != want || ok != wantOk {
				t.Errorf("AdvanceOf(%+v, byte %d) = %d, %v; want %d, %v", f, c, got, ok, want, wantOk)
			}
		}
	}
}

func TestAdvanceOfIsTheSum(t *testing.T) {
	for _, f := range goodFonts {
		for _, s := range fontTexts() {
			want := 0
			for i := range len(s) {
				want += widthAsSaid(f, s[i])
			}
			if got, ok := impl.AdvanceOf(f, s); got != want || !ok {
				t.Errorf("AdvanceOf(%+v, %q) = %d, %v; want %d, true", f, s, got, ok, want)
			}
		}
	}
}

func TestLineParts(t *testing.T) {
	odd := impl.Font{Ascent: 641, Descent: 160, Narrow: 1, Usual: 1, Broad: 1}
	tall := impl.Font{Ascent: 6400, Descent: 0, Narrow: 1, Usual: 1, Broad: 1}
	deep := impl.Font{Ascent: 0, Descent: 6400, Narrow: 1, Usual: 1, Broad: 1}
	flat := impl.Font{Ascent: 0, Descent: 0, Narrow: 1, Usual: 1, Broad: 1}
	cases := []struct {
		f                    impl.Font
		height, above, below int
	}{
		{plainFont, 0, 640, 160},
		{plainFont, 800, 640, 160},
		{plainFont, 700, 590, 110},
		{plainFont, 701, 590, 111},
		{plainFont, 799, 639, 160},
		{plainFont, 801, 640, 161},
		{plainFont, 802, 641, 161},
		{plainFont, 1, 240, -239},
		{plainFont, 64000, 32240, 31760},
		{odd, 800, 640, 160},
		{odd, 0, 641, 160},
		{tall, 0, 6400, 0},
		{tall, 1, 3200, -3199},
		{tall, 6400, 6400, 0},
		{deep, 0, 0, 6400},
		{deep, 1, -3200, 3201},
		{flat, 0, 0, 0},
		{flat, 1, 0, 1},
		{flat, 64000, 32000, 32000},
	}
	for _, c := range cases {
		if above, below, ok := impl.LineParts(c.f, c.height); above != c.above || below != c.below || !ok {
			t.Errorf("LineParts(%+v, %d) = %d, %d, %v; want %d, %d, true", c.f, c.height, above, below, ok, c.above, c.below)
		}
	}
	for _, n := range []int{math.MinInt, -64000, -1, 64001, 1000000, math.MaxInt} {
		if above, below, ok := impl.LineParts(plainFont, n); above != 0 || below != 0 || ok {
			t.Errorf("LineParts(%d) = %d, %d, %v; want the zero answer", n, above, below, ok)
		}
	}
}

// Promise 2: a line's parts are its height, and what is above is as told, at every height.
func TestLinePartsAreTheHeight(t *testing.T) {
	for _, f := range goodFonts {
		for height := -3; height <= 64003; height++ {
			above, below, ok := impl.LineParts(f, height)
			if height < 0 || height > 64000 {
				if above != 0 || below != 0 || ok {
					t.Fatalf("LineParts(%+v, %d) = %d, %d, %v; want the zero answer", f, height, above, below, ok)
				}
				continue
			}
			whole := height
			if height == 0 {
				whole = f.Ascent + f.Descent
			}
			want := f.Ascent + int(floorOf(whole-f.Ascent-f.Descent, 1, 2).Int64())
			if above != want || above+below != whole || !ok {
				t.Fatalf("LineParts(%+v, %d) = %d, %d, %v; want %d, %d, true", f, height, above, below, ok, want, whole-want)
			}
		}
	}
}

func TestFitsIn(t *testing.T) {
	cases := []struct {
		s          string
		room, want int
	}{
		{"", 0, 0},
		{"", -1, 0},
		{"", 1000, 0},
		{"abc", 800, 2},
		{"abc", 768, 2},
		{"abc", 767, 1},
		{"abc", 384, 1},
		{"abc", 383, 0},
		{"abc", 0, 0},
		{"abc", -1, 0},
		{"abc", math.MinInt, 0},
		{"abc", 1151, 2},
		{"abc", 1152, 3},
		{"abc", math.MaxInt, 3},
		{"  i", 400, 2},
		{"wi", 639, 0},
		{"wi", 640, 1},
		{strings.Repeat("a", 400), 400*384 - 1, 399},
		{strings.Repeat("a", 400), 400 * 384, 400},
	}
	for _, c := range cases {
		if got, ok := impl.FitsIn(plainFont, c.s, c.room); got != c.want || !ok {
			t.Errorf("FitsIn(%q, %d) = %d, %v; want %d, true", c.s, c.room, got, ok, c.want)
		}
	}
}

// checkFits holds what fits against AdvanceOf: the letters that fit do so, and one more does not.
func checkFits(t *testing.T, f impl.Font, s string, room int) {
	t.Helper()
	n, ok := impl.FitsIn(f, s, room)
	if !ok || n < 0 || n > len(s) {
		t.Fatalf("FitsIn(%+v, %q, %d) = %d, %v", f, s, room, n, ok)
	}
	if w, ok := impl.AdvanceOf(f, s[:n]); n > 0 && (w > room || !ok) {
		t.Fatalf("FitsIn(%+v, %q, %d) = %d, which is %d wide", f, s, room, n, w)
	}
	if n == len(s) {
		return
	}
	if w, ok := impl.AdvanceOf(f, s[:n+1]); w <= room || !ok {
		t.Fatalf("FitsIn(%+v, %q, %d) = %d, but one more is %d wide", f, s, room, n, w)
	}
}

// Promise 2: what fits is all that fits.
func TestWhatFitsIsAllThatFits(t *testing.T) {
	for _, f := range goodFonts {
		for _, s := range fontTexts() {
			for _, room := range farInts {
				checkFits(t, f, s, room)
			}
			for n := range len(s) + 1 {
				w, _ := impl.AdvanceOf(f, s[:n])
				for _, room := range []int{w - 1, w, w + 1} {
					checkFits(t, f, s, room)
				}
				if got, _ := impl.FitsIn(f, s, w); got != n {
					t.Fatalf("FitsIn(%+v, %q, %d) = %d; want %d", f, s, w, got, n)
				}
			}
		}
	}
}

func TestWhatFitsOfEveryShortText(t *testing.T) {
	f := impl.Font{Narrow: 2, Usual: 3, Broad: 5}
	eachText(" iam", 4, func(s string) {
		for room := -1; room <= 21; room++ {
			checkFits(t, f, s, room)
		}
	})
}

func checkFontRefuses(t *testing.T, f impl.Font, s string) {
	t.Helper()
	if n, ok := impl.AdvanceOf(f, s); n != 0 || ok {
		t.Errorf("AdvanceOf(%+v, %.40q) = %d, %v; want 0, false", f, s, n, ok)
	}
	for _, room := range farInts {
		if n, ok := impl.FitsIn(f, s, room); n != 0 || ok {
			t.Errorf("FitsIn(%+v, %.40q, %d) = %d, %v; want 0, false", f, s, room, n, ok)
		}
	}
}

// Promise 11: wrong arguments have the zero answer, even where the letters ahead of a wrong one would fill the room.
func TestFontsAnswerAtWrongArguments(t *testing.T) {
	for _, s := range badTexts() {
		for _, f := range goodFonts {
			checkFontRefuses(t, f, s)
		}
	}
	for _, f := range badFonts() {
		for _, s := range append(fontTexts(), "\n", strings.Repeat("a", 401)) {
			checkFontRefuses(t, f, s)
		}
		for _, n := range append([]int{64000, 64001}, farInts...) {
			if above, below, ok := impl.LineParts(f, n); above != 0 || below != 0 || ok {
				t.Errorf("LineParts(%+v, %d) = %d, %d, %v; want the zero answer", f, n, above, below, ok)
			}
		}
	}
}

// Promise 11: a part of a longer text is measured as if it stood alone, and nothing is kept from call to call.
func TestFontsReadTheirTextAlone(t *testing.T) {
	whole := strings.Repeat("im a", 99) + "\n" + strings.Repeat("@", 500)
	for n := range 397 {
		s := whole[:n]
		first, ok := impl.AdvanceOf(plainFont, s)
		impl.AdvanceOf(goodFonts[1], whole)
		again, okAgain := impl.AdvanceOf(plainFont, strings.Clone(s))
		if first != again || !ok || !okAgain {
			t.Fatalf("AdvanceOf the first %d = %d, %v, then %d, %v", n, first, ok, again, okAgain)
		}
	}
}
