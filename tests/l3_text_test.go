package tests

import (
	"math"
	"regexp"
	"slices"
	"strings"
	"testing"
	"unsafe"

	"loop.example/g00164/impl"
)

var whites = []int{impl.WhiteNormal, impl.WhiteNowrap, impl.WhitePre, impl.WhitePreWrap, impl.WhitePreLine}

// badWhites: just beyond the five, and far.
var badWhites = []int{math.MinInt, -5, -1, 0, 6, 7, 256 + 1, 1 << 32, math.MaxInt}

// textFont: widths of which no few make another, so that a letter too many or too few is seen.
var textFont = impl.Font{Ascent: 640, Descent: 160, Narrow: 10, Usual: 101, Broad: 1003}

var (
	anyBlanks = regexp.MustCompile(`[ \t\n]+`)
	blankRun  = regexp.MustCompile(`[ \t]+`)
	beside10  = regexp.MustCompile(` ?\n ?`)
	hyphened  = regexp.MustCompile(`^[A-Za-z0-9]-[A-Za-z0-9]$`)
)

// longTexts: texts of chapter 3 at its limit, and ordinary ones.
func longTexts() []string {
	return []string{
		"", "a", " ", "\n", "\t", "-", "a b-c", " a \n b\t", " a \n  b c ", "one two-three\n\n  four\tfive \t six-7 -8 9- --",
		"re-entry, twenty-one; 3-4 a- -b a--b (a)-(b) Z-a 9-Z", allPlain(),
		strings.Repeat("a", 200), strings.Repeat(" ", 200), strings.Repeat("\n", 200), strings.Repeat("\t", 200), strings.Repeat("a-", 100),
		strings.Repeat("mi a\n", 40), strings.Repeat("a \t\n", 50), strings.Repeat("@", 199) + " ", " " + strings.Repeat("x", 199),
	}
}

// wrongTexts: texts that none of the functions of chapter 3 takes.
func wrongTexts() []string {
	l := []string{
		strings.Repeat("a", 201), strings.Repeat(" ", 201), strings.Repeat("\n", 201), strings.Repeat("\t", 201), strings.Repeat("a b\n", 100000),
		strings.Repeat("a", 200) + "\x00", strings.Repeat("a", 199) + "\x7f", "é", "a\u00a0b", "a\r\nb", "a\vb", "a b\x00", "\xff\xfe",
	}
	for c := range 256 {
		if (c < 32 || c > 126) && c != 9 && c != 10 {
			l = append(l, string([]byte{byte(c)}), string([]byte{'a', byte(c), 'b'}), string([]byte{'a', ' ', byte(c)}))
		}
	}
	return l
}

// keptAsSaid tells what is kept of a text, by expressions.
func keptAsSaid(white int, s string) string {
	switch white {
	case impl.WhiteNormal, impl.WhiteNowrap:
		return strings.Trim(anyBlanks.ReplaceAllString(s, " "), " ")
	case impl.WhitePreLine:
		return strings.Trim(beside10.ReplaceAllString(blankRun.ReplaceAllString(s, " "), "\n"), " ")
	}
	return strings.ReplaceAll(s, "\t", " ")
}

// breaksAsSaid asks at each place what stands on its two sides.
func breaksAsSaid(white int, s string) []int {
	var l []int
	for at := 1; at <= len(s); at++ {
		ahead, behind := s[:at], s[at:]
		run := strings.HasSuffix(ahead, " ") && !strings.HasPrefix(behind, " ")
		hyphen := hyphened.MatchString(s[max(at-2, 0):min(at+1, len(s))])
		wraps := white != impl.WhitePre && white != impl.WhiteNowrap
		if behind == "" || strings.HasSuffix(ahead, "\n") || wraps && (run || hyphen) {
			l = append(l, at)
		}
	}
	return l
}

func forcedAsSaid(s string) []int {
	return breaksAsSaid(impl.WhitePre, s+"a")[:strings.Count(s, "\n")]
}

// widthAsLine measures a stretch letter by letter, without the blanks and the 10 at its end.
func widthAsLine(f impl.Font, s string) int {
	sum, counted := 0, 0
	for _, c := range []byte(s) {
		if c != '\n' {
			sum += widthAsSaid(f, c)
		}
		if c != '\n' && c != ' ' {
			counted = sum
		}
	}
	return counted
}

func widestAsSaid(f impl.Font, s string, ends []int) int {
	most, from := 0, 0
	for _, end := range ends {
		most = max(most, widthAsLine(f, s[from:end]))
		from = end
	}
	return most
}

// cutAsSaid goes back from the last break to the one that is asked for.
func cutAsSaid(f impl.Font, white int, s string, room int) int {
	l := breaksAsSaid(white, s)
	for _, at := range slices.Backward(l) {
		if !strings.Contains(s[:at-1], "\n") && widthAsLine(f, s[:at]) <= room {
			return at
		}
	}
	return l[0]
}

func checkKept(t *testing.T, white int, s string) string {
	t.Helper()
	got, ok := impl.KeepText(white, s)
	if want := keptAsSaid(white, s); got != want || !ok {
		t.Fatalf("KeepText(%d, %q) = %q, %v; want %q, true", white, s, got, ok, want)
	}
	return got
}

func checkBreaks(t *testing.T, white int, s string) {
	t.Helper()
	if got, ok := impl.BreaksOf(white, s); !slices.Equal(got, breaksAsSaid(white, s)) || !ok {
		t.Fatalf("BreaksOf(%d, %q) = %v, %v; want %v, true", white, s, got, ok, breaksAsSaid(white, s))
	}
	if got, ok := impl.ForcedIn(s); !slices.Equal(got, forcedAsSaid(s)) || !ok {
		t.Fatalf("ForcedIn(%q) = %v, %v; want %v, true", s, got, ok, forcedAsSaid(s))
	}
}

func checkWidest(t *testing.T, f impl.Font, white int, s string) {
	t.Helper()
	want := widestAsSaid(f, s, breaksAsSaid(white, s))
	if got, ok := impl.WidestWord(f, white, s); got != want || !ok {
		t.Fatalf("WidestWord(%+v, %d, %q) = %d, %v; want %d, true", f, white, s, got, ok, want)
	}
	want = widestAsSaid(f, s, append(forcedAsSaid(s), len(s)))
	if got, ok := impl.WidestLine(f, s); got != want || !ok {
		t.Fatalf("WidestLine(%+v, %q) = %d, %v; want %d, true", f, s, got, ok, want)
	}
}

func checkCut(t *testing.T, f impl.Font, white int, s string, room int) int {
	t.Helper()
	got, ok := impl.CutLine(f, white, s, room)
	if want := cutAsSaid(f, white, s, room); got != want || !ok {
		t.Fatalf("CutLine(%+v, %d, %q, %d) = %d, %v; want %d, true", f, white, s, room, got, ok, want)
	}
	return got
}

func TestTextConstants(t *testing.T) {
	if !slices.Equal(whites, []int{1, 2, 3, 4, 5}) || impl.MaxText != 200 {
		t.Error(whites, impl.MaxText)
	}
}

func TestKeepText(t *testing.T) {
	cases := []struct{ s, normal, pre, line string }{
		{"", "", "", ""},
		{" ", "", " ", ""},
		{"\t", "", " ", ""},
		{"\n", "", "\n", "\n"},
		{"a", "a", "a", "a"},
		{"a b", "a b", "a b", "a b"},
		{"a  b", "a b", "a  b", "a b"},
		{"a\tb", "a b", "a b", "a b"},
		{"a \t b", "a b", "a   b", "a b"},
		{"a\nb", "a b", "a\nb", "a\nb"},
		{"a\n\nb", "a b", "a\n\nb", "a\n\nb"},
		{" a \n b\t", "a b", " a \n b ", "a\nb"},
		{" a \n  b c ", "a b c", " a \n  b c ", "a\nb c"},
		{"\t\n\t\n\t", "", " \n \n ", "\n\n"},
		{"a \n \n b", "a b", "a \n \n b", "a\n\nb"},
		{"\n a", "a", "\n a", "\na"},
		{"a \n", "a", "a \n", "a\n"},
		{"-- -", "-- -", "-- -", "-- -"},
	}
	for _, c := range cases {
		for k, want := range []string{c.normal, c.normal, c.pre, c.pre, c.line} {
			if got, ok := impl.KeepText(whites[k], c.s); got != want || !ok {
				t.Errorf("KeepText(%d, %q) = %q, %v; want %q, true", whites[k], c.s, got, ok, want)
			}
		}
	}
}

// Promise 3: what is kept is kept again; and it is a text whose breaks can be told.
func TestWhatIsKeptIsKeptAgain(t *testing.T) {
	check := func(s string) {
		for _, white := range whites {
			kept := checkKept(t, white, s)
			if again := checkKept(t, white, kept); again != kept {
				t.Fatalf("KeepText(%d, %q) = %q, and again %q", white, s, kept, again)
			}
			if _, ok := impl.BreaksOf(white, kept); !ok {
				t.Fatalf("BreaksOf(%d, %q) tells none of what is kept", white, kept)
			}
		}
	}
	eachText("a \t\n", 7, check)
	for _, s := range longTexts() {
		check(s)
	}
}

func TestBreaksOf(t *testing.T) {
	cases := []struct {
		s      string
		wraps  []int
		forced []int
	}{
		{"", nil, nil},
		{"a", []int{1}, []int{1}},
		{" ", []int{1}, []int{1}},
		{"\n", []int{1}, []int{1}},
		{"-", []int{1}, []int{1}},
		{"ab", []int{2}, []int{2}},
		{"a b-c", []int{2, 4, 5}, []int{5}},
		{"a b", []int{2, 3}, []int{3}},
		{"a   b", []int{4, 5}, []int{5}},
		{"   b", []int{3, 4}, []int{4}},
		{"a   ", []int{4}, []int{4}},
		{"a\nb", []int{2, 3}, []int{2, 3}},
		{"a\n\n", []int{2, 3}, []int{2, 3}},
		{"a  \nb", []int{3, 4, 5}, []int{4, 5}},
		{"a\n  b", []int{2, 4, 5}, []int{2, 5}},
		{"a-b", []int{2, 3}, []int{3}},
		{"1-2", []int{2, 3}, []int{3}},
		{"Z-9", []int{2, 3}, []int{3}},
		{"a-b-c", []int{2, 4, 5}, []int{5}},
		{"-a", []int{2}, []int{2}},
		{"a-", []int{2}, []int{2}},
		{"a--b", []int{4}, []int{4}},
		{"a-.b", []int{4}, []int{4}},
		{".-b", []int{3}, []int{3}},
		{"a- b", []int{3, 4}, []int{4}},
		{"a -b", []int{2, 4}, []int{4}},
		{"a-\nb", []int{3, 4}, []int{3, 4}},
	}
	for _, c := range cases {
		for k, want := range [][]int{c.wraps, c.forced, c.forced, c.wraps, c.wraps} {
			if got, ok := impl.BreaksOf(whites[k], c.s); !slices.Equal(got, want) || !ok {
				t.Errorf("BreaksOf(%d, %q) = %v, %v; want %v, true", whites[k], c.s, got, ok, want)
			}
		}
	}
}

// A hyphen breaks between letters and digits, and beside no other byte.
func TestBreaksBehindHyphens(t *testing.T) {
	texts := allPlain() + "\n"
	for i := range len(texts) {
		for k := range len(texts) {
			checkBreaks(t, impl.WhiteNormal, string([]byte{texts[i], '-', texts[k]}))
		}
	}
}

func TestForcedIn(t *testing.T) {
	cases := []struct {
		s    string
		want []int
	}{
		{"", nil},
		{"a", nil},
		{"a b-c", nil},
		{"\n", []int{1}},
		{"a\n", []int{2}},
		{"a\nb", []int{2}},
		{"\n\na\n", []int{1, 2, 4}},
		{strings.Repeat("a", 199) + "\n", []int{200}},
	}
	for _, c := range cases {
		if got, ok := impl.ForcedIn(c.s); !slices.Equal(got, c.want) || !ok {
			t.Errorf("ForcedIn(%q) = %v, %v; want %v, true", c.s, got, ok, c.want)
		}
	}
}

// However long a run of blanks is, it has one break, behind it.
func TestARunOfBlanksHasOneBreak(t *testing.T) {
	for n := 1; n <= 198; n++ {
		s := "a" + strings.Repeat(" ", n) + "b"
		for _, white := range []int{impl.WhiteNormal, impl.WhitePreWrap, impl.WhitePreLine} {
			if got, ok := impl.BreaksOf(white, s); !slices.Equal(got, []int{n + 1, n + 2}) || !ok {
				t.Fatalf("BreaksOf(%d, %q) = %v, %v", white, s, got, ok)
			}
		}
	}
}

func TestWidest(t *testing.T) {
	cases := []struct {
		s                   string
		word, line, unbroke int // unbroke: the widest word where only a 10 breaks
	}{
		{"", 0, 0, 0},
		{" ", 0, 0, 0},
		{"\n", 0, 0, 0},
		{"  \n", 0, 0, 0},
		{"aa bbb c", 1152, 6*384 + 2*192, 6*384 + 2*192},
		{"aa bbb c   ", 1152, 6*384 + 2*192, 6*384 + 2*192},
		{"aa\nb  \n", 768, 768, 768},
		{"  a", 384, 2*192 + 384, 2*192 + 384},
		{"a\n  b", 384, 2*192 + 384, 2*192 + 384},
		{"a-bb", 2 * 384, 4 * 384, 4 * 384},
		{"ab-m", 3 * 384, 3*384 + 640, 3*384 + 640},
		{strings.Repeat("W", 200), 128000, 128000, 128000},
	}
	for _, c := range cases {
		for k, want := range []int{c.word, c.unbroke, c.unbroke, c.word, c.word} {
			if got, ok := impl.WidestWord(plainFont, whites[k], c.s); got != want || !ok {
				t.Errorf("WidestWord(%d, %q) = %d, %v; want %d, true", whites[k], c.s, got, ok, want)
			}
		}
		if got, ok := impl.WidestLine(plainFont, c.s); got != c.line || !ok {
			t.Errorf("WidestLine(%q) = %d, %v; want %d, true", c.s, got, ok, c.line)
		}
	}
	// A width is no length of chapter 1: it may be above MaxLength.
	if got, ok := impl.WidestLine(goodFonts[2], strings.Repeat("a", 200)); got != 1280000 || !ok {
		t.Errorf("WidestLine of the widest text = %d, %v; want 1280000, true", got, ok)
	}
}

func TestCutLine(t *testing.T) {
	const normal, nowrap, pre, wrap, line = impl.WhiteNormal, impl.WhiteNowrap, impl.WhitePre, impl.WhitePreWrap, impl.WhitePreLine
	cases := []struct {
		white int
		s     string
		room  int
		want  int
	}{
		{normal, "aa bb cc", 1800, 6},
		{normal, "aa bb cc", 1728, 6},
		{normal, "aa bb cc", 1727, 3},
		{normal, "aa bb cc", 768, 3},
		{normal, "aa bb cc", 767, 3},
		{normal, "aa bb cc", 0, 3},
		{normal, "aa bb cc", math.MinInt, 3},
		{normal, "aa bb cc", 2687, 6},
		{normal, "aa bb cc", 2688, 8},
		{normal, "aa bb cc", math.MaxInt, 8},
		{normal, "a-b", 768, 2},
		{normal, "a-b", 767, 2},
		{normal, "a-b", 1152, 3},
		{nowrap, "aa bb cc", 0, 8},
		{nowrap, "aa bb cc", 1800, 8},
		{pre, "aa bb\ncc", 0, 6},
		{pre, "aa bb\ncc", math.MaxInt, 6},
		{wrap, "aa bb\ncc", math.MaxInt, 6},
		{line, "aa bb\ncc", 768, 3},
		{line, "a\n\nb", math.MaxInt, 2},
		{line, "\n\nb", math.MaxInt, 1},
		{line, "\n\nb", -1, 1},
		{wrap, "  a", 0, 2},
		{wrap, "  a", 767, 2},
		{wrap, "  a", 768, 3},
		{wrap, "  a", -1, 2},
		{wrap, "a  ", 384, 3},
		{wrap, "a  \nb", 384, 4},
		{wrap, "a  \nb", 383, 3},
		{wrap, "   \nb", 0, 4},
		{wrap, "   \nb", -1, 3},
	}
	for _, c := range cases {
		if got, ok := impl.CutLine(plainFont, c.white, c.s, c.room); got != c.want || !ok {
			t.Errorf("CutLine(%d, %q, %d) = %d, %v; want %d, true", c.white, c.s, c.room, got, ok, c.want)
		}
	}
}

// roomsOf tells rooms just below, at and above the width of each stretch from the text's beginning, and far ones.
func roomsOf(f impl.Font, s string) []int {
	rooms := slices.Clone(farInts)
	for at := range len(s) + 1 {
		w := widthAsLine(f, s[:at])
		rooms = append(rooms, w-1, w, w+1)
	}
	slices.Sort(rooms)
	return slices.Compact(rooms)
}

// Promise 3: a line ends at a break, and fits where one does.
func TestALineEndsAtABreakAndFits(t *testing.T) {
	check := func(s string) {
		for _, white := range whites {
			breaks, _ := impl.BreaksOf(white, s)
			for _, room := range roomsOf(textFont, s) {
				end := checkCut(t, textFont, white, s, room)
				if !slices.Contains(breaks, end) {
					t.Fatalf("CutLine(%d, %q, %d) = %d, no break of %v", white, s, room, end, breaks)
				}
				if widthAsLine(textFont, s[:end]) > room && widthAsLine(textFont, s[:breaks[0]]) <= room {
					t.Fatalf("CutLine(%d, %q, %d) = %d does not fit, and %d would", white, s, room, end, breaks[0])
				}
			}
		}
	}
	eachText("a -\n", 5, func(s string) {
		if s != "" {
			check(s)
		}
	})
	check("twenty-one men, mostly  tall\n will w-w go-go to '9-to-5'\n\nand back -- ")
}

// Promise 3: lines cut one behind the other come to the text's end, and none is empty.
func TestLinesCutOneBehindTheOther(t *testing.T) {
	for _, s := range longTexts() {
		for _, white := range whites {
			rest := checkKept(t, white, s)
			for rest != "" {
				end := checkCut(t, textFont, white, rest, 1200)
				if end < 1 || end > len(rest) {
					t.Fatalf("CutLine(%d, %q) = %d", white, rest, end)
				}
				rest = rest[end:]
			}
		}
	}
}

func TestBreaksAndWidthsOfEveryShortText(t *testing.T) {
	eachText("a -\n", 6, func(s string) {
		for _, white := range whites {
			checkBreaks(t, white, s)
			checkWidest(t, textFont, white, s)
		}
	})
}

// Texts at the limit, in all fonts; a text need not be what its white keeps.
func TestBreaksAndWidthsOfLongTexts(t *testing.T) {
	for _, s := range longTexts() {
		s = strings.ReplaceAll(s, "\t", " ")
		for _, white := range whites {
			checkBreaks(t, white, s)
			for _, f := range goodFonts {
				checkWidest(t, f, white, s)
				for _, room := range farInts {
					if s != "" {
						checkCut(t, f, white, s, room)
					}
				}
			}
		}
	}
}

// checkTextRefuses asks all functions that measure or break a text for the zero answer.
func checkTextRefuses(t *testing.T, f impl.Font, white int, s string) {
	t.Helper()
	if n, ok := impl.WidestWord(f, white, s); n != 0 || ok {
		t.Errorf("WidestWord(%+v, %d, %.40q) = %d, %v; want 0, false", f, white, s, n, ok)
	}
	for _, room := range []int{math.MinInt, -1, 0, 1, 1000, math.MaxInt} {
		if n, ok := impl.CutLine(f, white, s, room); n != 0 || ok {
			t.Errorf("CutLine(%+v, %d, %.40q, %d) = %d, %v; want 0, false", f, white, s, room, n, ok)
		}
	}
}

func checkUnbroken(t *testing.T, white int, s string) {
	t.Helper()
	if l, ok := impl.BreaksOf(white, s); len(l) != 0 || ok {
		t.Errorf("BreaksOf(%d, %.40q) = %v, %v; want none, false", white, s, l, ok)
	}
}

// Promise 11: wrong texts have the zero answer.
func TestTextsAnswerAtWrongTexts(t *testing.T) {
	for _, s := range append(wrongTexts(), "\t", "a\tb", "a b\t", strings.Repeat("a", 199)+"\t") {
		for _, white := range whites {
			checkUnbroken(t, white, s)
			checkTextRefuses(t, plainFont, white, s)
		}
		if l, ok := impl.ForcedIn(s); len(l) != 0 || ok {
			t.Errorf("ForcedIn(%.40q) = %v, %v; want none, false", s, l, ok)
		}
		if n, ok := impl.WidestLine(plainFont, s); n != 0 || ok {
			t.Errorf("WidestLine(%.40q) = %d, %v; want 0, false", s, n, ok)
		}
	}
	for _, s := range wrongTexts() {
		for _, white := range whites {
			if got, ok := impl.KeepText(white, s); got != "" || ok {
				t.Errorf("KeepText(%d, %.40q) = %q, %v; want none, false", white, s, got, ok)
			}
		}
	}
	for _, white := range whites {
		if n, ok := impl.CutLine(plainFont, white, "", 1000); n != 0 || ok {
			t.Errorf("CutLine(%d) of the empty text = %d, %v; want 0, false", white, n, ok)
		}
	}
}

// Promise 11: wrong whites and wrong fonts have the zero answer, of the empty text too.
func TestTextsAnswerAtWrongWhitesAndFonts(t *testing.T) {
	texts := append(longTexts(), wrongTexts()...)
	for _, white := range badWhites {
		for _, s := range texts {
			if got, ok := impl.KeepText(white, s); got != "" || ok {
				t.Errorf("KeepText(%d, %.40q) = %q, %v; want none, false", white, s, got, ok)
			}
			checkUnbroken(t, white, s)
			checkTextRefuses(t, plainFont, white, s)
		}
	}
	for _, f := range badFonts() {
		for _, s := range texts {
			if n, ok := impl.WidestLine(f, s); n != 0 || ok {
				t.Errorf("WidestLine(%+v, %.40q) = %d, %v; want 0, false", f, s, n, ok)
			}
			for _, white := range whites {
				checkTextRefuses(t, f, white, s)
			}
		}
	}
}

// Promise 11: what is kept is new memory, even where nothing was to be changed.
func TestWhatIsKeptIsNewMemory(t *testing.T) {
	s := strings.Repeat("a b", 60)
	for _, white := range whites {
		kept, ok := impl.KeepText(white, s)
		if !ok || kept != s {
			t.Fatalf("KeepText(%d, %q) = %q, %v", white, s, kept, ok)
		}
		if unsafe.StringData(kept) == unsafe.StringData(s) {
			t.Errorf("KeepText(%d) hands out its argument's memory", white)
		}
	}
}

// Promise 11: each list that is answered is new memory, and nothing is kept from call to call.
func TestListsOfPlacesAreNewMemory(t *testing.T) {
	s := "a b\nc d-e\n"
	for _, white := range whites {
		for _, tell := range []func() []int{
			func() []int { l, _ := impl.BreaksOf(white, s); return l },
			func() []int { l, _ := impl.ForcedIn(s); return l },
		} {
			first := tell()
			want := slices.Clone(first)
			second := tell()
			for i := range first[:cap(first)] {
				first[:cap(first)][i] = -7
			}
			if third := tell(); !slices.Equal(second, want) || !slices.Equal(third, want) {
				t.Errorf("white %d: %v, then %v; want %v", white, second, third, want)
			}
		}
	}
}

// Promise 11: a part of a longer text is read as if it stood alone.
func TestTextsAreReadAlone(t *testing.T) {
	whole := strings.Repeat("ab-c d\n", 28) + "\x00\x01" + strings.Repeat("-", 300)
	for n := 1; n <= 196; n++ {
		for _, white := range whites {
			checkKept(t, white, whole[:n])
			checkBreaks(t, white, whole[:n])
			checkWidest(t, plainFont, white, whole[:n])
			checkCut(t, plainFont, white, whole[:n], 1000)
		}
	}
}
