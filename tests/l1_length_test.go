package tests

import (
	"math"
	"math/big"
	"regexp"
	"slices"
	"strconv"
	"strings"
	"testing"

	"loop.example/g00164/impl"
)

// farInts: what an int may be, with the edges that chapter 1 names.
var farInts = []int{
	math.MinInt, math.MinInt + 1, math.MinInt32, -1000001, -1000000, -999999, -100001, -100000, -64, -3, -1,
	0, 1, 2, 3, 16, 64, 10000, 99999, 100000, 100001, 999999, 1000000, 1000001, math.MaxInt32, math.MaxInt - 1, math.MaxInt,
}

var pixelsForm = regexp.MustCompile(`^(-?)([0-9]{1,5})(?:\.([0-9]{1,2}))?px$`)

var shortForm = regexp.MustCompile(`^(0|-?0\.(25|5|75)|-?[1-9][0-9]*(\.(25|5|75))?)px$`)

// floorOf tells a * b / by, towards the lesser, for any ints and a by above 0.
func floorOf(a int, b int, by int) *big.Int {
	n := new(big.Int).Mul(big.NewInt(int64(a)), big.NewInt(int64(b)))
	return n.Div(n, big.NewInt(int64(by))) // Div is Euclid's: with by above 0 it is the floor
}

// pixelsAsSaid reads a text by its form's expression, apart from the program.
func pixelsAsSaid(s string) (int, bool) {
	m := pixelsForm.FindStringSubmatch(s)
	if m == nil {
		return 0, false
	}
	whole, _ := strconv.Atoi(m[2])
	part, _ := strconv.Atoi((m[3] + "00")[:2])
	n := whole*64 + part*64/100
	if m[1] == "-" {
		n = -n
	}
	if n < -1000000 || n > 1000000 {
		return 0, false
	}
	return n, true
}

func checkPixels(t *testing.T, s string) {
	t.Helper()
	want, wantOk := pixelsAsSaid(s)
	if got, ok := impl.ReadPixels(s); got != want || ok != wantOk {
		t.Errorf("ReadPixels(%q) = %d, %v; want %d, %v", s, got, ok, want, wantOk)
	}
}

func TestLengthConstants(t *testing.T) {
	if impl.Px != 64 || impl.MaxLength != 1000000 {
		t.Error(impl.Px, impl.MaxLength)
	}
}

func TestGoodLength(t *testing.T) {
	for _, n := range farInts {
		if got, want := impl.GoodLength(n), n >= -1000000 && n <= 1000000; got != want {
			t.Errorf("GoodLength(%d) = %v", n, got)
		}
	}
}

func TestPercentOf(t *testing.T) {
	cases := []struct {
		base, percent, want int
		ok                  bool
	}{
		{640, 5000, 320, true},
		{640, -5000, -320, true},
		{5, 5000, 2, true},
		{-5, 5000, -3, true},
		{5, -5000, -3, true},
		{-5, -5000, 2, true},
		{1, 1, 0, true},
		{1, -1, -1, true},
		{-1, 1, -1, true},
		{0, 100000, 0, true},
		{1000000, 10000, 1000000, true},
		{-1000000, 10000, -1000000, true},
		{100000, 100000, 1000000, true},
		{100000, -100000, -1000000, true},
		{1000000, 10001, 0, false},
		{-1000000, 10001, 0, false},
		{100001, 100000, 0, false},
		{1000001, 0, 0, false},
		{-1000001, 0, 0, false},
		{0, 100001, 0, false},
		{0, -100001, 0, false},
	}
	for _, c := range cases {
		if got, ok := impl.PercentOf(c.base, c.percent); got != c.want || ok != c.ok {
			t.Errorf("PercentOf(%d, %d) = %d, %v; want %d, %v", c.base, c.percent, got, ok, c.want, c.ok)
		}
	}
}

func TestPercentOfIsTheFloor(t *testing.T) {
	for base := -1000000; base <= 1000000; base += 9973 {
		for percent := -100000; percent <= 100000; percent += 1999 {
			want := int(floorOf(base, percent, 10000).Int64())
			wantOk := want >= -1000000 && want <= 1000000
			if !wantOk {
				want = 0
			}
			if got, ok := impl.PercentOf(base, percent); got != want || ok != wantOk {
				t.Fatalf("PercentOf(%d, %d) = %d, %v; want %d, %v", base, percent, got, ok, want, wantOk)
			}
		}
	}
}

func TestClampLength(t *testing.T) {
	cases := []struct{ n, least, most, want int }{
		{50, 0, 100, 50},
		{50, 0, 40, 40},
		{50, 60, 100, 60},
		{50, 60, 40, 60},
		{50, 50, 50, 50},
		{50, 0, -1, 50},
		{50, 0, 0, 0},
		{50, -10, 0, 0},
		{-50, -100, 0, -50},
		{-50, -10, -60, -10},
		{50, 60, -70, 60},
		{math.MaxInt, math.MinInt, -1, math.MaxInt},
		{math.MaxInt, math.MinInt, 7, 7},
		{math.MinInt, math.MinInt, math.MinInt, math.MinInt},
		{math.MinInt, math.MaxInt, 0, math.MaxInt},
	}
	for _, c := range cases {
		if got := impl.ClampLength(c.n, c.least, c.most); got != c.want {
			t.Errorf("ClampLength(%d, %d, %d) = %d; want %d", c.n, c.least, c.most, got, c.want)
		}
	}
}

func TestReadPixels(t *testing.T) {
	cases := []struct {
		s    string
		want int
	}{
		{"0px", 0},
		{"-0px", 0},
		{"3px", 192},
		{"00003px", 192},
		{"1.5px", 96},
		{"1.50px", 96},
		{"1.05px", 67},
		{"-1.5px", -96},
		{"0.01px", 0},
		{"-0.01px", 0},
		{"0.02px", 1},
		{"-0.33px", -21},
		{"0.99px", 63},
		{"-0.99px", -63},
		{"15625px", 1000000},
		{"-15625px", -1000000},
		{"15625.01px", 1000000},
		{"-15625.01px", -1000000},
	}
	for _, c := range cases {
		if got, ok := impl.ReadPixels(c.s); got != c.want || !ok {
			t.Errorf("ReadPixels(%q) = %d, %v; want %d, true", c.s, got, ok, c.want)
		}
	}
}

func TestReadPixelsRefuses(t *testing.T) {
	for _, s := range []string{
		"", "-", ".", "px", "-px", ".px", "3", "3p", "3x", "3 px", " 3px", "3px ", "3px\n", "3pxpx", "3PX", "+3px", "--3px", "-+3px", "- 3px",
		".5px", "-.5px", "3.px", "3.123px", "3.-1px", "3.+1px", "3..1px", "3.1.1px", "3,1px", "123456px", "000000px", "15625.02px", "-15625.02px",
		"15626px", "99999.99px", "1e2px", "0x1px", "1_0px", "３px", "\x003px", "3\x00px", "3px\x00", "\xffpx",
		strings.Repeat("9", 100000) + "px", "0." + strings.Repeat("0", 100000) + "px", strings.Repeat("px", 100000),
	} {
		if got, ok := impl.ReadPixels(s); got != 0 || ok {
			t.Errorf("ReadPixels(%.40q) = %d, %v; want 0, false", s, got, ok)
		}
	}
}

func TestReadPixelsReadsEveryPart(t *testing.T) {
	for _, whole := range []string{"0", "00", "7", "07", "15624", "15625", "15626", "99999"} {
		for _, sign := range []string{"", "-"} {
			checkPixels(t, sign+whole+"px")
			for part := range 100 {
				checkPixels(t, sign+whole+"."+strconv.Itoa(part)+"px")
				checkPixels(t, sign+whole+".0"+strconv.Itoa(part)+"px")
			}
		}
	}
}

// eachText calls do with every text of up to so many of the letters.
func eachText(letters string, most int, do func(string)) {
	texts := []string{""}
	for range most + 1 {
		var longer []string
		for _, s := range texts {
			do(s)
			for _, c := range []byte(letters) {
				longer = append(longer, s+string(rune(c)))
			}
		}
		texts = longer
	}
}

func TestReadPixelsOfEveryShortText(t *testing.T) {
	eachText("-.09px ", 5, func(s string) { checkPixels(t, s) })
	eachText("-.09", 7, func(s string) { checkPixels(t, s+"px") })
}

func TestPixelsText(t *testing.T) {
	cases := []struct {
		n    int
		want string
	}{
		{0, "0px"},
		{16, "0.25px"},
		{32, "0.5px"},
		{48, "0.75px"},
		{64, "1px"},
		{96, "1.5px"},
		{192, "3px"},
		{640, "10px"},
		{-16, "-0.25px"},
		{-64, "-1px"},
		{-80, "-1.25px"},
		{1000000, "15625px"},
		{-1000000, "-15625px"},
		{999984, "15624.75px"},
	}
	for _, c := range cases {
		if got, ok := impl.PixelsText(c.n); got != c.want || !ok {
			t.Errorf("PixelsText(%d) = %q, %v; want %q, true", c.n, got, ok, c.want)
		}
	}
	for _, n := range []int{1, -1, 8, 15, 17, -15, -17, 999999, -999999, 1000001, 1000016, -1000016, math.MinInt, math.MaxInt} {
		if got, ok := impl.PixelsText(n); got != "" || ok {
			t.Errorf("PixelsText(%d) = %q, %v; want none", n, got, ok)
		}
	}
}

// Promise 1: lengths come back from their texts.
func TestLengthsComeBack(t *testing.T) {
	for n := -1000100; n <= 1000100; n++ {
		s, ok := impl.PixelsText(n)
		if want := n%16 == 0 && n >= -1000000 && n <= 1000000; ok != want {
			t.Fatalf("PixelsText(%d) = %q, %v", n, s, ok)
		}
		if !ok {
			if s != "" {
				t.Fatalf("PixelsText(%d) = %q beside false", n, s)
			}
			continue
		}
		if !shortForm.MatchString(s) {
			t.Fatalf("PixelsText(%d) = %q has needless noughts", n, s)
		}
		if back, ok := impl.ReadPixels(s); back != n || !ok {
			t.Fatalf("ReadPixels(PixelsText(%d)) = %d, %v by %q", n, back, ok, s)
		}
	}
}

func TestJoinMargins(t *testing.T) {
	cases := []struct {
		l    []int
		want int
	}{
		{nil, 0},
		{[]int{}, 0},
		{[]int{0}, 0},
		{[]int{64}, 64},
		{[]int{-64}, -64},
		{[]int{64, 128}, 128},
		{[]int{-64, -128}, -128},
		{[]int{64, -32, 128, -16}, 96},
		{[]int{1000000, -1000000}, 0},
		{[]int{1000000, 1000000}, 1000000},
		{[]int{-1000000, -1000000}, -1000000},
		{slices.Repeat([]int{5, -7}, 20), -2},
	}
	for _, c := range cases {
		if got, ok := impl.JoinMargins(c.l); got != c.want || !ok {
			t.Errorf("JoinMargins(%v) = %d, %v; want %d, true", c.l, got, ok, c.want)
		}
	}
}

func TestJoinMarginsRefuses(t *testing.T) {
	for _, l := range [][]int{
		{1000001}, {-1000001}, {math.MinInt}, {math.MaxInt}, {math.MaxInt, math.MinInt}, {64, 1000001}, {-1000001, 64},
		append(make([]int, 39), 1000001), make([]int, 41), slices.Repeat([]int{5}, 41), make([]int, 100000),
	} {
		if got, ok := impl.JoinMargins(l); got != 0 || ok {
			t.Errorf("JoinMargins of %d = %d, %v; want 0, false", len(l), got, ok)
		}
	}
}

// eachOrder calls do with l in every order, which it goes through in place.
func eachOrder(l []int, from int, do func()) {
	if from == len(l) {
		do()
		return
	}
	for i := from; i < len(l); i++ {
		l[from], l[i] = l[i], l[from]
		eachOrder(l, from+1, do)
		l[from], l[i] = l[i], l[from]
	}
}

// Promise 1: joined margins do not hang on their order.
func TestJoinedMarginsInAnyOrder(t *testing.T) {
	cases := []struct {
		l    []int
		want int
		ok   bool
	}{
		{[]int{64, -32, 128, -16, 0, 7}, 96, true},
		{[]int{1, 2, 3, 4, 5, 6}, 6, true},
		{[]int{-1, -2, -3, -4, -5, -6}, -6, true},
		{[]int{1000000, -1000000, 3, -3, 0, 0}, 0, true},
		{[]int{1000001, -1000000, 3, -3, 0}, 0, false},
		{[]int{9, math.MinInt, 3, -3, 0}, 0, false},
	}
	for _, c := range cases {
		eachOrder(c.l, 0, func() {
			if got, ok := impl.JoinMargins(c.l); got != c.want || ok != c.ok {
				t.Errorf("JoinMargins(%v) = %d, %v; want %d, %v", c.l, got, ok, c.want, c.ok)
			}
		})
	}
}

func TestHalfOf(t *testing.T) {
	for _, n := range append([]int{-4, -3, -2, -1, 0, 1, 2, 3, 4, 5}, farInts...) {
		if got, want := impl.HalfOf(n), floorOf(n, 1, 2); big.NewInt(int64(got)).Cmp(want) != 0 {
			t.Errorf("HalfOf(%d) = %d; want %s", n, got, want)
		}
	}
	if impl.HalfOf(-1) != -1 || impl.HalfOf(-3) != -2 || impl.HalfOf(3) != 1 {
		t.Error(impl.HalfOf(-1), impl.HalfOf(-3), impl.HalfOf(3))
	}
}

// Promise 11: every function answers at any arguments; beside false stands the zero answer.
func TestLengthsAnswerAtAnyArguments(t *testing.T) {
	for _, a := range farInts {
		impl.GoodLength(a)
		impl.HalfOf(a)
		if s, ok := impl.PixelsText(a); !ok && s != "" {
			t.Errorf("PixelsText(%d) = %q beside false", a, s)
		}
		for _, b := range farInts {
			if n, ok := impl.PercentOf(a, b); !ok && n != 0 {
				t.Errorf("PercentOf(%d, %d) = %d beside false", a, b, n)
			}
			if n, ok := impl.JoinMargins([]int{a, b}); !ok && n != 0 {
				t.Errorf("JoinMargins(%d, %d) = %d beside false", a, b, n)
			}
			for _, c := range farInts {
				checkClamp(t, a, b, c)
			}
		}
	}
	for c := range 256 {
		one := string([]byte{byte(c)})
		for _, s := range []string{one, one + "px", one + "3px", "3" + one + "px", "3." + one + "px", "3p" + one, "3px" + one} {
			checkPixels(t, s)
		}
	}
}

func checkClamp(t *testing.T, n int, least int, most int) {
	t.Helper()
	want := n
	if most >= 0 && want > most {
		want = most
	}
	if want < least {
		want = least
	}
	if got := impl.ClampLength(n, least, most); got != want {
		t.Errorf("ClampLength(%d, %d, %d) = %d; want %d", n, least, most, got, want)
	}
}

// Promise 11: nothing is written into an argument, nor read or written behind its length.
func TestJoinMarginsLeavesItsListAlone(t *testing.T) {
	memory := []int{64, -32, 128, -16, 999999, -999999, math.MaxInt}
	before := slices.Clone(memory)
	for most := range len(memory) + 1 {
		got, ok := impl.JoinMargins(memory[:most])
		if want, wantOk := impl.JoinMargins(slices.Clip(slices.Clone(before[:most]))); got != want || ok != wantOk {
			t.Errorf("JoinMargins of the first %d = %d, %v; want %d, %v", most, got, ok, want, wantOk)
		}
		if !slices.Equal(memory, before) {
			t.Fatalf("JoinMargins of the first %d left %v", most, memory)
		}
	}
}
