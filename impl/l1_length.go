package impl

import (
	"strconv"
	"strings"
)

const Px = 64
const MaxLength = 1000000

const maxPercent = 100000
const wholePercent = 10000
const maxMargins = 40
const quarterPx = Px / 4

var quarterTexts = [4]string{"", ".25", ".5", ".75"}

// length counts 64ths of a pixel. It may hold any number on the way to an
// answer, so told stands between it and the caller.
type length int

func (n length) good() bool {
	return -MaxLength <= n && n <= MaxLength
}

func (n length) told() (int, bool) {
	if !n.good() {
		return 0, false
	}
	return int(n), true
}

// margins keeps only the two margins that count, so that neither the order nor
// the number of those taken can be seen in what is joined.
type margins struct {
	above length
	below length
}

func (m *margins) take(n int) bool {
	m.above = max(m.above, length(n))
	m.below = min(m.below, length(n))
	return length(n).good()
}

func (m *margins) joined() (int, bool) {
	return (m.above + m.below).told()
}

func GoodLength(n int) bool {
	return length(n).good()
}

func PercentOf(base int, percent int) (int, bool) {
	if !GoodLength(base) || percent < -maxPercent || percent > maxPercent {
		return 0, false
	}
	return length(percentOf(base, percent)).told()
}

func ClampLength(n int, least int, most int) int {
	if most >= 0 {
		n = min(n, most)
	}
	return max(n, least)
}

func ReadPixels(s string) (int, bool) {
	number, named := strings.CutSuffix(s, "px")
	number, below := strings.CutPrefix(number, "-")
	whole, part, pointed := strings.Cut(number, ".")
	if !named || !isDigits(whole, 5) || pointed && !isDigits(part, 2) {
		return 0, false
	}
	// Rounding comes ahead of the sign: a text and its opposite are as long.
	n := length(digitsValue(whole)*Px + hundredthsOf(part)*Px/100)
	if below {
		n = -n
	}
	return n.told()
}

func PixelsText(n int) (string, bool) {
	if !GoodLength(n) || n%quarterPx != 0 {
		return "", false
	}
	sign := ""
	if n < 0 {
		sign = "-"
		n = -n
	}
	return sign + strconv.Itoa(n/Px) + quarterTexts[n%Px/quarterPx] + "px", true
}

func JoinMargins(l []int) (int, bool) {
	var m margins
	if len(l) > maxMargins || !all(l, m.take) {
		return 0, false
	}
	return m.joined()
}

func HalfOf(n int) int {
	return quotientDown(n, 2)
}

// percentOf takes numbers beyond lengths too, as what is laid out may have them
// on the way.
func percentOf(base int, percent int) int {
	return quotientDown(base*percent, wholePercent)
}

// quotientDown wants by above 0. Go's own quotient goes towards 0, which below
// 0 is one too great wherever a rest is left.
func quotientDown(n int, by int) int {
	q := n / by
	if n%by < 0 {
		q--
	}
	return q
}

func all(l []int, holds func(int) bool) bool {
	for _, n := range l {
		if !holds(n) {
			return false
		}
	}
	return true
}

func isDigits(s string, most int) bool {
	if len(s) < 1 || len(s) > most {
		return false
	}
	for i := range len(s) {
		if s[i] < '0' || s[i] > '9' {
			return false
		}
	}
	return true
}

// digitsValue wants digits only, few enough for an int.
func digitsValue(s string) int {
	n := 0
	for i := range len(s) {
		n = n*10 + int(s[i]-'0')
	}
	return n
}

// hundredthsOf wants at most two digits; a digit alone counts tenths.
func hundredthsOf(part string) int {
	n := digitsValue(part)
	if len(part) == 1 {
		n *= 10
	}
	return n
}
