package impl

import (
	"strconv"
	"strings"
)

// A word has 32 bits, so that the language's own wrap-round is the machine's.
type word int32

// The least word is further from 0 than the greatest one, so its size bounds what is read.
const greatestSize = 2147483648

func (w word) number() int { return int(w) }

func (w word) is(n int) bool { return w.number() == n }

func WordOk(n int) bool { return word(n).is(n) }

func Round(n int) int { return word(n).number() }

func Digits(n int) string { return strconv.Itoa(n) }

func Number(s string) (int, bool) {
	digits, below := strings.CutPrefix(s, "-")
	n, ok := sizeOf(digits)
	if below {
		n = -n
	}
	// Digits tells what sizeOf lets through: nothing at all, needless noughts, and a nought below 0.
	if !ok || !WordOk(n) || Digits(n) != s {
		return 0, false
	}
	return n, true
}

// sizeOf stops at the first digit that makes it too great, so that no text is long enough to make it go round.
func sizeOf(digits string) (int, bool) {
	n := 0
	for _, r := range digits {
		if r < '0' || r > '9' {
			return 0, false
		}
		n = n*10 + int(r-'0')
		if n > greatestSize {
			return 0, false
		}
	}
	return n, true
}
