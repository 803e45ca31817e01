package tests

import (
	"math"
	"math/big"
	"strconv"
	"strings"
	"testing"

	"loop.example/g00286/impl"
)

const (
	least    = -2147483648
	greatest = 2147483647
	turn     = 4294967296
)

// edges are the numbers about each border that the document names, and about the turns beyond them.
func edges() []int {
	var out []int
	for _, n := range []int{0, 70, least, greatest, turn, -turn, 3 * turn, -3 * turn, math.MinInt32 * turn / 2, math.MaxInt32 * turn} {
		for d := -3; d <= 3; d++ {
			out = append(out, n+d)
		}
	}
	for d := range 4 {
		out = append(out, math.MinInt+d, math.MaxInt-d)
	}
	for shift := range 63 {
		out = append(out, 1<<shift, 1<<shift-1, -(1 << shift), -(1<<shift)-1)
	}
	return out
}

// manyNumbers are scattered over all of int, the same at each run.
func manyNumbers(count int) []int {
	out := make([]int, count)
	x := uint64(1)
	for i := range out {
		x = x*6364136223846793005 + 1442695040888963407
		out[i] = int(x) >> (x >> 58)
	}
	return out
}

func roundByBig(n *big.Int) int {
	half := big.NewInt(turn / 2)
	left := new(big.Int).Mod(new(big.Int).Add(n, half), big.NewInt(turn))
	return int(left.Sub(left, half).Int64())
}

func TestWordOkAtItsBorders(t *testing.T) {
	for n, want := range map[int]bool{
		0: true, 1: true, -1: true, 70: true,
		least: true, least + 1: true, least - 1: false,
		greatest: true, greatest - 1: true, greatest + 1: false,
		turn: false, -turn: false, turn + 1: false,
		math.MinInt: false, math.MaxInt: false,
	} {
		if impl.WordOk(n) != want {
			t.Errorf("WordOk(%d) is not %v", n, want)
		}
	}
	for _, n := range append(edges(), manyNumbers(2000)...) {
		if got, want := impl.WordOk(n), n >= least && n <= greatest; got != want {
			t.Errorf("WordOk(%d) = %v", n, got)
		}
	}
}

func TestRoundAtItsBorders(t *testing.T) {
	for n, want := range map[int]int{
		0: 0, 1: 1, -1: -1, 70: 70,
		least: least, greatest: greatest,
		greatest + 1: least, least - 1: greatest,
		turn: 0, -turn: 0, turn + 5: 5, -turn - 5: -5, turn - 1: -1, 1 - turn: 1,
		math.MinInt: 0, math.MaxInt: -1, math.MinInt + 1: 1, math.MaxInt - 1: -2,
	} {
		if got := impl.Round(n); got != want {
			t.Errorf("Round(%d) = %d, not %d", n, got, want)
		}
	}
}

func TestRoundIsWhatIsLeft(t *testing.T) {
	for _, n := range append(edges(), manyNumbers(5000)...) {
		got := impl.Round(n)
		if want := roundByBig(big.NewInt(int64(n))); got != want {
			t.Errorf("Round(%d) = %d, not %d", n, got, want)
		}
		if !impl.WordOk(got) {
			t.Errorf("Round(%d) = %d is no word", n, got)
		}
		if impl.WordOk(n) != (got == n) {
			t.Errorf("Round(%d) = %d: a word is what it was, and nothing else is", n, got)
		}
		if impl.Round(got) != got {
			t.Errorf("Round(%d) = %d turns again", n, got)
		}
	}
}

func TestWhatIsReckonedGoesRound(t *testing.T) {
	words := []int{0, 1, -1, 2, -2, 46341, -46341, 65536, -65536, least, least + 1, greatest, greatest - 1}
	for _, a := range words {
		for _, b := range words {
			x, y := big.NewInt(int64(a)), big.NewInt(int64(b))
			if got, want := impl.Round(a+b), roundByBig(new(big.Int).Add(x, y)); got != want {
				t.Errorf("%d + %d = %d, not %d", a, b, got, want)
			}
			if got, want := impl.Round(a-b), roundByBig(new(big.Int).Sub(x, y)); got != want {
				t.Errorf("%d - %d = %d, not %d", a, b, got, want)
			}
			if got, want := impl.Round(a*b), roundByBig(new(big.Int).Mul(x, y)); got != want {
				t.Errorf("%d * %d = %d, not %d", a, b, got, want)
			}
		}
	}
}

func TestDigits(t *testing.T) {
	for n, want := range map[int]string{
		0: "0", 7: "7", -7: "-7", 70: "70", -70: "-70", 1000: "1000", -305: "-305",
		least: "-2147483648", greatest: "2147483647",
		least - 1: "-2147483649", greatest + 1: "2147483648",
		math.MinInt: "-9223372036854775808", math.MaxInt: "9223372036854775807",
	} {
		if got := impl.Digits(n); got != want {
			t.Errorf("Digits(%d) = %q, not %q", n, got, want)
		}
	}
	for _, n := range append(edges(), manyNumbers(2000)...) {
		if got, want := impl.Digits(n), big.NewInt(int64(n)).String(); got != want {
			t.Errorf("Digits(%d) = %q, not %q", n, got, want)
		}
	}
}

func TestNumberOfWords(t *testing.T) {
	for s, want := range map[string]int{
		"0": 0, "1": 1, "-1": -1, "9": 9, "10": 10, "-10": -10, "70": 70, "-70": -70, "100200": 100200,
		"2147483647": greatest, "2147483646": greatest - 1,
		"-2147483648": least, "-2147483647": least + 1,
	} {
		if got, ok := impl.Number(s); got != want || !ok {
			t.Errorf("Number(%q) = %d, %v", s, got, ok)
		}
	}
}

func TestNumberOfWhatIsNone(t *testing.T) {
	bad := []string{
		"", "-", "+", "--", "-+", "--1", "+-1", "-+1", "+1", "+0", "1-", "1-1", "-1-",
		"00", "01", "007", "-0", "-00", "-01", "0-", "00000000000000000000", "0000000000000000000001",
		" ", " 1", "1 ", "1 2", "- 1", "-1 ", "\t1", "1\n", "1\r", "1\x00", "\x001",
		"1x", "x1", "x", "0x1", "0b1", "0o7", "1_000", "1,000", "1.0", "1.", ".1", "1e3", "/", ":", "1/", "1:",
		"\xff", "1\xff", "\xff1", "-\xff", "\xd9", "\ufffd", "\u0663", "1\u0663", "\uff11", "\u22121", "\ufeff1",
		"2147483648", "-2147483649", "2147483650", "-2147483650", "3000000000", "-3000000000",
		"4294967295", "4294967296", "4294967297", "-4294967296", "-4294967297", "10000000000",
		"9223372036854775807", "-9223372036854775808", "9223372036854775808",
		"18446744073709551615", "18446744073709551616", "18446744073709551617", "-18446744073709551617",
		"nothing", "true", "NaN", "Inf",
	}
	for _, part := range []string{"0", "1", "9", "-", " ", "x", "\xff"} {
		bad = append(bad, strings.Repeat(part, 100000))
	}
	bad = append(bad, "1"+strings.Repeat("0", 100000), "-1"+strings.Repeat("0", 100000), strings.Repeat("0", 100000)+"1")
	for _, s := range bad {
		if got, ok := impl.Number(s); got != 0 || ok {
			t.Errorf("Number(%.40q) = %d, %v", s, got, ok)
		}
	}
}

// Texts beyond an int whose digits, gone round, would be words again.
func TestNumberDoesNotGoRound(t *testing.T) {
	for _, bits := range []uint{32, 33, 63, 64, 65, 128, 256} {
		for d := int64(-3); d <= 3; d++ {
			n := new(big.Int).Add(new(big.Int).Lsh(big.NewInt(1), bits), big.NewInt(d))
			for _, s := range []string{n.String(), "-" + n.String()} {
				if got, ok := impl.Number(s); got != 0 || ok {
					t.Errorf("Number(%q) = %d, %v", s, got, ok)
				}
			}
		}
	}
}

func TestEachWordIsReadFromItsDigits(t *testing.T) {
	for _, n := range append(edges(), manyNumbers(5000)...) {
		got, ok := impl.Number(impl.Digits(n))
		if impl.WordOk(n) && (got != n || !ok) || !impl.WordOk(n) && (got != 0 || ok) {
			t.Errorf("Number(Digits(%d)) = %d, %v", n, got, ok)
		}
		word := impl.Round(n)
		if got, ok := impl.Number(impl.Digits(word)); got != word || !ok {
			t.Errorf("Number(Digits(%d)) = %d, %v", word, got, ok)
		}
	}
	for n := -20000; n <= 20000; n++ {
		if got, ok := impl.Number(impl.Digits(n)); got != n || !ok {
			t.Errorf("Number(Digits(%d)) = %d, %v", n, got, ok)
		}
	}
}

// All short texts of these parts: those that are read are just those that are some word's digits.
func TestNumberOfAllShortTexts(t *testing.T) {
	parts := []string{"-", "+", "0", "1", "9", " ", "a", "_", "\x00", "\xff", "\u0663"}
	texts := []string{""}
	for range 4 {
		for _, s := range texts {
			want, err := strconv.Atoi(s)
			right := err == nil && strconv.Itoa(want) == s
			if !right {
				want = 0
			}
			if got, ok := impl.Number(s); got != want || ok != right {
				t.Errorf("Number(%q) = %d, %v", s, got, ok)
			}
		}
		var longer []string
		for _, s := range texts {
			for _, p := range parts {
				longer = append(longer, s+p)
			}
		}
		texts = longer
	}
}

func TestWordsAnswerTheSameAgain(t *testing.T) {
	for _, n := range edges() {
		s := impl.Digits(n)
		first, was := impl.Number(s)
		impl.Number("-")
		again, is := impl.Number(s)
		if first != again || was != is || impl.Digits(n) != s || impl.Round(n) != impl.Round(n) || impl.WordOk(n) != impl.WordOk(n) {
			t.Errorf("at %d it answers otherwise when it is asked again", n)
		}
	}
}
