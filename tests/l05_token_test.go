package tests

import (
	"math/big"
	"math/rand/v2"
	"regexp"
	"slices"
	"strings"
	"sync"
	"testing"
	"unsafe"

	"loop.example/g00286/impl"
)

var everyKeyword = []string{
	"func", "let", "if", "else", "while", "print", "return", "go", "send", "recv",
	"close", "select", "case", "default", "make", "chan", "poke", "note", "swap", "halt",
	"out", "peek", "cas", "core", "addr",
}

var everySign = []string{"==", "(", ")", "{", "}", ",", ";", "=", "+", "-", "*", "<"}

// pieces is what a source is made of; what is between is told apart from names, numbers and signs by its group.
var pieces = regexp.MustCompile(`^(?:([ \n]+)|([A-Za-z]+)|([0-9]+)|(==|[(){},;=+*<-]))`)

// wantTokens is the document's words, piece by piece.
func wantTokens(src string) ([]impl.Token, int) {
	var out []impl.Token
	for at := 0; at < len(src); {
		found := pieces.FindStringSubmatch(src[at:])
		if found == nil {
			return nil, at
		}
		text := found[0]
		n := 0
		if found[3] != "" {
			value, _ := new(big.Int).SetString(text, 10)
			if value.Cmp(big.NewInt(greatest)) > 0 || value.String() != text {
				return nil, at
			}
			n = int(value.Int64())
		}
		switch {
		case len(found[2]) > 10:
			return nil, at
		case found[2] != "":
			out = append(out, impl.Token{Kind: 1, Text: text, At: at})
		case found[3] != "":
			out = append(out, impl.Token{Kind: 2, Text: text, N: n, At: at})
		case found[4] != "":
			out = append(out, impl.Token{Kind: 3, Text: text, At: at})
		}
		at += len(text)
	}
	if len(src) > 6000 {
		return nil, 0
	}
	return append(out, impl.Token{At: len(src)}), -1
}

// beginsWhereTold holds the tokens against the source itself: each stands there, and nothing but blanks and bytes 10 is between.
func beginsWhereTold(src string, list []impl.Token) bool {
	if len(list) == 0 || list[len(list)-1] != (impl.Token{Kind: impl.TkEnd, At: len(src)}) {
		return false
	}
	behind := 0
	for _, k := range list {
		if k.At < behind || k.At > len(src) || strings.Trim(src[behind:k.At], " \n") != "" || !strings.HasPrefix(src[k.At:], k.Text) {
			return false
		}
		behind = k.At + len(k.Text)
	}
	return behind == len(src)
}

func checkTokens(t *testing.T, src string) ([]impl.Token, int) {
	t.Helper()
	got, bad := impl.Tokens(src)
	want, wantBad := wantTokens(src)
	if bad != wantBad || !slices.Equal(got, want) {
		t.Errorf("Tokens(%.60q) = %s, %d, not %s, %d", src, clip(got), bad, clip(want), wantBad)
	}
	if bad == -1 && !beginsWhereTold(src, got) {
		t.Errorf("Tokens(%.60q) = %s: not each begins where it is told", src, clip(got))
	}
	return got, bad
}

func name(text string, at int) impl.Token {
	return impl.Token{Kind: impl.TkName, Text: text, At: at}
}

func num(text string, n, at int) impl.Token {
	return impl.Token{Kind: impl.TkNum, Text: text, N: n, At: at}
}

func sign(text string, at int) impl.Token {
	return impl.Token{Kind: impl.TkSign, Text: text, At: at}
}

func wantJust(t *testing.T, src string, want ...impl.Token) {
	t.Helper()
	want = append(slices.Clip(want), impl.Token{Kind: impl.TkEnd, At: len(src)})
	if got, bad := checkTokens(t, src); bad != -1 || !slices.Equal(got, want) {
		t.Errorf("Tokens(%q) = %v, %d, not %v, -1", src, got, bad, want)
	}
}

func wantNone(t *testing.T, src string, place int) {
	t.Helper()
	if got, bad := checkTokens(t, src); len(got) != 0 || bad != place {
		t.Errorf("Tokens(%.60q) = %s, %d, not nothing, %d", src, clip(got), bad, place)
	}
}

func TestTokenConstants(t *testing.T) {
	for _, k := range []struct{ is, want int }{
		{impl.MaxSource, 6000}, {impl.TkEnd, 0}, {impl.TkName, 1}, {impl.TkNum, 2}, {impl.TkSign, 3},
	} {
		if k.is != k.want {
			t.Errorf("a constant is %d, not %d", k.is, k.want)
		}
	}
}

func TestTokensOfOrdinaryTexts(t *testing.T) {
	wantJust(t, "x", name("x", 0))
	wantJust(t, "7", num("7", 7, 0))
	wantJust(t, "a b", name("a", 0), name("b", 2))
	wantJust(t, "a\nb", name("a", 0), name("b", 2))
	wantJust(t, " \n\n a  \n b \n", name("a", 4), name("b", 9))
	wantJust(t, "let x ==12;\n", name("let", 0), name("x", 4), sign("==", 6), num("12", 12, 8), sign(";", 10))
	wantJust(t, "func f(a, b chan) { return a*(b+1)-30<4; }",
		name("func", 0), name("f", 5), sign("(", 6), name("a", 7), sign(",", 8), name("b", 10), name("chan", 12), sign(")", 16),
		sign("{", 18), name("return", 20), name("a", 27), sign("*", 28), sign("(", 29), name("b", 30), sign("+", 31), num("1", 1, 32), sign(")", 33),
		sign("-", 34), num("30", 30, 35), sign("<", 37), num("4", 4, 38), sign(";", 39), sign("}", 41))
	wantJust(t, "x=-1;y=x==0;",
		name("x", 0), sign("=", 1), sign("-", 2), num("1", 1, 3), sign(";", 4),
		name("y", 5), sign("=", 6), name("x", 7), sign("==", 8), num("0", 0, 10), sign(";", 11))
}

func TestKeywordsAreNames(t *testing.T) {
	for _, s := range everyKeyword {
		wantJust(t, s, name(s, 0))
		wantJust(t, s+"s", name(s+"s", 0))
	}
}

func TestEachSign(t *testing.T) {
	for _, s := range everySign {
		wantJust(t, s, sign(s, 0))
		wantJust(t, " "+s+"\n", sign(s, 1))
		wantJust(t, "a"+s+"b", name("a", 0), sign(s, 1), name("b", 1+len(s)))
		wantJust(t, "3"+s+"4", num("3", 3, 0), sign(s, 1), num("4", 4, 1+len(s)))
		for _, z := range everySign {
			wantJust(t, s+" "+z, sign(s, 0), sign(z, len(s)+1))
			if s != "=" || z[0] != '=' {
				wantJust(t, s+z, sign(s, 0), sign(z, len(s)))
			}
		}
	}
}

func TestSignsOfTwoBytes(t *testing.T) {
	wantJust(t, "==", sign("==", 0))
	wantJust(t, "=", sign("=", 0))
	wantJust(t, "===", sign("==", 0), sign("=", 2))
	wantJust(t, "====", sign("==", 0), sign("==", 2))
	wantJust(t, "=====", sign("==", 0), sign("==", 2), sign("=", 4))
	wantJust(t, "= =", sign("=", 0), sign("=", 2))
	wantJust(t, "=\n=", sign("=", 0), sign("=", 2))
	wantJust(t, "= ==", sign("=", 0), sign("==", 2))
	wantJust(t, "== =", sign("==", 0), sign("=", 3))
	wantJust(t, "a==", name("a", 0), sign("==", 1))
	wantJust(t, "a=", name("a", 0), sign("=", 1))
	wantJust(t, "a===", name("a", 0), sign("==", 1), sign("=", 3))
	wantJust(t, "a=b", name("a", 0), sign("=", 1), name("b", 2))
	wantJust(t, "1==1", num("1", 1, 0), sign("==", 1), num("1", 1, 3))
	wantJust(t, "<=", sign("<", 0), sign("=", 1))
	wantJust(t, "=<", sign("=", 0), sign("<", 1))
	wantJust(t, "<==", sign("<", 0), sign("==", 1))
	for _, s := range []string{"<<", "++", "--", "**", "((", "))", "{{", "}}", ",,", ";;"} {
		wantJust(t, s, sign(s[:1], 0), sign(s[:1], 1))
	}
	wantNone(t, "!=", 0)
	wantNone(t, "=!", 1)
	wantNone(t, "==>", 2)
	wantNone(t, "=\t=", 1)
}

func TestNumbers(t *testing.T) {
	wantJust(t, "0", num("0", 0, 0))
	wantJust(t, "9", num("9", 9, 0))
	wantJust(t, "10", num("10", 10, 0))
	wantJust(t, "100200", num("100200", 100200, 0))
	wantJust(t, "1234567890", num("1234567890", 1234567890, 0))
	wantJust(t, "0 0", num("0", 0, 0), num("0", 0, 2))
	wantJust(t, "1 0", num("1", 1, 0), num("0", 0, 2))
	wantJust(t, "2147483646", num("2147483646", greatest-1, 0))
	wantJust(t, "2147483647", num("2147483647", greatest, 0))
	wantJust(t, " 2147483647;", num("2147483647", greatest, 1), sign(";", 11))
}

func TestNumbersThatAreNone(t *testing.T) {
	digits := []string{
		"00", "01", "007", "000", "0123456789", "00000000000000000000", "02147483647", "0000000000000000000000001",
		"2147483648", "2147483649", "2147483650", "3000000000", "4294967295", "4294967296", "4294967297", "9999999999", "10000000000",
		"9223372036854775807", "9223372036854775808", "18446744073709551615", "18446744073709551616", "18446744073709551617",
		strings.Repeat("1", 50), strings.Repeat("9", 3000), "1" + strings.Repeat("0", 5000),
		new(big.Int).Lsh(big.NewInt(1), 256).String(),
	}
	for _, s := range digits {
		wantNone(t, s, 0)
		wantNone(t, "a "+s, 2)
		wantNone(t, "a"+s+"b", 1)
		wantNone(t, s+";", 0)
		wantNone(t, "7\n"+s+" 8 #", 2)
		wantNone(t, "-"+s, 1)
		wantNone(t, "("+s+")", 1)
	}
}

func TestTheSignAheadOfANumber(t *testing.T) {
	wantJust(t, "-1", sign("-", 0), num("1", 1, 1))
	wantJust(t, "-0", sign("-", 0), num("0", 0, 1))
	wantJust(t, "--1", sign("-", 0), sign("-", 1), num("1", 1, 2))
	wantJust(t, "- 1", sign("-", 0), num("1", 1, 2))
	wantJust(t, "3-1", num("3", 3, 0), sign("-", 1), num("1", 1, 2))
	wantJust(t, "-2147483647", sign("-", 0), num("2147483647", greatest, 1))
	wantJust(t, "+1", sign("+", 0), num("1", 1, 1))
	wantNone(t, "-2147483648", 1)
	wantNone(t, "-01", 1)
}

func TestLettersAndDigitsSideBySide(t *testing.T) {
	wantJust(t, "a1", name("a", 0), num("1", 1, 1))
	wantJust(t, "1a", num("1", 1, 0), name("a", 1))
	wantJust(t, "a1b2", name("a", 0), num("1", 1, 1), name("b", 2), num("2", 2, 3))
	wantJust(t, "0x1", num("0", 0, 0), name("x", 1), num("1", 1, 2))
	wantJust(t, "1e3", num("1", 1, 0), name("e", 1), num("3", 3, 2))
	wantJust(t, "abcdefghij9", name("abcdefghij", 0), num("9", 9, 10))
	wantJust(t, "0a0", num("0", 0, 0), name("a", 1), num("0", 0, 2))
	wantNone(t, "a01", 1)
	wantNone(t, "0x01", 2)
	wantNone(t, "01a", 0)
	wantNone(t, "a1_000", 2)
	wantNone(t, "1.0", 1)
}

func TestNamesByTheirLength(t *testing.T) {
	for size := 1; size <= 30; size++ {
		for _, one := range []string{"a", "z", "A", "Z", "m"} {
			s := strings.Repeat(one, size)
			if size <= 10 {
				wantJust(t, s, name(s, 0))
				wantJust(t, "1 "+s+";", num("1", 1, 0), name(s, 2), sign(";", 2+size))
				continue
			}
			wantNone(t, s, 0)
			wantNone(t, "1 "+s+";", 2)
			wantNone(t, "1"+s+"#", 1)
		}
	}
	wantJust(t, "abcdefghij klmnopqrst", name("abcdefghij", 0), name("klmnopqrst", 11))
	wantJust(t, "abcdefghij\nk", name("abcdefghij", 0), name("k", 11))
	wantNone(t, "abcdefghijk", 0)
	wantNone(t, "defaulting default defaultings", 19)
}

func TestLetters(t *testing.T) {
	for b := byte('a'); b <= 'z'; b++ {
		great := b - 'a' + 'A'
		wantJust(t, string(rune(b)), name(string(rune(b)), 0))
		wantJust(t, string(rune(great)), name(string(rune(great)), 0))
		wantJust(t, "x"+string(rune(great))+string(rune(b)), name("x"+string(rune(great))+string(rune(b)), 0))
	}
	wantJust(t, "LET Let lEt", name("LET", 0), name("Let", 4), name("lEt", 8))
	wantJust(t, "a{z", name("a", 0), sign("{", 1), name("z", 2))
	for _, s := range []string{"@", "[", "`", "|", "_", "~", "/", ":", ">", "!", "\"", "'", ".", "&", "%", "$", "#", "?", "^", "]", "\\"} {
		wantNone(t, s, 0)
		wantNone(t, "a"+s, 1)
		wantNone(t, s+"a", 0)
		wantNone(t, "a"+s+"b", 1)
		wantNone(t, "1"+s+"2", 1)
	}
}

func TestTextsWithoutTokens(t *testing.T) {
	for _, s := range []string{"", " ", "\n", "  ", "\n\n", " \n", "\n ", " \n \n ", strings.Repeat(" ", 500), strings.Repeat("\n ", 500)} {
		wantJust(t, s)
	}
}

// kindOfByte is what a byte by itself is: a token's kind, 0 of what stands between, -1 of what is none.
func kindOfByte(b byte) int {
	switch {
	case b == 32 || b == 10:
		return 0
	case b >= 97 && b <= 122 || b >= 65 && b <= 90:
		return impl.TkName
	case b >= 48 && b <= 57:
		return impl.TkNum
	case slices.Contains(everySign, string(rune(b))):
		return impl.TkSign
	}
	return -1
}

func TestEachByte(t *testing.T) {
	known := 0
	for i := range 256 {
		b := byte(i)
		alone := string([]byte{b})
		kind := kindOfByte(b)
		if kind < 0 {
			wantNone(t, alone, 0)
			wantNone(t, "let x = 1;"+alone+"y", 10)
			wantNone(t, "let x = 1; "+alone, 11)
			wantNone(t, "a"+alone+"=", 1)
			wantNone(t, "\n\n"+alone+"#", 2)
			continue
		}
		known++
		want := impl.Token{Kind: kind, Text: alone}
		if kind == impl.TkNum {
			want.N = i - 48
		}
		if kind == 0 {
			wantJust(t, alone)
			wantJust(t, "a"+alone+"1", name("a", 0), num("1", 1, 2))
			continue
		}
		wantJust(t, alone, want)
		want.At = 2
		wantJust(t, "( "+alone+" )", sign("(", 0), want, sign(")", 4))
		wantJust(t, "\n "+alone, want)
	}
	if known != 2+52+10+11 {
		t.Errorf("%d bytes are known", known)
	}
}

// Bytes of texts beyond those that are letters and digits elsewhere, and what is a blank elsewhere.
func TestBytesBeyond(t *testing.T) {
	for _, s := range []string{"\t", "\r", "\v", "\f", "\x00", "\x7f", "\u00a0", "\u0085", "\u2028", "\u3000", "\ufeff", "\ufffd", "é", "ß", "Ω", "ж", "中", "\u0663", "\uff11", "\uff41", "\u212a", "\xff", "\xc3", "\xa9", "\x80"} {
		wantNone(t, s, 0)
		wantNone(t, "ab"+s, 2)
		wantNone(t, "ab "+s+" c", 3)
		wantNone(t, "12"+s+"3", 2)
		wantNone(t, "=="+s, 2)
	}
}

func TestTheFirstThatIsNoneIsTold(t *testing.T) {
	wantNone(t, "a # 007", 2)
	wantNone(t, "a 007 #", 2)
	wantNone(t, "abcdefghijk #", 0)
	wantNone(t, "# abcdefghijk", 0)
	wantNone(t, "1 2 3 @ $", 6)
	wantNone(t, "ok ok 2147483648 toolongname", 6)
}

// sized is a right text of that many bytes.
func sized(size int) string {
	return strings.Repeat("ab = 12;\n ", size/10) + strings.Repeat(" ", size%10)
}

func TestHowLongASourceMayBe(t *testing.T) {
	fill := []string{" ", "\n", "x ", "a1", "=", "==", "(", ";", "-1", "0 ", "abcdefghij ", "let x = 2147483647;\n"}
	for _, part := range fill {
		long := strings.Repeat(part, 6002)
		for _, size := range []int{5998, 5999, 6000} {
			src := long[:size]
			if got, bad := checkTokens(t, src); bad != -1 || got[len(got)-1].At != size {
				t.Errorf("%d bytes of %q are none at %d", size, part, bad)
			}
		}
		for _, size := range []int{6001, 6002} {
			wantNone(t, long[:size], 0)
		}
	}
	for _, size := range []int{6001, 6010, 7000, 12000, 60000, 1000000} {
		wantNone(t, sized(size), 0)
	}
	if got, bad := checkTokens(t, sized(6000)); bad != -1 || len(got) != 600*4+1 {
		t.Errorf("6000 bytes are none at %d", bad)
	}
}

func TestWhatIsNoneAtTheLastByte(t *testing.T) {
	wantNone(t, sized(5999)+"#", 5999)
	wantNone(t, sized(5998)+"#", 5998)
	wantNone(t, sized(5998)+"00", 5998)
	wantNone(t, sized(5989)+"abcdefghijk", 5989)
	wantNone(t, "#"+sized(5999), 0)
}

// Where both apply, what is none counts, as the chapter names it first; over the whole source.
func TestWhatIsNoneInASourceThatIsTooLong(t *testing.T) {
	wantNone(t, "a#"+sized(6000), 1)
	wantNone(t, sized(5999)+"##", 5999)
	wantNone(t, sized(6000)+"#", 6000)
	wantNone(t, sized(6001)+"#", 6001)
	wantNone(t, sized(6000)+"007", 6000)
	wantNone(t, sized(20000)+"#"+sized(6000), 20000)
	for _, one := range []string{"a", "0", "9", "#", "\x00", "\xff"} {
		wantNone(t, strings.Repeat(one, 6001), 0)
		wantNone(t, "; "+strings.Repeat(one, 100000), 2)
	}
}

// All short texts of these parts.
func TestTokensOfAllShortTexts(t *testing.T) {
	parts := []string{"a", "Z", "0", "1", "=", "<", "-", "(", " ", "\n", "#", "\xff", "abcdefghij", "2147483647"}
	texts := []string{""}
	for range 5 {
		var longer []string
		for _, s := range texts {
			checkTokens(t, s)
			for _, p := range parts {
				longer = append(longer, s+p)
			}
		}
		texts = longer
	}
}

func TestDrawnTexts(t *testing.T) {
	parts := append(slices.Concat(everySign, everyKeyword), " ", " ", "\n", "x", "Ab", "0", "7", "42", "2147483647", "abcdefghij")
	wrong := []string{"#", "00", "2147483648", "abcdefghijk", "\t", "\xc3\xa9", "_"}
	draw := rand.New(rand.NewPCG(5, 30))
	right := 0
	for i := range 3000 {
		var src strings.Builder
		for range draw.IntN(60) + 1 {
			src.WriteString(parts[draw.IntN(len(parts))])
			if draw.IntN(8) > 0 {
				src.WriteString(" ")
			}
			if i%4 == 0 && draw.IntN(20) == 0 {
				src.WriteString(wrong[draw.IntN(len(wrong))])
			}
		}
		if _, bad := checkTokens(t, src.String()); bad == -1 {
			right++
		}
	}
	if right < 500 || right > 2500 {
		t.Errorf("%d drawn texts are right", right)
	}
}

func TestDrawnBytes(t *testing.T) {
	draw := rand.New(rand.NewPCG(5, 31))
	for range 20000 {
		src := make([]byte, draw.IntN(12))
		for i := range src {
			src[i] = byte(draw.IntN(256)) & byte(127+128*draw.IntN(2))
		}
		checkTokens(t, string(src))
	}
}

// The tokens written anew, with a blank behind each, are the same ones, and only stand elsewhere.
func TestTokensOfTokens(t *testing.T) {
	src := "func f(a,b)\n{let x=a==b;while x<3{x=x+1*2-(a);}print x;return-10;}"
	list, bad := checkTokens(t, src)
	if bad != -1 {
		t.Fatal(bad)
	}
	var again strings.Builder
	var want []impl.Token
	for _, k := range list {
		k.At = again.Len()
		want = append(want, k)
		if k.Kind != impl.TkEnd {
			again.WriteString(k.Text + " ")
		}
	}
	if got, bad := checkTokens(t, again.String()); bad != -1 || !slices.Equal(got, want) {
		t.Errorf("%q becomes %v", again.String(), got)
	}
}

func TestKeyword(t *testing.T) {
	if len(everyKeyword) != 25 {
		t.Fatal(len(everyKeyword))
	}
	for _, s := range everyKeyword {
		if !impl.Keyword(s) {
			t.Errorf("%q is no keyword", s)
		}
	}
}

// nearKeywords are the texts beside each keyword: a byte more or less, other letters, blanks about it.
func nearKeywords() []string {
	var out []string
	for _, s := range everyKeyword {
		for i := range s {
			out = append(out, s[:i]+s[i+1:], s[:i]+strings.ToUpper(s[i:i+1])+s[i+1:], s[:i], s[i+1:])
		}
		for _, p := range []string{"a", "s", "x", "A", " ", "\n", "\x00", "0", "(", "\xff", "é"} {
			for i := range len(s) + 1 {
				out = append(out, s[:i]+p+s[i:])
			}
		}
		out = append(out, strings.ToUpper(s), s+s, s+" "+s)
	}
	return out
}

func TestTextsThatAreNoKeywords(t *testing.T) {
	none := append(nearKeywords(), everySign...)
	none = append(none, "", " ", "\n", "x", "main", "a1", "0", "12", "-1", "#", "\xff", "é", "for", "var", "true", "nil", "switch", "break", "rtlock",
		"func let", "if,else", strings.Join(everyKeyword, " "), strings.Join(everyKeyword, ""), strings.Repeat("a", 100000), strings.Repeat("func", 10000))
	for i := range 256 {
		none = append(none, string([]byte{byte(i)}))
	}
	for _, s := range none {
		if got, want := impl.Keyword(s), slices.Contains(everyKeyword, s); got != want {
			t.Errorf("Keyword(%.40q) = %v", s, got)
		}
	}
}

// Of all texts of two or three small letters just those are keywords that are named.
func TestKeywordsAmongShortTexts(t *testing.T) {
	var found []string
	for _, one := range "abcdefghijklmnopqrstuvwxyz" {
		for _, two := range "abcdefghijklmnopqrstuvwxyz" {
			s := string(one) + string(two)
			if impl.Keyword(s) {
				found = append(found, s)
			}
			for _, three := range "abcdefghijklmnopqrstuvwxyz" {
				if impl.Keyword(s + string(three)) {
					found = append(found, s+string(three))
				}
			}
		}
	}
	if want := []string{"cas", "go", "if", "let", "out"}; !slices.Equal(found, want) {
		t.Errorf("keywords: %v, not %v", found, want)
	}
}

func TestKeywordsAskedSideBySide(t *testing.T) {
	var all sync.WaitGroup
	wrong := make([]int, 8)
	for i := range wrong {
		all.Go(func() {
			for range 50 {
				for _, s := range everyKeyword {
					if !impl.Keyword(s) || impl.Keyword(s+"x") {
						wrong[i]++
					}
				}
			}
		})
	}
	all.Wait()
	if slices.Max(wrong) != 0 {
		t.Errorf("answers that were wrong: %v", wrong)
	}
}

func sourcesForMemory() []string {
	return []string{"", " ", "x", "let x ==12;\n", "a b c d e f g", "a#", "007", "func f() { return 0; }", sized(600), sized(6000), sized(6001)}
}

func TestTokensAnswerTheSameAgain(t *testing.T) {
	for _, src := range sourcesForMemory() {
		first, was := impl.Tokens(src)
		impl.Tokens("other # text")
		impl.Tokens("other text")
		again, is := impl.Tokens(src)
		if was != is || !slices.Equal(first, again) {
			t.Errorf("at %.40q it answers otherwise when it is asked again", src)
		}
	}
	for _, s := range append(slices.Clone(everyKeyword), "", "x", "FUNC") {
		if first := impl.Keyword(s); impl.Keyword("other") || impl.Keyword(s) != first {
			t.Errorf("at %q it answers otherwise when it is asked again", s)
		}
	}
}

func TestEachListOfTokensIsItsOwn(t *testing.T) {
	for _, src := range sourcesForMemory() {
		one, _ := impl.Tokens(src)
		other, _ := impl.Tokens(src)
		kept := slices.Clone(other)
		for i := range one[:cap(one)] {
			one[:cap(one)][i] = impl.Token{Kind: -99, Text: "spoilt", N: -99, At: -99}
		}
		if !slices.Equal(other, kept) {
			t.Errorf("two answers at %.40q share memory", src)
		}
		if again, _ := impl.Tokens(src); !slices.Equal(again, kept) {
			t.Errorf("what one answer at %.40q holds is seen in another", src)
		}
	}
}

func TestTokensHoldNothingOfTheSource(t *testing.T) {
	for _, src := range sourcesForMemory() {
		first := uintptr(unsafe.Pointer(unsafe.StringData(src)))
		list, _ := impl.Tokens(src)
		for _, k := range list {
			text := uintptr(unsafe.Pointer(unsafe.StringData(k.Text)))
			if k.Text != "" && text >= first && text < first+uintptr(len(src)) {
				t.Fatalf("the token %+v of %.40q lies in the source", k, src)
			}
		}
	}
}
