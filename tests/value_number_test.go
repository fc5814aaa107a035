package tests

import (
	"math"
	"math/big"
	"strings"
	"testing"

	"loop.example/s02245/impl"
)

type scanCase struct {
	text string
	want int
	code int
}

func checkScan(t *testing.T, cases []scanCase) {
	t.Helper()
	for _, c := range cases {
		if got, code := impl.ScanInt([]byte(c.text)); got != c.want || code != c.code {
			t.Errorf("ScanInt(%q) = %d, %d; want %d, %d", c.text, got, code, c.want, c.code)
		}
	}
}

func TestFormatInt(t *testing.T) {
	for _, a := range edgeInts() {
		want := big.NewInt(int64(a)).String()
		if got := impl.FormatInt(a); string(got) != want {
			t.Errorf("FormatInt(%d) = %q; want %q", a, got, want)
		}
	}
	if got := impl.FormatInt(math.MinInt); string(got) != "-9223372036854775808" {
		t.Errorf("the least number: %q", got)
	}
	if got := impl.FormatInt(0); string(got) != "0" {
		t.Errorf("zero: %q", got)
	}
}

func TestFormatIntAnswersNewMemory(t *testing.T) {
	first := impl.FormatInt(5)
	first[0] = '!'
	if second := impl.FormatInt(5); string(second) != "5" {
		t.Errorf("after a write into an earlier answer: %q", second)
	}
}

func TestScanIntOfFormatInt(t *testing.T) {
	for _, a := range edgeInts() {
		got, code := impl.ScanInt(impl.FormatInt(a))
		if a >= 0 && (got != a || code != impl.CodeOK) {
			t.Errorf("%d comes back as %d, %d", a, got, code)
		}
		if a < 0 && (got != 0 || code != impl.CodeSyntax) {
			t.Errorf("%d has a sign: %d, %d", a, got, code)
		}
	}
}

func TestScanIntForms(t *testing.T) {
	checkScan(t, []scanCase{
		{"0", 0, 0}, {"9", 9, 0}, {"0123", 123, 0}, {"00", 0, 0},
		{"0x0", 0, 0}, {"0x7f", 127, 0}, {"0X7F", 127, 0}, {"0xaBcDeF", 0xabcdef, 0}, {"0x00", 0, 0},
		{"9223372036854775807", math.MaxInt, 0},
		{"9223372036854775808", math.MinInt, 0},
		{"18446744073709551615", -1, 0},
		{"18446744073709551616", 0, 0},
		{"0x7fffffffffffffff", math.MaxInt, 0},
		{"0x8000000000000000", math.MinInt, 0},
		{"0xffffffffffffffff", -1, 0},
		{"0x1ffffffffffffffff", -1, 0},
	})
}

func TestScanIntWrapsRound(t *testing.T) {
	for size := 1; size <= impl.MaxDigits; size++ {
		for _, text := range []string{strings.Repeat("9", size), "1" + strings.Repeat("0", size-1), "0x" + strings.Repeat("e", max(size-2, 1))} {
			exact, ok := new(big.Int).SetString(text, 0)
			if !ok {
				t.Fatalf("%s is no number", text)
			}
			checkScan(t, []scanCase{{text, wrapped(exact), impl.CodeOK}})
		}
	}
}

func TestScanIntLimit(t *testing.T) {
	zeros := strings.Repeat("0", 100)
	checkScan(t, []scanCase{
		{zeros[:impl.MaxDigits-1] + "7", 7, impl.CodeOK},
		{zeros[:impl.MaxDigits] + "7", 0, impl.CodeLimit},
		{"0x" + zeros[:impl.MaxDigits-3] + "f", 15, impl.CodeOK},
		{"0x" + zeros[:impl.MaxDigits-2] + "f", 0, impl.CodeLimit},
		{"0X" + zeros[:impl.MaxDigits-3] + "f", 15, impl.CodeOK},
		{"0X" + zeros[:impl.MaxDigits-2] + "f", 0, impl.CodeLimit},
		{zeros, 0, impl.CodeLimit},
		{strings.Repeat("9", 9000), 0, impl.CodeLimit},
		{zeros + "f", 0, impl.CodeSyntax},
		{"-" + zeros, 0, impl.CodeSyntax},
		{"0x" + zeros + "g", 0, impl.CodeSyntax},
		{strings.Repeat("9", 9000) + " ", 0, impl.CodeSyntax},
	})
}

func TestScanIntEveryByte(t *testing.T) {
	for c := range 256 {
		digit := strings.IndexByte("0123456789", byte(c))
		hex := strings.IndexByte("0123456789abcdef", byte(c))
		if 'A' <= c && c <= 'F' {
			hex = c - 'A' + 10
		}
		for i, pre := range []string{"", "1", "2"} {
			want := scanCase{pre + string([]byte{byte(c)}), 0, impl.CodeSyntax}
			if digit >= 0 {
				want.want, want.code = 10*i+digit, impl.CodeOK
			}
			checkScan(t, []scanCase{want})
		}
		for _, pre := range []string{"0x", "0X"} {
			want := scanCase{pre + string([]byte{byte(c)}), 0, impl.CodeSyntax}
			if hex >= 0 {
				want.want, want.code = hex, impl.CodeOK
			}
			checkScan(t, []scanCase{want})
		}
	}
}

func TestScanIntRefuses(t *testing.T) {
	for _, text := range []string{
		"", "0x", "0X", "x", "X1", "00x1", "1x1", "0xx1", "0x0x1", "0x1x", "0b1", "0o7", "+1", "-1", "-0", "0x-1", "-0x1", "+0x1",
		" 1", "1 ", "1\n", "1_0", "0x1_0", "1.0", "1e3", "a", "1a", "0xg", "0x1g", "0x1 ", "\x00", "1\x00", "\xb2",
	} {
		checkScan(t, []scanCase{{text, 0, impl.CodeSyntax}})
	}
	if got, code := impl.ScanInt(nil); got != 0 || code != impl.CodeSyntax {
		t.Errorf("ScanInt(nil) = %d, %d", got, code)
	}
}

func TestScanIntLeavesItsArgument(t *testing.T) {
	for _, text := range []string{"0X00aF", "0123", "12x"} {
		given := []byte(text)
		impl.ScanInt(given)
		if string(given) != text {
			t.Errorf("%q became %q", text, given)
		}
	}
}
