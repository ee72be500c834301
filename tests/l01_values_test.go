package tests

import (
	"math"
	"strings"
	"testing"

	"loop.example/g00570/impl"
)

func num(n int64) impl.Val { return impl.Val{Kind: impl.VInt, N: n} }

func text(s string) impl.Val { return impl.Val{Kind: impl.VText, S: s} }

// rising has right values of all kinds, each ahead of the next one.
func rising() []impl.Val {
	return []impl.Val{
		{},
		num(-impl.MaxNum), num(-10), num(-9), num(-1), num(0), num(1), num(9), num(10), num(impl.MaxNum),
		text(""), text("\x00"), text(" "), text("10"), text("9"), text("A"), text("a"), text("a\x00"), text("aa"), text("b"),
		text("null"), text(strings.Repeat("z", impl.MaxText)), text("\x7f"), text("\x80"), text("\u00e9"), text("\xff"),
	}
}

// wrongVals has values each of which is not right in one way.
func wrongVals() []impl.Val {
	return []impl.Val{
		{N: 1}, {N: -1}, {S: "a"}, {N: 1, S: "a"},
		{Kind: impl.VInt, S: "a"}, {Kind: impl.VInt, N: 1, S: " "},
		num(impl.MaxNum + 1), num(-impl.MaxNum - 1), num(math.MaxInt64), num(math.MinInt64),
		{Kind: impl.VText, N: 1}, {Kind: impl.VText, N: -1, S: "a"},
		text(strings.Repeat("z", impl.MaxText+1)), text(strings.Repeat("\x00", impl.MaxText+1)), text(strings.Repeat("z", 1000)),
		{Kind: 3}, {Kind: -1}, {Kind: 3, N: 1}, {Kind: 3, S: "a"}, {Kind: math.MaxInt64}, {Kind: math.MinInt64}, {Kind: 1 << 32},
	}
}

func TestValOk(t *testing.T) {
	for _, v := range rising() {
		if !impl.ValOk(v) {
			t.Errorf("%#v should be right", v)
		}
	}
	for _, v := range wrongVals() {
		if impl.ValOk(v) {
			t.Errorf("%#v should not be right", v)
		}
	}
}

func TestOrderOfRightValues(t *testing.T) {
	l := rising()
	for i, a := range l {
		for k, b := range l {
			want := int64(0)
			if i < k {
				want = -1
			} else if i > k {
				want = 1
			}
			if got := impl.Order(a, b); got != want {
				t.Errorf("Order(%#v, %#v) = %d, want %d", a, b, got, want)
			}
		}
	}
}

func TestThreeTruthsOfRightValues(t *testing.T) {
	l := rising()
	for i, a := range l {
		for k, b := range l {
			equal, less := int64(impl.TruNot), int64(impl.TruNot)
			if i == k {
				equal = impl.TruYes
			}
			if i < k {
				less = impl.TruYes
			}
			if a.Kind == impl.VNull || b.Kind == impl.VNull {
				equal, less = impl.TruMaybe, impl.TruMaybe
			}
			if got := impl.Equal3(a, b); got != equal {
				t.Errorf("Equal3(%#v, %#v) = %d, want %d", a, b, got, equal)
			}
			if got := impl.Less3(a, b); got != less {
				t.Errorf("Less3(%#v, %#v) = %d, want %d", a, b, got, less)
			}
		}
	}
}

func checkUnknown(t *testing.T, a impl.Val, b impl.Val) {
	t.Helper()
	if got := impl.Order(a, b); got != 0 {
		t.Errorf("Order(%#v, %#v) = %d, want 0", a, b, got)
	}
	if got := impl.Equal3(a, b); got != impl.TruMaybe {
		t.Errorf("Equal3(%#v, %#v) = %d, want TruMaybe", a, b, got)
	}
	if got := impl.Less3(a, b); got != impl.TruMaybe {
		t.Errorf("Less3(%#v, %#v) = %d, want TruMaybe", a, b, got)
	}
}

func TestWrongValuesAreInNoOrder(t *testing.T) {
	for _, wrong := range wrongVals() {
		for _, right := range rising() {
			checkUnknown(t, wrong, right)
			checkUnknown(t, right, wrong)
		}
		for _, other := range wrongVals() {
			checkUnknown(t, wrong, other)
		}
	}
}

func TestValTextByKind(t *testing.T) {
	for _, c := range []struct {
		v    impl.Val
		want string
	}{
		{impl.Val{}, "null"},
		{num(0), "0"}, {num(7), "7"}, {num(-7), "-7"},
		{num(impl.MaxNum), "1000000000"}, {num(-impl.MaxNum), "-1000000000"},
		{text(""), "''"}, {text("null"), "'null'"}, {text("-7"), "'-7'"}, {text("#0"), "'#0'"},
		{text("!\"&()*+-./~"), "'!\"&()*+-./~'"},
		{text(" \x7f'%,\n"), "'%20%7f%27%25%2c%0a'"},
		{text("\u00e9\xab"), "'%c3%a9%ab'"},
		{text(strings.Repeat("\xff", impl.MaxText)), "'" + strings.Repeat("%ff", impl.MaxText) + "'"},
	} {
		if got := impl.ValText(c.v); got != c.want {
			t.Errorf("ValText(%#v) = %q, want %q", c.v, got, c.want)
		}
	}
	for _, v := range wrongVals() {
		if got := impl.ValText(v); got != "" {
			t.Errorf("ValText(%#v) = %q, want none", v, got)
		}
	}
}

// TestEachByteInAText holds each byte against the rule of the chapter, told here once more.
func TestEachByteInAText(t *testing.T) {
	const digits = "0123456789abcdef"
	for c := 0; c < 256; c++ {
		want := string([]byte{byte(c)})
		if c < 33 || c > 126 || c == '\'' || c == '%' || c == ',' {
			want = "%" + digits[c/16:c/16+1] + digits[c%16:c%16+1]
		}
		want = "'x" + want + "'"
		if got := impl.ValText(text("x" + string([]byte{byte(c)}))); got != want {
			t.Errorf("byte %d: %q, want %q", c, got, want)
		}
	}
}

func TestValuesComeBackFromTheirTexts(t *testing.T) {
	l := rising()
	for c := 0; c < 256; c++ {
		one := string([]byte{byte(c)})
		l = append(l, text(one), text("a"+one+"b"), text(strings.Repeat(one, impl.MaxText)))
	}
	for n := int64(1); n <= impl.MaxNum; n *= 10 {
		l = append(l, num(n), num(-n), num(n-1), num(1-n))
	}
	for _, v := range l {
		s := impl.ValText(v)
		if got, ok := impl.ReadVal(s); !ok || got != v {
			t.Errorf("ReadVal(%q) = %#v, %v, want %#v", s, got, ok, v)
		}
	}
}

func TestTextsOfNoValue(t *testing.T) {
	for _, s := range []string{
		"", " ", "nul", "nulll", "Null", "NULL", " null", "null ", "null\n", "nil",
		"-", "+", "+1", "-0", "00", "01", "-01", "--1", "1 ", " 1", "1.0", "1e3", "0x1", "1_0", "- 1", "1-", "\xd9\xa1",
		"1000000001", "-1000000001", "9999999999", "10000000000", "00000000001", "9223372036854775808", strings.Repeat("9", 1000),
		"'", "a", "'a", "a'", "'''", "'a'b'", "''a", "'a''", " ''", "'' ", "\"a\"",
		"'%'", "'%2'", "'%20", "'%2c", "'%2C'", "'%2g'", "'%g2'", "'% 2'", "'%%'", "'%41'", "'%61'", "'%7e'", "'%21'", "'%7F'",
		"' '", "','", "'a b'", "'a,b'", "'\x00'", "'\n'", "'\x7f'", "'\x80'", "'\u00e9'",
		"'" + strings.Repeat("z", impl.MaxText+1) + "'", "'" + strings.Repeat("%00", impl.MaxText+1) + "'", "'" + strings.Repeat("z", 100000) + "'",
	} {
		if v, ok := impl.ReadVal(s); ok || v != (impl.Val{}) {
			t.Errorf("ReadVal(%q) = %#v, %v, want none", s, v, ok)
		}
	}
}

// TestEachShortTextIsReadAsWritten tries every text of up to five of some bytes:
// what is read must have just that text.
func TestEachShortTextIsReadAsWritten(t *testing.T) {
	const alphabet = "'%012aA- ,"
	read := 0
	var try func(s string)
	try = func(s string) {
		v, ok := impl.ReadVal(s)
		if ok {
			read++
		}
		if ok && (!impl.ValOk(v) || impl.ValText(v) != s) {
			t.Errorf("ReadVal(%q) = %#v, whose text is %q", s, v, impl.ValText(v))
		}
		for i := 0; i < len(alphabet) && len(s) < 5; i++ {
			try(s + alphabet[i:i+1])
		}
	}
	try("")
	if read == 0 {
		t.Error("nothing was read")
	}
}
