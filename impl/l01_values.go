package impl

import (
	"cmp"
	"strconv"
	"strings"
)

const (
	VNull   = 0
	VInt    = 1
	VText   = 2
	MaxNum  = 1000000000
	MaxText = 12
)

const (
	nullWord   = "null"
	quoteMark  = "'"
	hexDigits  = "0123456789abcdef"
	mostDigits = 10
)

type Val struct {
	Kind int64
	N    int64
	S    string
}

// A held is what a value holds. Each kind has a type of its own, so that a
// kind answers for itself and has no field of another kind to look at.
type held interface {
	right() bool
	text() string
}

type nothing struct{}

type number int64

type letters string

func (nothing) right() bool { return true }

func (n number) right() bool { return -MaxNum <= n && n <= MaxNum }

func (l letters) right() bool { return len(l) <= MaxText }

func (nothing) text() string { return nullWord }

func (n number) text() string { return strconv.FormatInt(int64(n), 10) }

func (l letters) text() string { return quoteMark + escaped(string(l)) + quoteMark }

// valOf is the value that holds h and nothing else.
func valOf(h held) Val {
	switch x := h.(type) {
	case number:
		return Val{Kind: VInt, N: int64(x)}
	case letters:
		return Val{Kind: VText, S: string(x)}
	default:
		return Val{}
	}
}

// heldBy answers false when v is not right.
func heldBy(v Val) (held, bool) {
	var h held
	switch v.Kind {
	case VNull:
		h = nothing{}
	case VInt:
		h = number(v.N)
	case VText:
		h = letters(v.S)
	default:
		return nil, false
	}
	// A field that the kind has not does not survive the way there and back.
	if valOf(h) != v || !h.right() {
		return nil, false
	}
	return h, true
}

func ValOk(v Val) bool {
	_, ok := heldBy(v)
	return ok
}

func Order(a Val, b Val) int64 {
	if !ValOk(a) || !ValOk(b) {
		return 0
	}
	return int64(cmp.Or(cmp.Compare(a.Kind, b.Kind), cmp.Compare(a.N, b.N), cmp.Compare(a.S, b.S)))
}

func Equal3(a Val, b Val) int64 {
	if !isKnown(a) || !isKnown(b) {
		return TruMaybe
	}
	return truthIf(Order(a, b) == 0)
}

func Less3(a Val, b Val) int64 {
	if !isKnown(a) || !isKnown(b) {
		return TruMaybe
	}
	return truthIf(Order(a, b) < 0)
}

func isKnown(v Val) bool { return v.Kind != VNull && ValOk(v) }

func truthIf(yes bool) int64 {
	if yes {
		return TruYes
	}
	return TruNot
}

func ValText(v Val) string {
	h, ok := heldBy(v)
	if !ok {
		return ""
	}
	return h.text()
}

func ReadVal(s string) (Val, bool) {
	h, ok := readHeld(s)
	if !ok || !h.right() {
		return Val{}, false
	}
	// A value has one text only: what is written otherwise is no text of it.
	if h.text() != s {
		return Val{}, false
	}
	return valOf(h), true
}

// readHeld is generous; ReadVal holds what it answers against the text.
func readHeld(s string) (held, bool) {
	if s == nullWord {
		return nothing{}, true
	}
	if inner, ok := strings.CutPrefix(s, quoteMark); ok {
		l, ok := unescaped(strings.TrimSuffix(inner, quoteMark))
		return letters(l), ok
	}
	n, ok := readDecimal(s)
	return number(n), ok
}

func escaped(s string) string {
	var out strings.Builder
	for i := range len(s) {
		c := s[i]
		if isPlain(c) {
			out.WriteByte(c)
			continue
		}
		out.WriteByte('%')
		out.WriteByte(hexDigits[c>>4])
		out.WriteByte(hexDigits[c&15])
	}
	return out.String()
}

// isPlain leaves out what texts of values, records and scripts are cut at.
func isPlain(c byte) bool {
	return c >= 33 && c <= 126 && c != '\'' && c != '%' && c != ','
}

func unescaped(s string) (string, bool) {
	var out strings.Builder
	for i := 0; i < len(s); i++ {
		if s[i] != '%' {
			out.WriteByte(s[i])
			continue
		}
		if i+2 >= len(s) {
			return "", false
		}
		high := strings.IndexByte(hexDigits, s[i+1])
		low := strings.IndexByte(hexDigits, s[i+2])
		if high < 0 || low < 0 {
			return "", false
		}
		out.WriteByte(byte(high<<4 | low))
		i += 2
	}
	return out.String(), true
}

// readDecimal reads only what strconv writes: no sign but -, no noughts ahead.
func readDecimal(s string) (int64, bool) {
	if len(strings.TrimPrefix(s, "-")) > mostDigits {
		return 0, false
	}
	n, err := strconv.ParseInt(s, 10, 64)
	if err != nil || strconv.FormatInt(n, 10) != s {
		return 0, false
	}
	return n, true
}
