package impl

import (
	"strconv"
	"strings"
)

const (
	EtCol    = 1
	EtConst  = 2
	EtEq     = 3
	EtLess   = 4
	EtAnd    = 5
	EtOr     = 6
	EtNot    = 7
	EtNull   = 8
	EtAdd    = 9
	EtSub    = 10
	MaxToks  = 24
	MaxCols  = 8
	TruNot   = 0
	TruYes   = 1
	TruMaybe = 2
)

const (
	noTruth = -1
	colMark = "#"
	// A trigger and a join see two rows side by side.
	widest = 2 * MaxCols
)

type Tok struct {
	Kind int64
	Col  int64
	V    Val
}

// An op takes the last values that are left, as many as takes says, and
// leaves the one that do answers, if there is one.
type op struct {
	word  string
	takes int
	do    func(args []Val) (Val, bool)
}

// opTable has the op of each kind of Tok in its place; kinds that are no ops
// take nothing and have no word.
func opTable() [EtSub + 1]op {
	return [EtSub + 1]op{
		EtEq:   {"=", 2, equalOf},
		EtLess: {"<", 2, lessOf},
		EtAnd:  {"and", 2, bothOf},
		EtOr:   {"or", 2, eitherOf},
		EtNot:  {"not", 1, notOf},
		EtNull: {"isnull", 1, nullOf},
		EtAdd:  {"+", 2, sumOf},
		EtSub:  {"-", 2, differenceOf},
	}
}

func And3(a int64, b int64) int64 {
	switch {
	case !isTruth(a) || !isTruth(b):
		return noTruth
	case a == TruNot || b == TruNot:
		return TruNot
	case a == TruYes && b == TruYes:
		return TruYes
	default:
		return TruMaybe
	}
}

func Or3(a int64, b int64) int64 {
	switch {
	case !isTruth(a) || !isTruth(b):
		return noTruth
	case a == TruYes || b == TruYes:
		return TruYes
	case a == TruNot && b == TruNot:
		return TruNot
	default:
		return TruMaybe
	}
}

func Not3(a int64) int64 {
	switch a {
	case TruYes:
		return TruNot
	case TruNot:
		return TruYes
	case TruMaybe:
		return TruMaybe
	default:
		return noTruth
	}
}

func isTruth(a int64) bool { return a == TruNot || a == TruYes || a == TruMaybe }

func ExprOk(e []Tok, cols int64) bool {
	if cols < 0 || cols > widest || len(e) > MaxToks {
		return false
	}
	ops := opTable()
	left := 0
	for _, t := range e {
		if !tokOk(t, cols) || left < ops[t.Kind].takes {
			return false
		}
		left += 1 - ops[t.Kind].takes
	}
	return left == 1
}

func tokOk(t Tok, cols int64) bool {
	switch {
	case t.Kind == EtCol:
		return t.Col >= 0 && t.Col < cols && t.V == Val{}
	case t.Kind == EtConst:
		return t.Col == 0 && ValOk(t.V)
	case isOp(t.Kind):
		return t.Col == 0 && t.V == Val{}
	default:
		return false
	}
}

func isOp(kind int64) bool { return kind >= EtEq && kind <= EtSub }

func Eval(e []Tok, row []Val) (Val, bool) {
	if !seenOk(row) || !ExprOk(e, int64(len(row))) {
		return Val{}, false
	}
	ops := opTable()
	var left [MaxToks]Val
	n := 0
	for _, t := range e {
		from := n - ops[t.Kind].takes
		v, ok := tokValue(ops[t.Kind], t, row, left[from:n])
		if !ok {
			return Val{}, false
		}
		left[from] = v
		n = from + 1
	}
	return left[0], true
}

func tokValue(o op, t Tok, row []Val, args []Val) (Val, bool) {
	switch t.Kind {
	case EtCol:
		return row[t.Col], true
	case EtConst:
		return t.V, true
	default:
		return o.do(args)
	}
}

// seenOk is whether an expression may see this row.
func seenOk(row []Val) bool {
	if len(row) > widest {
		return false
	}
	for _, v := range row {
		if !ValOk(v) {
			return false
		}
	}
	return true
}

func Truth(e []Tok, row []Val) int64 {
	v, ok := Eval(e, row)
	if !ok {
		return noTruth
	}
	return truthOf(v)
}

func truthOf(v Val) int64 {
	h, ok := heldBy(v)
	if !ok {
		return noTruth
	}
	switch x := h.(type) {
	case nothing:
		return TruMaybe
	case number:
		return truthIf(x != 0)
	default:
		return noTruth
	}
}

func truthVal(truth int64) (Val, bool) {
	switch truth {
	case TruYes, TruNot:
		return Val{Kind: VInt, N: truth}, true
	case TruMaybe:
		return Val{}, true
	default:
		return Val{}, false
	}
}

func equalOf(args []Val) (Val, bool) { return truthVal(Equal3(args[0], args[1])) }

func lessOf(args []Val) (Val, bool) { return truthVal(Less3(args[0], args[1])) }

// Both truths are asked even where one of them settles it: a text that is
// asked has none, wherever it stands.
func bothOf(args []Val) (Val, bool) { return truthVal(And3(truthOf(args[0]), truthOf(args[1]))) }

func eitherOf(args []Val) (Val, bool) { return truthVal(Or3(truthOf(args[0]), truthOf(args[1]))) }

func notOf(args []Val) (Val, bool) { return truthVal(Not3(truthOf(args[0]))) }

func nullOf(args []Val) (Val, bool) { return truthVal(truthIf(args[0].Kind == VNull)) }

func sumOf(args []Val) (Val, bool) { return added(args[0], args[1], 1) }

func differenceOf(args []Val) (Val, bool) { return added(args[0], args[1], -1) }

// added asks for texts ahead of nulls: a text can not be added at all, so a
// null beside it does not excuse it.
func added(a Val, b Val, sign int64) (Val, bool) {
	if a.Kind == VText || b.Kind == VText {
		return Val{}, false
	}
	if a.Kind == VNull || b.Kind == VNull {
		return Val{}, true
	}
	sum := number(a.N + sign*b.N)
	if !sum.right() {
		return Val{}, false
	}
	return valOf(sum), true
}

func ExprText(e []Tok) string {
	if !ExprOk(e, widest) {
		return ""
	}
	ops := opTable()
	words := make([]string, len(e))
	for i, t := range e {
		words[i] = tokWord(ops[t.Kind], t)
	}
	return strings.Join(words, " ")
}

func tokWord(o op, t Tok) string {
	switch t.Kind {
	case EtCol:
		return colMark + strconv.FormatInt(t.Col, 10)
	case EtConst:
		return ValText(t.V)
	default:
		return o.word
	}
}

func ReadExpr(s string) ([]Tok, bool) {
	words := strings.SplitN(s, " ", MaxToks+1)
	ops := opTable()
	e := make([]Tok, len(words))
	for i, word := range words {
		t, ok := readTok(ops, word)
		if !ok {
			return nil, false
		}
		e[i] = t
	}
	if !ExprOk(e, widest) {
		return nil, false
	}
	return e, true
}

func readTok(ops [EtSub + 1]op, word string) (Tok, bool) {
	if digits, ok := strings.CutPrefix(word, colMark); ok {
		col, ok := readDecimal(digits)
		return Tok{Kind: EtCol, Col: col}, ok
	}
	for kind := int64(EtEq); kind <= EtSub; kind++ {
		if ops[kind].word == word {
			return Tok{Kind: kind}, true
		}
	}
	v, ok := ReadVal(word)
	return Tok{Kind: EtConst, V: v}, ok
}
