package tests

import (
	"math"
	"slices"
	"strconv"
	"strings"
	"testing"

	"loop.example/g00570/impl"
)

const widest = 2 * impl.MaxCols

var truths = []int64{impl.TruNot, impl.TruYes, impl.TruMaybe}

var noTruths = []int64{-1, 3, -2, 4, math.MaxInt64, math.MinInt64, 1 << 32}

// opWords has the words of the ops by kind; kinds 0 .. 2 are no ops.
var opWords = [...]string{"", "", "", "=", "<", "and", "or", "not", "isnull", "+", "-"}

func isUnary(kind int64) bool { return kind == impl.EtNot || kind == impl.EtNull }

func col(n int64) impl.Tok { return impl.Tok{Kind: impl.EtCol, Col: n} }

func constant(v impl.Val) impl.Tok { return impl.Tok{Kind: impl.EtConst, V: v} }

func opTok(kind int64) impl.Tok { return impl.Tok{Kind: kind} }

// read is the expression of a text that has one.
func read(t *testing.T, s string) []impl.Tok {
	t.Helper()
	e, ok := impl.ReadExpr(s)
	if !ok {
		t.Fatalf("ReadExpr(%q) is false", s)
	}
	return e
}

func nulls(n int) []impl.Val { return make([]impl.Val, n) }

func TestAndOrNot(t *testing.T) {
	and := [3][3]int64{{0, 0, 0}, {0, 1, 2}, {0, 2, 2}}
	or := [3][3]int64{{0, 1, 2}, {1, 1, 1}, {2, 1, 2}}
	not := [3]int64{1, 0, 2}
	for _, a := range truths {
		if got := impl.Not3(a); got != not[a] {
			t.Errorf("Not3(%d) = %d, want %d", a, got, not[a])
		}
		for _, b := range truths {
			if got := impl.And3(a, b); got != and[a][b] {
				t.Errorf("And3(%d, %d) = %d, want %d", a, b, got, and[a][b])
			}
			if got := impl.Or3(a, b); got != or[a][b] {
				t.Errorf("Or3(%d, %d) = %d, want %d", a, b, got, or[a][b])
			}
		}
	}
}

func TestNotsOfNots(t *testing.T) {
	for _, a := range truths {
		if got := impl.Not3(impl.Not3(a)); got != a {
			t.Errorf("not not %d is %d", a, got)
		}
		for _, b := range truths {
			both, either := impl.Not3(impl.And3(a, b)), impl.Not3(impl.Or3(a, b))
			if both != impl.Or3(impl.Not3(a), impl.Not3(b)) {
				t.Errorf("not of both %d and %d is %d", a, b, both)
			}
			if either != impl.And3(impl.Not3(a), impl.Not3(b)) {
				t.Errorf("not of either %d or %d is %d", a, b, either)
			}
		}
	}
}

func TestTruthsThatAreNone(t *testing.T) {
	for _, a := range noTruths {
		if got := impl.Not3(a); got != -1 {
			t.Errorf("Not3(%d) = %d, want -1", a, got)
		}
		for _, b := range slices.Concat(truths, noTruths) {
			got := [4]int64{impl.And3(a, b), impl.And3(b, a), impl.Or3(a, b), impl.Or3(b, a)}
			if got != [4]int64{-1, -1, -1, -1} {
				t.Errorf("and, or of %d and %d: %v, want -1", a, b, got)
			}
		}
	}
}

func TestExprOkCountsValues(t *testing.T) {
	c := constant(num(1))
	for kind := int64(impl.EtEq); kind <= impl.EtSub; kind++ {
		o := opTok(kind)
		one, two, three := []impl.Tok{c, o}, []impl.Tok{c, c, o}, []impl.Tok{c, c, c, o}
		if impl.ExprOk([]impl.Tok{o}, 0) || impl.ExprOk([]impl.Tok{o, c, c}, 0) || impl.ExprOk(three, 0) {
			t.Errorf("op %d: too few or too many values are right", kind)
		}
		if impl.ExprOk(one, 0) != isUnary(kind) || impl.ExprOk(two, 0) == isUnary(kind) {
			t.Errorf("op %d takes the wrong number of values", kind)
		}
	}
	if impl.ExprOk(nil, 0) || impl.ExprOk([]impl.Tok{}, widest) || impl.ExprOk([]impl.Tok{c, c}, 0) {
		t.Error("no value or two values left are right")
	}
	// The op takes a value that is only left behind it.
	if impl.ExprOk([]impl.Tok{c, opTok(impl.EtAdd), c}, 0) {
		t.Error("an op between its values is right")
	}
	if !impl.ExprOk([]impl.Tok{c, c, c, opTok(impl.EtAdd), opTok(impl.EtNot), opTok(impl.EtSub)}, 0) {
		t.Error("ops of ops are not right")
	}
}

func TestExprOkColumns(t *testing.T) {
	for cols := int64(0); cols <= widest; cols++ {
		for n := int64(0); n <= widest+1; n++ {
			if got := impl.ExprOk([]impl.Tok{col(n)}, cols); got != (n < cols) {
				t.Errorf("column %d of %d: %v", n, cols, got)
			}
		}
		if impl.ExprOk([]impl.Tok{col(-1)}, cols) || impl.ExprOk([]impl.Tok{col(math.MinInt64)}, cols) || impl.ExprOk([]impl.Tok{col(math.MaxInt64)}, cols) {
			t.Errorf("a column that there is not, of %d, is right", cols)
		}
		if !impl.ExprOk([]impl.Tok{constant(num(1))}, cols) {
			t.Errorf("a constant is not right for %d columns", cols)
		}
	}
	for _, cols := range []int64{-1, widest + 1, math.MinInt64, math.MaxInt64} {
		if impl.ExprOk([]impl.Tok{constant(num(1))}, cols) || impl.ExprOk([]impl.Tok{col(0)}, cols) {
			t.Errorf("right for %d columns", cols)
		}
	}
}

func TestExprOkParts(t *testing.T) {
	for _, v := range rising() {
		if !impl.ExprOk([]impl.Tok{constant(v)}, 0) {
			t.Errorf("a constant %#v is not right", v)
		}
		if v != (impl.Val{}) && impl.ExprOk([]impl.Tok{{Kind: impl.EtCol, V: v}}, 1) {
			t.Errorf("a column with the value %#v is right", v)
		}
	}
	for _, v := range wrongVals() {
		if impl.ExprOk([]impl.Tok{constant(v)}, 0) || impl.ExprOk([]impl.Tok{{Kind: impl.EtCol, V: v}}, 1) {
			t.Errorf("a part with %#v is right", v)
		}
	}
	if impl.ExprOk([]impl.Tok{{Kind: impl.EtConst, Col: 1, V: num(1)}}, widest) {
		t.Error("a constant with a column is right")
	}
	for kind := int64(impl.EtEq); kind <= impl.EtSub; kind++ {
		e := []impl.Tok{constant(num(1)), constant(num(2)), opTok(kind)}
		if isUnary(kind) {
			e = e[1:]
		}
		last := len(e) - 1
		for _, extra := range []impl.Tok{{Kind: kind, Col: 1}, {Kind: kind, Col: -1}, {Kind: kind, V: num(0)}, {Kind: kind, V: text("")}, {Kind: kind, V: impl.Val{N: 1}}} {
			e[last] = extra
			if impl.ExprOk(e, widest) {
				t.Errorf("an op %#v is right", extra)
			}
		}
	}
	for _, kind := range []int64{0, -1, 11, 12, math.MinInt64, math.MaxInt64, 1<<32 + 1} {
		c := constant(num(1))
		for _, e := range [][]impl.Tok{{opTok(kind)}, {c, opTok(kind)}, {c, c, opTok(kind)}} {
			if impl.ExprOk(e, widest) {
				t.Errorf("kind %d is right", kind)
			}
		}
	}
}

// chain has a constant and as many nots as make n parts.
func chain(n int) []impl.Tok {
	e := []impl.Tok{constant(num(0))}
	for len(e) < n {
		e = append(e, opTok(impl.EtNot))
	}
	return e
}

func TestExprOkMostParts(t *testing.T) {
	row := []impl.Val{}
	if e := chain(impl.MaxToks); !impl.ExprOk(e, 0) || impl.Truth(e, row) != impl.TruYes || impl.ExprText(e) == "" {
		t.Error("MaxToks parts are refused")
	}
	e := chain(impl.MaxToks + 1)
	if impl.ExprOk(e, 0) || impl.Truth(e, row) != -1 || impl.ExprText(e) != "" {
		t.Error("one part more than MaxToks is accepted")
	}
	if v, ok := impl.Eval(e, row); ok || v != (impl.Val{}) {
		t.Error("one part more than MaxToks has a value")
	}
	// As many values as can wait: twelve, then eleven sums.
	wide := "1" + strings.Repeat(" 1", 11) + strings.Repeat(" +", 11)
	if v, ok := impl.Eval(read(t, wide), row); !ok || v != num(12) {
		t.Error("twelve ones are", v, ok)
	}
	if s := wide + " not"; impl.Truth(read(t, s), row) != impl.TruNot {
		t.Error("MaxToks parts are not read")
	}
	if _, ok := impl.ReadExpr(wide + " not not"); ok {
		t.Error("one part more than MaxToks is read")
	}
}

// opOf is what the chapter says of an op of right values, told here once more.
func opOf(kind int64, a impl.Val, b impl.Val) (impl.Val, bool) {
	truthOf := func(v impl.Val) int64 {
		switch {
		case v.Kind == impl.VNull:
			return impl.TruMaybe
		case v.Kind == impl.VText:
			return -1
		case v.N == 0:
			return impl.TruNot
		}
		return impl.TruYes
	}
	valueOf := func(truth int64) (impl.Val, bool) {
		if truth == impl.TruMaybe || truth == -1 {
			return impl.Val{}, truth != -1
		}
		return num(truth), true
	}
	sum := func(n int64) (impl.Val, bool) {
		if a.Kind == impl.VText || b.Kind == impl.VText {
			return impl.Val{}, false
		}
		if a.Kind == impl.VNull || b.Kind == impl.VNull {
			return impl.Val{}, true
		}
		if n < -impl.MaxNum || n > impl.MaxNum {
			return impl.Val{}, false
		}
		return num(n), true
	}
	switch kind {
	case impl.EtEq:
		return valueOf(impl.Equal3(a, b))
	case impl.EtLess:
		return valueOf(impl.Less3(a, b))
	case impl.EtAnd:
		return valueOf(impl.And3(truthOf(a), truthOf(b)))
	case impl.EtOr:
		return valueOf(impl.Or3(truthOf(a), truthOf(b)))
	case impl.EtNot:
		return valueOf(impl.Not3(truthOf(a)))
	case impl.EtNull:
		if a.Kind == impl.VNull {
			return num(1), true
		}
		return num(0), true
	case impl.EtAdd:
		return sum(a.N + b.N)
	}
	return sum(a.N - b.N)
}

func checkEval(t *testing.T, e []impl.Tok, row []impl.Val, want impl.Val, wantOk bool) {
	t.Helper()
	got, ok := impl.Eval(e, row)
	if ok != wantOk || got != want {
		t.Errorf("Eval(%q, %#v) = %#v, %v, want %#v, %v", impl.ExprText(e), row, got, ok, want, wantOk)
	}
}

func TestOpsOfConstantsAndColumns(t *testing.T) {
	for _, a := range rising() {
		checkEval(t, []impl.Tok{constant(a)}, nil, a, true)
		checkEval(t, []impl.Tok{col(0)}, []impl.Val{a}, a, true)
		for _, b := range rising() {
			for kind := int64(impl.EtEq); kind <= impl.EtSub; kind++ {
				want, ok := opOf(kind, a, b)
				if isUnary(kind) {
					checkEval(t, []impl.Tok{constant(a), opTok(kind)}, nil, want, ok)
					checkEval(t, []impl.Tok{col(1), opTok(kind)}, []impl.Val{b, a}, want, ok)
					continue
				}
				checkEval(t, []impl.Tok{constant(a), constant(b), opTok(kind)}, nil, want, ok)
				checkEval(t, []impl.Tok{col(1), col(0), opTok(kind)}, []impl.Val{b, a}, want, ok)
			}
		}
	}
}

// TestAnOpBehind: an expression with an op behind is that op of its values.
func TestAnOpBehind(t *testing.T) {
	row := []impl.Val{num(3), {}, text("a"), num(0), num(impl.MaxNum)}
	parts := []string{
		"#0", "#1", "#2", "#3", "#4", "-1", "'b'",
		"#0 #1 +", "#0 1 -", "#4 1 +", "0 #4 -", "0 #4 - 1 -", "#2 isnull", "#1 isnull not", "#2 not", "#0 #2 <", "#1 #1 =", "#2 #2 =", "#3 #2 and", "#3 #1 or",
	}
	for _, p := range parts {
		for _, q := range parts {
			for kind := int64(impl.EtEq); kind <= impl.EtSub; kind++ {
				s := p + " " + q + " " + opWords[kind]
				if isUnary(kind) {
					s = p + " " + opWords[kind]
				}
				a, ok := impl.Eval(read(t, p), row)
				b, also := impl.Eval(read(t, q), row)
				var want impl.Val
				if ok = ok && (also || isUnary(kind)); ok {
					want, ok = opOf(kind, a, b)
				}
				checkEval(t, read(t, s), row, want, ok)
			}
		}
	}
}

func TestTextsAskedForTruth(t *testing.T) {
	row := []impl.Val{text("a"), {}, text(""), text("0"), text("1")}
	for _, c := range []string{"#0", "#2", "#3", "#4", "'1'"} {
		for _, s := range []string{" not", " 0 and", " 1 and", " null and", " 0 or", " 1 or", " null or", " isnull not not 'x' and"} {
			e := read(t, c+s)
			checkEval(t, e, row, impl.Val{}, false)
			if impl.Truth(e, row) != -1 {
				t.Error(c + s + " has a truth")
			}
		}
		for _, s := range []string{"0 # and", "1 # and", "#1 # and", "0 # or", "1 # or", "#1 # or", "# # and", "# # or"} {
			e := read(t, strings.ReplaceAll(s, "# ", c+" "))
			checkEval(t, e, row, impl.Val{}, false)
		}
		e := read(t, c)
		if impl.Truth(e, row) != -1 {
			t.Error(c + " has a truth")
		}
		if _, ok := impl.Eval(e, row); !ok {
			t.Error(c + " has no value")
		}
	}
}

func TestSumsAtTheLimits(t *testing.T) {
	for s, want := range map[string]string{
		"999999999 1 +": "1000000000", "1000000000 0 +": "1000000000", "1000000000 1 +": "",
		"-999999999 -1 +": "-1000000000", "-1000000000 -1 +": "", "1000000000 1000000000 +": "", "1000000000 -1000000000 +": "0",
		"-999999999 1 -": "-1000000000", "-1000000000 1 -": "", "999999999 -1 -": "1000000000", "1000000000 -1 -": "",
		"-1000000000 1000000000 -": "", "1000000000 1000000000 -": "0", "0 1000000000 -": "-1000000000",
		// A number that is not right on the way is told, too.
		"1000000000 1 + 1 -": "", "-1000000000 1 - 1 +": "", "1000000000 1 + isnull": "", "1000000000 1 + null +": "",
		// Nothing is added where one is a null.
		"null 1000000000 +": "null", "null null -": "null", "1 null -": "null",
		"'a' 1 +": "", "1 'a' +": "", "'a' 1 -": "", "1 'a' -": "", "'1' '1' +": "", "'' '' -": "",
	} {
		v, ok := impl.Eval(read(t, s), nil)
		if ok != (want != "") || ok && impl.ValText(v) != want || !ok && v != (impl.Val{}) {
			t.Errorf("%s: %#v, %v, want %q", s, v, ok, want)
		}
	}
}

// TestTextsAddedOrTakenOff: a text makes it false whatever stands on the other
// side, in constants and in columns, and whatever stands around it.
func TestTextsAddedOrTakenOff(t *testing.T) {
	around := []string{"", " isnull", " not", " null +", " null =", " 1 or", " 0 and", " 1 + not isnull"}
	for _, a := range rising() {
		for _, b := range rising() {
			if a.Kind != impl.VText && b.Kind != impl.VText {
				continue
			}
			row := []impl.Val{a, b}
			for _, op := range []string{" +", " -"} {
				for _, rest := range around {
					for _, both := range []string{"#0 #1", impl.ValText(a) + " #1", "#0 " + impl.ValText(b), impl.ValText(a) + " " + impl.ValText(b)} {
						checkNone(t, both+op+rest, row)
					}
				}
				checkNone(t, "1 #0 #1"+op+" or", row)
				checkNone(t, "0 #0 #1"+op+" and", row)
				checkNone(t, "null #0 #1"+op+" +", row)
			}
		}
	}
}

func TestNullsAddedOrTakenOff(t *testing.T) {
	row := []impl.Val{{}, num(3), num(-impl.MaxNum), num(impl.MaxNum)}
	for _, s := range []string{
		"null 3 +", "3 null +", "null 3 -", "3 null -", "null null +", "null null -",
		"#0 #0 +", "#0 #0 -", "#0 #1 +", "#1 #0 -", "#2 #0 -", "#0 #2 -", "#3 #0 +", "#0 #3 +", "#0 3 + #0 -",
	} {
		checkEval(t, read(t, s), row, impl.Val{}, true)
		if got := impl.Truth(read(t, s), row); got != impl.TruMaybe {
			t.Errorf("Truth of %s is %d, want TruMaybe", s, got)
		}
	}
}

// checkNone wants no value and no truth of the expression whose text is s.
func checkNone(t *testing.T, s string, row []impl.Val) {
	t.Helper()
	e := read(t, s)
	checkEval(t, e, row, impl.Val{}, false)
	if got := impl.Truth(e, row); got != -1 {
		t.Errorf("Truth of %s is %d, want -1", s, got)
	}
}

func TestRowsThatAreNotRight(t *testing.T) {
	one := []impl.Tok{constant(num(1))}
	checkEval(t, one, nulls(widest), num(1), true)
	checkEval(t, one, nulls(widest+1), impl.Val{}, false)
	checkEval(t, []impl.Tok{col(widest - 1)}, append(nulls(widest-1), num(5)), num(5), true)
	checkEval(t, []impl.Tok{col(widest)}, nulls(widest+1), impl.Val{}, false)
	checkEval(t, []impl.Tok{col(2)}, nulls(2), impl.Val{}, false)
	checkEval(t, nil, nulls(1), impl.Val{}, false)
	if impl.Truth(one, nulls(widest)) != impl.TruYes || impl.Truth(one, nulls(widest+1)) != -1 {
		t.Error("truths by the length of the row")
	}
	for _, v := range wrongVals() {
		// A value that the expression does not look at must be right as well.
		checkEval(t, one, []impl.Val{num(1), v}, impl.Val{}, false)
		checkEval(t, []impl.Tok{col(1)}, []impl.Val{num(1), v}, impl.Val{}, false)
		checkEval(t, []impl.Tok{constant(v)}, nil, impl.Val{}, false)
		if impl.Truth(one, []impl.Val{v}) != -1 {
			t.Errorf("a truth beside %#v", v)
		}
	}
}

func TestTruthOfValues(t *testing.T) {
	row := []impl.Val{num(3), {}, text("a")}
	for s, want := range map[string]int64{
		"#0": 1, "#1": 2, "#2": -1, "0": 0, "1": 1, "-1": 1, "2": 1, "1000000000": 1, "null": 2, "''": -1, "'1'": -1,
		"#0 3 =": 1, "#0 4 =": 0, "#1 #1 =": 2, "#2 'a' =": 1, "#0 #2 <": 1, "#2 #0 <": 0, "#1 isnull": 1, "#2 isnull": 0,
		"#0 3 -": 0, "#0 #1 -": 2, "#0 #2 -": -1, "#2 not": -1, "#1 not": 2, "#3": -1, "1000000000 1 +": -1,
	} {
		if got := impl.Truth(read(t, s), row); got != want {
			t.Errorf("Truth of %s is %d, want %d", s, got, want)
		}
	}
	if impl.Truth(nil, row) != -1 || impl.Truth([]impl.Tok{opTok(impl.EtAnd)}, row) != -1 {
		t.Error("what is no expression has a truth")
	}
}

func TestExprTextWords(t *testing.T) {
	e := []impl.Tok{col(0), col(15), opTok(impl.EtEq), constant(text("a b")), opTok(impl.EtLess), constant(impl.Val{}), opTok(impl.EtAnd), constant(num(-1)), opTok(impl.EtOr), opTok(impl.EtNot), opTok(impl.EtNull), col(7), opTok(impl.EtAdd), constant(text("")), opTok(impl.EtSub)}
	want := "#0 #15 = 'a%20b' < null and -1 or not isnull #7 + '' -"
	if got := impl.ExprText(e); got != want {
		t.Errorf("ExprText is %q, want %q", got, want)
	}
	if got, ok := impl.ReadExpr(want); !ok || !slices.Equal(got, e) {
		t.Errorf("ReadExpr(%q) = %v, %v", want, got, ok)
	}
	for _, e := range [][]impl.Tok{nil, {}, {col(widest)}, {col(-1)}, {opTok(impl.EtNot)}, {col(0), col(1)}, {opTok(0)}, {opTok(11)}, {constant(num(impl.MaxNum + 1))}, {{Kind: impl.EtCol, V: num(1)}}, {{Kind: impl.EtConst, Col: 1}}} {
		if got := impl.ExprText(e); got != "" {
			t.Errorf("ExprText(%v) is %q, want none", e, got)
		}
	}
}

func TestExpressionsComeBackFromTheirTexts(t *testing.T) {
	var leaves []impl.Tok
	for n := int64(0); n < widest; n++ {
		leaves = append(leaves, col(n))
	}
	for _, v := range rising() {
		leaves = append(leaves, constant(v))
	}
	for _, a := range leaves {
		for _, b := range leaves {
			for kind := int64(impl.EtEq); kind <= impl.EtSub; kind++ {
				e := []impl.Tok{a, b, opTok(kind)}
				if isUnary(kind) {
					e = []impl.Tok{a, opTok(kind)}
				}
				s := impl.ExprText(e)
				if got, ok := impl.ReadExpr(s); !ok || !slices.Equal(got, e) {
					t.Fatalf("ReadExpr(%q) = %v, %v, want %v", s, got, ok, e)
				}
			}
		}
	}
	// The longest text that there is: MaxToks parts, each text of escaped bytes.
	long := text(strings.Repeat("\xff", impl.MaxText))
	e := []impl.Tok{constant(long)}
	for len(e)+2 <= impl.MaxToks {
		e = append(e, constant(long), opTok(impl.EtEq))
	}
	e = append(e, opTok(impl.EtNull))
	if got, ok := impl.ReadExpr(impl.ExprText(e)); len(e) != impl.MaxToks || !ok || !slices.Equal(got, e) {
		t.Error("the longest expression does not come back")
	}
}

func TestTextsOfNoExpression(t *testing.T) {
	for _, s := range []string{
		"", " ", "#0 ", " #0", "#0  not", "#0\tnot", "#0\nnot", "#0 not\n", "#0 not ", "#0,not",
		"#", "#-1", "#-0", "#00", "#01", "#+1", "# 1", "#16", "#17", "#1000000000", "#10000000000", "#18446744073709551616", "#a", "##0", "0#", "col0",
		"x", "And", "AND", "is null", "#0 is null", "#0 isNull", "#0 ==", "#0 #1 ==", "#0 #1 <>", "#0 #1 >", "#0 #1 <=", "#0 #1 &", "#0 1 --", "#0 1 ++", "1 1 +1",
		"+", "1 +", "- 1", "1 + 1", "#0 #1", "#0 #1 #2 +", "not", "not 1", "1 2 not", "1 2 isnull", "1 and", "isnull",
		"-0", "01", "1000000001", "nul", "'", "'a", "'a b'", "'%41'", "'a' 'b", "'1234567890123'",
		strings.Repeat("1 ", 23) + "1", "1" + strings.Repeat(" not", impl.MaxToks), strings.Repeat(" ", 100000), strings.Repeat("1 ", 100000) + "1",
	} {
		if e, ok := impl.ReadExpr(s); ok || len(e) != 0 {
			t.Errorf("ReadExpr(%q) = %v, %v, want none", s, e, ok)
		}
	}
}

// TestEachShortExprIsReadAsWritten tries every text of up to five of some words and blanks.
func TestEachShortExprIsReadAsWritten(t *testing.T) {
	pieces := []string{" ", "#", "0", "1", "-", "+", "not", "null", "is", "'"}
	var try func(s string, n int)
	try = func(s string, n int) {
		if e, ok := impl.ReadExpr(s); ok && (!impl.ExprOk(e, widest) || impl.ExprText(e) != s) {
			t.Errorf("ReadExpr(%q) = %v, whose text is %q", s, e, impl.ExprText(e))
		}
		for i := 0; i < len(pieces) && n < 5; i++ {
			try(s+pieces[i], n+1)
		}
	}
	try("", 0)
}

// TestNothingIsWrittenIntoArguments looks at the arguments and at the spare room behind them.
func TestNothingIsWrittenIntoArguments(t *testing.T) {
	room := append(read(t, "#0 #1 + 5 - 'a' = not"), col(3), constant(text("spare")))
	rows := []impl.Val{num(1), num(2), text("spare"), num(9)}
	e, row := room[:len(room)-2], rows[:2]
	keptRoom, keptRows := slices.Clone(room), slices.Clone(rows)
	for range 2 {
		checkEval(t, e, row, num(1), true)
		if impl.Truth(e, row) != impl.TruYes || !impl.ExprOk(e, 2) || impl.ExprText(e) != "#0 #1 + 5 - 'a' = not" {
			t.Error("another answer")
		}
	}
	if !slices.Equal(room, keptRoom) || !slices.Equal(rows, keptRows) {
		t.Error("an argument was written into")
	}
}

func TestAnswersAreNewMemory(t *testing.T) {
	const s = "#0 1 +"
	first := read(t, s)
	clear(first[:cap(first)])
	if got := impl.ExprText(read(t, s)); got != s {
		t.Error("an answer was kept: " + strconv.Quote(got))
	}
}
