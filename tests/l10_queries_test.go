package tests

import (
	"fmt"
	"math"
	"runtime"
	"slices"
	"strconv"
	"strings"
	"sync"
	"testing"
	"time"

	"loop.example/g00570/impl"
)

// stall is a table p of a Key, a text and a number, c of a Key alone, e likewise, and the widest one, w.
func stall() []impl.Table {
	p := impl.Table{Name: "p", Cols: []impl.Col{notNull(intCol("k")), textCol("t"), intCol("n")}, Key: []int64{0}}
	return []impl.Table{p, plain("c", 1), plain("e", 1), plain("w", impl.MaxCols)}
}

// stallDb has no rows in e and w.
const stallDb = "1 4 'b' 7; 2 3 'a' null; 3 2 'b' 5; 5 1 null 1; 8 9 null -3; 9 6 'a' null / 1 2; 2 4; 7 9 / /"

// only is a database for stall with rows in p alone.
func only(rows string) []impl.Data { return dbOf(rows + "/ / /") }

// selecting has a term for each text.
func selecting(t *testing.T, table string, where string, by []int64, most int64, terms ...string) impl.Select {
	t.Helper()
	q := impl.Select{Table: table, Where: condition(t, where), By: by, Most: most}
	for _, term := range terms {
		q.Terms = append(q.Terms, impl.Term{Expr: read(t, term)})
	}
	return q
}

// noLines stands for an answer that is false.
const noLines = "no lines"

// linesText has a blank between values and a ; between lines.
func linesText(l []impl.Line, ok bool) string {
	if !ok {
		return noLines
	}
	var lines []string
	for _, line := range l {
		var words []string
		for _, v := range line.Vals {
			words = append(words, impl.ValText(v))
		}
		lines = append(lines, strings.Join(words, " "))
	}
	return strings.Join(lines, "; ")
}

func checkLines(t *testing.T, what string, got []impl.Line, ok bool, want string) {
	t.Helper()
	if text := linesText(got, ok); text != want {
		t.Errorf("%s: %s, want %s", what, text, want)
	}
	if !ok && len(got) != 0 {
		t.Errorf("%s: false, with %d lines", what, len(got))
	}
}

func checkSelected(t *testing.T, what string, s []impl.Table, db []impl.Data, q impl.Select, want string) {
	t.Helper()
	if !impl.SelectOk(s, q) {
		t.Errorf("%s: the query is not right", what)
	}
	got, ok := impl.RunSelect(s, db, q)
	checkLines(t, what, got, ok, want)
}

// checkQuery asks SelectOk; of a query that is not right nothing is told, whether there are rows or not.
func checkQuery(t *testing.T, what string, s []impl.Table, q impl.Select, want bool) {
	t.Helper()
	if got := impl.SelectOk(s, q); got != want {
		t.Errorf("%s: SelectOk is %v, want %v", what, got, want)
	}
	for _, db := range [][]impl.Data{make([]impl.Data, len(s)), dbOf(stallDb)} {
		if l, ok := impl.RunSelect(s, db, q); !want && (ok || len(l) != 0) {
			t.Errorf("%s: %s", what, linesText(l, ok))
		}
	}
	if l, ok := impl.RunSelect(s, make([]impl.Data, len(s)), q); ok != want || len(l) != 0 {
		t.Errorf("%s: of no rows %s", what, linesText(l, ok))
	}
}

func TestSelectOk(t *testing.T) {
	s := stall()
	for n := range 20 {
		q := impl.Select{Table: "p", Terms: slices.Repeat([]impl.Term{{Expr: read(t, "#0")}}, n)}
		checkQuery(t, strconv.Itoa(n)+" terms", s, q, n >= 1 && n <= impl.MaxCols)
	}
	for _, most := range []int64{0, 1, 9, impl.MaxRows - 1, impl.MaxRows} {
		checkQuery(t, fmt.Sprint("most ", most), s, selecting(t, "p", "", nil, most, "#0"), true)
	}
	for _, most := range []int64{-1, -impl.MaxRows, impl.MaxRows + 1, math.MaxInt64, math.MinInt64, 1 << 32, 1<<32 + 1} {
		checkQuery(t, fmt.Sprint("most ", most), s, selecting(t, "p", "", nil, most, "#0"), false)
	}
	for _, by := range [][]int64{nil, {}, {0}, {2}, {1, 0}, {2, 1, 0}, {0, 1, 2}} {
		checkQuery(t, fmt.Sprint("by ", by), s, selecting(t, "p", "", by, 5, "#0"), true)
	}
	for _, by := range [][]int64{{3}, {-1}, {0, 0}, {0, 1, 0}, {0, 1, 2, 3}, {0, 1, 2, 0}, {1, 3}, {math.MaxInt64}, {math.MinInt64}, {1 << 32}} {
		checkQuery(t, fmt.Sprint("by ", by), s, selecting(t, "p", "", by, 5, "#0"), false)
	}
	checkQuery(t, "by all columns of the widest table", s, selecting(t, "w", "#7", []int64{7, 6, 5, 4, 3, 2, 1, 0}, 5, "#7"), true)
	checkQuery(t, "a condition that is an empty list", s, impl.Select{Table: "p", Terms: []impl.Term{{Expr: read(t, "1")}}, Where: []impl.Tok{}}, true)
	long := impl.Select{Table: "p", Terms: []impl.Term{{Expr: chain(impl.MaxToks)}}, Where: chain(impl.MaxToks)}
	checkQuery(t, "the longest expressions", s, long, true)
}

func TestSelectsThatAreNotRight(t *testing.T) {
	s := stall()
	right := func() impl.Select { return selecting(t, "p", "#0 5 <", []int64{1}, 5, "#0", "#1", "#2 1 +") }
	changes := map[string]func(q *impl.Select){
		"no terms":            func(q *impl.Select) { q.Terms = nil },
		"a term more than ok": func(q *impl.Select) { q.Terms = slices.Repeat(q.Terms, 3) },
		"an empty term":       func(q *impl.Select) { q.Terms[1].Expr = nil },
		"a narrower table":    func(q *impl.Select) { q.Table = "c" },
	}
	for _, name := range []string{"", "x", "P", "pp", "k", "p ", "p\x00"} {
		changes["table "+name] = func(q *impl.Select) { q.Table = name }
	}
	for i, e := range wrongExprs() {
		changes["condition "+strconv.Itoa(i)] = func(q *impl.Select) { q.Where = e }
		for k := range 3 {
			changes["term "+strconv.Itoa(k)+", expression "+strconv.Itoa(i)] = func(q *impl.Select) { q.Terms[k].Expr = e }
		}
	}
	checkQuery(t, "a right one", s, right(), true)
	for what, change := range changes {
		q := right()
		change(&q)
		checkQuery(t, what, s, q, false)
	}
	for i, change := range []func(s []impl.Table){
		func(s []impl.Table) { s[0].Name = "" },
		func(s []impl.Table) { s[3].Name = "c" },
		func(s []impl.Table) { s[2].Key = nil },
		func(s []impl.Table) { s[1].Fks = []impl.Fk{{Cols: []int64{0}, Table: "x"}} },
	} {
		wrong := stall()
		change(wrong)
		checkQuery(t, fmt.Sprint("schema ", i), wrong, right(), false)
	}
	if impl.SelectOk(nil, right()) || impl.SelectOk(nil, impl.Select{}) || impl.SelectOk(s, impl.Select{}) {
		t.Error("no tables, or an empty query")
	}
}

// wrongStalls are databases that are not right for stall; what makes them so stands in p, in other tables, or in their number.
func wrongStalls() [][]impl.Data {
	twice, long, kind, wide, other := dbOf(stallDb), dbOf(stallDb), dbOf(stallDb), dbOf(stallDb), dbOf(stallDb)
	twice[0].Rows[1].Id = 1
	long[1].Rows = slices.Repeat(long[1].Rows, impl.MaxRows)
	kind[0].Rows[5].Vals[1] = num(1)
	wide[0].Rows[0].Vals = nulls(4)
	other[1].Rows[2].Id = impl.MaxNum + 1
	return [][]impl.Data{nil, dbOf(stallDb)[:3], append(dbOf(stallDb), impl.Data{}), twice, long, kind, wide, other}
}

func TestQueriesOfDbsThatAreNotRight(t *testing.T) {
	s := stall()
	for i, db := range wrongStalls() {
		l, ok := impl.RunSelect(s, db, selecting(t, "p", "", nil, 5, "1"))
		checkLines(t, fmt.Sprint("select, database ", i), l, ok, noLines)
		l, ok = impl.JoinOn(s, db, 0, 1, read(t, "1"))
		checkLines(t, fmt.Sprint("join, database ", i), l, ok, noLines)
		l, ok = impl.Grouped(s, db, 0, 0, 0, impl.AgCount)
		checkLines(t, fmt.Sprint("groups, database ", i), l, ok, noLines)
	}
	wrong := stall()
	wrong[3].Key = nil
	l, ok := impl.JoinOn(wrong, dbOf(stallDb), 0, 1, read(t, "1"))
	checkLines(t, "join, a schema that is not right", l, ok, noLines)
	l, ok = impl.Grouped(wrong, dbOf(stallDb), 0, 0, 0, impl.AgCount)
	checkLines(t, "groups, a schema that is not right", l, ok, noLines)
}

func TestSelectedLines(t *testing.T) {
	s, db := stall(), dbOf(stallDb)
	checkSelected(t, "all", s, db, selecting(t, "p", "", nil, 60, "#0", "#1", "#2"), "4 'b' 7; 3 'a' null; 2 'b' 5; 1 null 1; 9 null -3; 6 'a' null")
	checkSelected(t, "another table", s, db, selecting(t, "c", "", nil, 60, "#0 #0 +"), "4; 8; 18")
	checkSelected(t, "no rows", s, db, selecting(t, "e", "", []int64{0}, 60, "'a' 1 +"), "")
	checkSelected(t, "none that match", s, db, selecting(t, "p", "0", nil, 60, "#0"), "")
	checkSelected(t, "terms in their order", s, db, selecting(t, "p", "#0 4 =", nil, 60, "#2", "#0 1 -", "#1", "#2", "null", "'x'", "#1 'b' =", "#1 isnull"), "7 3 'b' 7 null 'x' 1 0")
	checkSelected(t, "by the Key", s, db, selecting(t, "p", "", []int64{0}, 60, "#0"), "1; 2; 3; 4; 6; 9")
	checkSelected(t, "by texts, alike by Id", s, db, selecting(t, "p", "", []int64{1}, 60, "#1", "#0"), "null 1; null 9; 'a' 3; 'a' 6; 'b' 4; 'b' 2")
	checkSelected(t, "by numbers and nulls", s, db, selecting(t, "p", "", []int64{2}, 60, "#2", "#0"), "null 3; null 6; -3 9; 1 1; 5 2; 7 4")
	checkSelected(t, "by two columns", s, db, selecting(t, "p", "", []int64{1, 2}, 60, "#0"), "9; 1; 3; 6; 2; 4")
	checkSelected(t, "by two others", s, db, selecting(t, "p", "", []int64{2, 1}, 60, "#0"), "3; 6; 9; 1; 2; 4")
	checkSelected(t, "by what is not told", s, db, selecting(t, "p", "#1 isnull not", []int64{1, 0}, 60, "7"), "7; 7; 7; 7")
	checkSelected(t, "some, in order", s, db, selecting(t, "p", "#0 6 <", []int64{0}, 60, "#0 10 +"), "11; 12; 13; 14")
	flawed := only("4 1 null 1; 5 1 null 1; 7 null null 1")
	checkSelected(t, "rows with flaws", s, flawed, selecting(t, "p", "", []int64{0}, 60, "#0"), "null; 1; 1")
}

// TestOrderOfValuesInLines has each right value once, from behind; numbers and texts are in one order with nulls.
func TestOrderOfValuesInLines(t *testing.T) {
	for _, kind := range []int64{impl.VInt, impl.VText} {
		column := int64(2)
		if kind == impl.VText {
			column = 1
		}
		var d impl.Data
		var want []string
		l := rising()
		for i := range l {
			vals := []impl.Val{num(1), {}, {}}
			if v := l[len(l)-1-i]; v.Kind == impl.VNull || v.Kind == kind {
				vals[column] = v
				d.Rows = append(d.Rows, row(int64(i+1), vals...))
			}
			if l[i].Kind == impl.VNull || l[i].Kind == kind {
				want = append(want, impl.ValText(l[i]))
			}
		}
		q := selecting(t, "p", "", []int64{0, column}, 60, "#"+strconv.FormatInt(column, 10))
		checkSelected(t, fmt.Sprint("kind ", kind), stall(), []impl.Data{d, {}, {}, {}}, q, strings.Join(want, "; "))
	}
}

// many is a p of so many rows, with few values in its columns but the Key.
func many(rows int) impl.Data {
	var d impl.Data
	for i := range rows {
		v := int64(i * 37 % 61)
		d.Rows = append(d.Rows, row(int64(3*i+2), num(v), text(strconv.FormatInt(v%4, 10)), num(v%7)))
	}
	return d
}

func TestFewerLinesAreTheFirstOfThem(t *testing.T) {
	s := stall()
	for _, rows := range []int{0, 1, 7, impl.MaxRows} {
		db := []impl.Data{many(rows), {}, {}, {}}
		for _, by := range [][]int64{nil, {0}, {1}, {2, 1}, {1, 2, 0}} {
			q := selecting(t, "p", "#2 4 <", by, impl.MaxRows, "#1", "#2", "#0")
			all, ok := impl.RunSelect(s, db, q)
			if !ok || rows == impl.MaxRows && len(all) < 20 {
				t.Errorf("%d rows by %v: %s", rows, by, linesText(all, ok))
			}
			// Many rows are alike in By: those are by Id.
			m := model{s, db}
			checkLines(t, fmt.Sprint(rows, " rows by ", by), all, ok, m.selected(0, q))
			for q.Most = range int64(impl.MaxRows + 1) {
				got, ok := impl.RunSelect(s, db, q)
				checkLines(t, fmt.Sprint(rows, " rows by ", by, ", most ", q.Most), got, ok, linesText(all[:min(len(all), int(q.Most))], true))
			}
		}
	}
	q := selecting(t, "p", "", nil, impl.MaxRows, "#0")
	if all, ok := impl.RunSelect(s, []impl.Data{many(impl.MaxRows), {}, {}, {}}, q); !ok || len(all) != impl.MaxRows {
		t.Error("all lines of a full table")
	}
}

func TestConditionsOfSelects(t *testing.T) {
	s, db := stall(), dbOf(stallDb)
	for where, want := range map[string]string{
		"1": "4; 3; 2; 1; 9; 6", "0": "", "null": "", "-1": "4; 3; 2; 1; 9; 6", "#2": "4; 2; 1; 9", "#2 not": "", "#2 isnull": "3; 6", "#2 2 <": "1; 9", "#1 'a' =": "3; 6",
		"#1 'a' = not": "4; 2", "#2 null =": "", "#0 4 = #1 isnull or": "4; 1; 9",
		// No truth of one row, told or not, is no answer at all.
		"#1": noLines, "'a'": noLines, "#2 1000000000 +": noLines, "#0 999999995 + 0 <": noLines, "#1 1 + isnull": noLines,
	} {
		checkSelected(t, "where "+where, s, db, selecting(t, "p", where, nil, 60, "#0"), want)
		if want == noLines {
			checkSelected(t, "most 0, where "+where, s, db, selecting(t, "p", where, nil, 0, "#0"), noLines)
			checkSelected(t, "no rows, where "+where, s, only(""), selecting(t, "p", where, nil, 60, "#0"), "")
		}
	}
	// The row without a truth is the last one in order, or the first one.
	for _, id := range []int{0, 3, 5} {
		one := dbOf(stallDb)
		one[0].Rows[id].Vals[2] = num(impl.MaxNum)
		for most := range int64(8) {
			checkSelected(t, "a condition without a truth of one row", s, one, selecting(t, "p", "#2 1 + 5 <", []int64{0}, most, "#0"), noLines)
		}
	}
}

func TestTermsOfSelects(t *testing.T) {
	s := stall()
	// In the order of n, these have the Keys 1 .. 4; the third one is too great for the sum.
	db := only("1 4 'd' 40; 2 1 'a' 10; 3 1000000000 'c' 30; 4 2 'b' 20")
	for most, want := range []string{"", "2 'a'", "2 'a'; 3 'b'", noLines, noLines, noLines} {
		checkSelected(t, fmt.Sprint("most ", most), s, db, selecting(t, "p", "", []int64{2}, int64(most), "#0 1 +", "#1"), want)
		checkSelected(t, fmt.Sprint("last of the terms, most ", most), s, db, selecting(t, "p", "", []int64{2}, int64(most), "7", "#1", "#0 1 + isnull"), strings.NewReplacer("2 'a'", "7 'a' 0", "3 'b'", "7 'b' 0").Replace(want))
	}
	checkSelected(t, "one that does not match", s, db, selecting(t, "p", "#1 'c' = not", []int64{2}, 60, "#0 1 +"), "2; 3; 5")
	checkSelected(t, "a text that is added", s, db, selecting(t, "p", "", nil, 60, "#1 1 +"), noLines)
	checkSelected(t, "a text that is added, not told", s, db, selecting(t, "p", "", nil, 0, "#1 1 +"), "")
	checkSelected(t, "a text that is added, matched by none", s, db, selecting(t, "p", "#2 0 <", nil, 60, "#1 1 +"), "")
	checkSelected(t, "a term that is a text, a null, a truth", s, db, selecting(t, "p", "", nil, 1, "#1", "null", "null not", "#0 4 ="), "'d' null null 1")
	checkSelected(t, "MaxCols terms", s, db, selecting(t, "p", "", nil, 1, "1", "2", "3", "4", "5", "6", "7", "#0"), "1 2 3 4 5 6 7 4")
}

func checkJoin(t *testing.T, what string, s []impl.Table, db []impl.Data, a int64, b int64, on string, want string) {
	t.Helper()
	l, ok := impl.JoinOn(s, db, a, b, condition(t, on))
	checkLines(t, what+" on "+on, l, ok, want)
}

func TestJoins(t *testing.T) {
	s, db := stall(), dbOf(stallDb)
	checkJoin(t, "p and c", s, db, 0, 1, "#0 #3 =", "4 'b' 7 4; 2 'b' 5 2; 9 null -3 9")
	checkJoin(t, "c and p", s, db, 1, 0, "#0 #1 =", "2 2 'b' 5; 4 4 'b' 7; 9 9 null -3")
	checkJoin(t, "c and c", s, db, 1, 1, "1", "2 2; 2 4; 2 9; 4 2; 4 4; 4 9; 9 2; 9 4; 9 9")
	checkJoin(t, "c and c", s, db, 1, 1, "#0 #1 <", "2 4; 2 9; 4 9")
	checkJoin(t, "c and c", s, db, 1, 1, "#1 #0 <", "4 2; 9 2; 9 4")
	checkJoin(t, "one table's columns alone", s, db, 0, 1, "#2 6 <", "2 'b' 5 2; 2 'b' 5 4; 2 'b' 5 9; 1 null 1 2; 1 null 1 4; 1 null 1 9; 9 null -3 2; 9 null -3 4; 9 null -3 9")
	checkJoin(t, "the other one's columns alone", s, db, 1, 0, "#2 'a' =", "2 3 'a' null; 2 6 'a' null; 4 3 'a' null; 4 6 'a' null; 9 3 'a' null; 9 6 'a' null")
	checkJoin(t, "p and p", s, db, 0, 0, "#1 #4 = #0 #3 < and", "3 'a' null 6 'a' null; 2 'b' 5 4 'b' 7")
	checkJoin(t, "nulls are not known to be one", s, db, 0, 0, "#2 #5 = #0 #3 = not and", "")
	checkJoin(t, "nulls", s, db, 0, 0, "#2 isnull #5 isnull and #0 #3 < and", "3 'a' null 6 'a' null")
	for _, on := range []string{"0", "null", "#0 null =", "null not"} {
		checkJoin(t, "none", s, db, 0, 1, on, "")
	}
	for _, on := range []string{"7", "-1", "#0 #3 = #0 #3 = not or"} {
		checkJoin(t, "all", s, dbOf("1 1 'a' null; 2 2 null 3 / 5 5; 6 6 / /"), 0, 1, on, "1 'a' null 5; 1 'a' null 6; 2 null 3 5; 2 null 3 6")
	}
	checkJoin(t, "rows with flaws", s, dbOf("1 null 'a' 1; 2 null 'a' 1 / 1 null / /"), 0, 1, "#0 isnull", "null 'a' 1 null; null 'a' 1 null")
}

func TestJoinsOfEmptyTables(t *testing.T) {
	s, db := stall(), dbOf(stallDb)
	for _, on := range []string{"1", "0", "'a'", "'a' 1 +", "1000000000 1 +"} {
		checkJoin(t, "p and e", s, db, 0, 2, on, "")
		checkJoin(t, "e and p", s, db, 2, 0, on, "")
		checkJoin(t, "e and e", s, db, 2, 2, on, "")
	}
	// It has to be right even where there is no pair.
	checkJoin(t, "p and e", s, db, 0, 2, "#4", noLines)
	checkJoin(t, "e and e", s, db, 2, 2, "", noLines)
}

func TestJoinsThatAreNotRight(t *testing.T) {
	s, db := stall(), dbOf(stallDb)
	for _, place := range []int64{-1, 4, math.MaxInt64, math.MinInt64, 1 << 32} {
		checkJoin(t, "no such first table", s, db, place, 0, "1", noLines)
		checkJoin(t, "no such second table", s, db, 0, place, "1", noLines)
	}
	checkJoin(t, "without a condition", s, db, 0, 1, "", noLines)
	if l, ok := impl.JoinOn(s, db, 0, 1, []impl.Tok{}); ok || len(l) != 0 {
		t.Error("an empty condition")
	}
	for i, e := range wrongExprs() {
		l, ok := impl.JoinOn(s, db, 1, 1, e)
		checkLines(t, fmt.Sprint("expression ", i), l, ok, noLines)
	}
	// Right for the columns of both together, each table's behind each other's.
	for _, c := range []struct{ a, b, cols int64 }{{0, 0, 6}, {0, 1, 4}, {1, 0, 4}, {1, 1, 2}, {3, 0, 11}, {0, 3, 11}, {3, 1, 9}, {3, 3, widest}} {
		for n := range int64(widest + 2) {
			want := noLines
			if n < c.cols {
				want = ""
			}
			e := []impl.Tok{col(n), opTok(impl.EtNull), constant(num(0)), opTok(impl.EtAnd)}
			l, ok := impl.JoinOn(s, db, c.a, c.b, e)
			checkLines(t, fmt.Sprint("column ", n, " of ", c.cols), l, ok, want)
		}
	}
	long := append([]impl.Tok{constant(num(1))}, slices.Repeat([]impl.Tok{opTok(impl.EtNot)}, impl.MaxToks-2)...)
	l, ok := impl.JoinOn(s, db, 1, 1, long)
	checkLines(t, "MaxToks less one", l, ok, "2 2; 2 4; 2 9; 4 2; 4 4; 4 9; 9 2; 9 4; 9 9")
	l, ok = impl.JoinOn(s, db, 1, 1, append(long, opTok(impl.EtNot)))
	checkLines(t, "MaxToks", l, ok, "")
	l, ok = impl.JoinOn(s, db, 1, 1, append(long, opTok(impl.EtNot), opTok(impl.EtNot)))
	checkLines(t, "MaxToks and one more", l, ok, noLines)
}

func TestJoinsWithoutATruthOfOnePair(t *testing.T) {
	s := stall()
	for left := range 3 {
		for right := range 3 {
			db := dbOf("1 1 'a' 1; 2 2 'a' 2; 3 3 'a' 3 / 4 1; 5 2; 6 3 / /")
			checkJoin(t, "all have a truth", s, db, 0, 1, "#2 #3 + 0 <", "")
			db[0].Rows[left].Vals[2] = num(impl.MaxNum - 1)
			db[1].Rows[right].Vals[0] = num(2)
			for other := range 3 {
				if other != right {
					db[1].Rows[other].Vals[0] = num(1)
				}
			}
			checkJoin(t, fmt.Sprint("pair ", left, right), s, db, 0, 1, "#2 #3 + 0 <", noLines)
			db[1].Rows[right].Vals[0] = num(1)
			checkJoin(t, fmt.Sprint("pair ", left, right, " at the limit"), s, db, 0, 1, "#2 #3 + 0 <", "")
		}
	}
	checkJoin(t, "a text", s, dbOf(stallDb), 0, 1, "#1", noLines)
	checkJoin(t, "a text beside a truth", s, dbOf(stallDb), 1, 0, "#0 9 = #2 or", noLines)
}

func TestJoinsOfFullTables(t *testing.T) {
	s := []impl.Table{plain("a", 1), plain("b", impl.MaxCols)}
	db := make([]impl.Data, 2)
	for i := range int64(impl.MaxRows) {
		db[0].Rows = append(db[0].Rows, row(i+1, num(i)))
		db[1].Rows = append(db[1].Rows, row(7*i+1, slices.Repeat([]impl.Val{num(100 + i)}, impl.MaxCols)...))
	}
	for _, tables := range [][2]int64{{0, 1}, {1, 0}, {1, 1}, {0, 0}} {
		l, ok := impl.JoinOn(s, db, tables[0], tables[1], read(t, "1"))
		if !ok || len(l) != impl.MaxRows*impl.MaxRows {
			t.Fatalf("tables %v: %v, %d lines", tables, ok, len(l))
		}
		for i, line := range l {
			want := slices.Concat(db[tables[0]].Rows[i/impl.MaxRows].Vals, db[tables[1]].Rows[i%impl.MaxRows].Vals)
			if !slices.Equal(line.Vals, want) {
				t.Fatalf("tables %v, line %d: %v", tables, i, line)
			}
		}
		if impl.LinesText(l) == "" {
			t.Errorf("tables %v: no text", tables)
		}
	}
	l, ok := impl.JoinOn(s, db, 1, 1, read(t, "#15 #0 ="))
	if !ok || len(l) != impl.MaxRows {
		t.Errorf("on the last column and the first: %v, %d lines", ok, len(l))
	}
}

func checkGroups(t *testing.T, what string, s []impl.Table, db []impl.Data, by int64, column int64, want [4]string) {
	t.Helper()
	for i, how := range []int64{impl.AgCount, impl.AgSum, impl.AgMin, impl.AgMax} {
		l, ok := impl.Grouped(s, db, 0, by, column, how)
		checkLines(t, fmt.Sprintf("%s, by %d, column %d, how %d", what, by, column, how), l, ok, want[i])
	}
}

func TestGroups(t *testing.T) {
	s, db := stall(), dbOf(stallDb)
	checkGroups(t, "texts", s, db, 1, 2, [4]string{"null 2; 'a' 0; 'b' 2", "null -2; 'a' null; 'b' 12", "null -3; 'a' null; 'b' 5", "null 1; 'a' null; 'b' 7"})
	checkGroups(t, "Keys", s, db, 1, 0, [4]string{"null 2; 'a' 2; 'b' 2", "null 10; 'a' 9; 'b' 6", "null 1; 'a' 3; 'b' 2", "null 9; 'a' 6; 'b' 4"})
	checkGroups(t, "numbers", s, db, 2, 0, [4]string{"null 2; -3 1; 1 1; 5 1; 7 1", "null 9; -3 9; 1 1; 5 2; 7 4", "null 3; -3 9; 1 1; 5 2; 7 4", "null 6; -3 9; 1 1; 5 2; 7 4"})
	checkGroups(t, "texts of numbers", s, db, 2, 1, [4]string{"null 2; -3 0; 1 0; 5 1; 7 1", noLines, "null 'a'; -3 null; 1 null; 5 'b'; 7 'b'", "null 'a'; -3 null; 1 null; 5 'b'; 7 'b'"})
	checkGroups(t, "a column by itself", s, db, 2, 2, [4]string{"null 0; -3 1; 1 1; 5 1; 7 1", "null null; -3 -3; 1 1; 5 5; 7 7", "null null; -3 -3; 1 1; 5 5; 7 7", "null null; -3 -3; 1 1; 5 5; 7 7"})
	checkGroups(t, "texts by themselves", s, db, 1, 1, [4]string{"null 0; 'a' 2; 'b' 2", noLines, "null null; 'a' 'a'; 'b' 'b'", "null null; 'a' 'a'; 'b' 'b'"})
	checkGroups(t, "no rows", s, only(""), 1, 2, [4]string{"", "", "", ""})
	checkGroups(t, "nulls alone", s, only("1 1 null null; 2 2 null null"), 1, 2, [4]string{"null 0", "null null", "null null", "null null"})
	checkGroups(t, "one row", s, only("1 1 '' 0"), 1, 2, [4]string{"'' 1", "'' 0", "'' 0", "'' 0"})
	checkGroups(t, "a sum of 0", s, only("1 1 'a' 5; 2 2 'a' null; 3 3 'a' -5; 4 4 'b' null"), 1, 2, [4]string{"'a' 2; 'b' 0", "'a' 0; 'b' null", "'a' -5; 'b' null", "'a' 5; 'b' null"})
	checkGroups(t, "texts as bytes", s, only("1 7 '9' 1; 2 7 '10' 1; 3 7 'a' 1; 4 7 '%ff' 1; 5 7 'B' 1; 6 7 null 1"), 0, 1, [4]string{"7 5", noLines, "7 '10'", "7 '%ff'"})
	checkGroups(t, "texts rise", s, only("1 1 '9' 1; 2 2 '10' 2; 3 3 'a' 3; 4 4 '%ff' 4; 5 5 'B' 5; 6 6 null 6; 7 7 '9' 7"), 1, 2, [4]string{"null 1; '10' 1; '9' 2; 'B' 1; 'a' 1; '%ff' 1", "null 6; '10' 2; '9' 8; 'B' 5; 'a' 3; '%ff' 4", "null 6; '10' 2; '9' 1; 'B' 5; 'a' 3; '%ff' 4", "null 6; '10' 2; '9' 7; 'B' 5; 'a' 3; '%ff' 4"})
	for i, want := range []string{"2 1; 4 1; 9 1", "2 2; 4 4; 9 9", "2 2; 4 4; 9 9", "2 2; 4 4; 9 9"} {
		l, ok := impl.Grouped(s, db, 1, 0, 0, int64(i+1))
		checkLines(t, fmt.Sprint("another table, how ", i+1), l, ok, want)
	}
}

// TestSumsRowByRow: a sum is too great where it is so on the way, row by row, by Id.
func TestSumsRowByRow(t *testing.T) {
	for rows, want := range map[string]string{
		"1 1 'a' 1000000000":                                       "'a' 1000000000",
		"1 1 'a' 999999999; 2 2 'a' 1":                             "'a' 1000000000",
		"1 1 'a' 1000000000; 2 2 'a' 1":                            noLines,
		"1 1 'a' 1; 2 2 'a' 1000000000":                            noLines,
		"1 1 'a' -1000000000; 2 2 'a' -1":                          noLines,
		"1 1 'a' -999999999; 2 2 'a' -1":                           "'a' -1000000000",
		"1 1 'a' 1000000000; 2 2 'a' 1; 3 3 'a' -5":                noLines,
		"1 1 'a' -5; 2 2 'a' 1000000000; 3 3 'a' 1":                "'a' 999999996",
		"1 1 'a' 1000000000; 2 2 'a' -5; 3 3 'a' 1":                "'a' 999999996",
		"1 1 'a' -1000000000; 2 2 'a' -1; 3 3 'a' 5":               noLines,
		"1 1 'a' 1000000000; 2 2 'b' 1; 3 3 'a' null; 4 4 null 5":  "null 5; 'a' 1000000000; 'b' 1",
		"1 1 'a' 1000000000; 2 2 'b' 1; 3 3 'a' 1; 4 4 'c' 5":      noLines,
		"1 9 'b' 7; 2 2 'c' 1000000000; 3 3 'c' 1; 4 4 'a' 5":      noLines,
		"1 9 'b' 7; 2 8 'b' 1000000000; 3 3 'b' -8; 4 4 'a' 5":     noLines,
		"1 9 'b' -8; 2 8 'b' 1000000000; 3 3 'b' 8; 4 4 'a' 5":     "'a' 5; 'b' 1000000000",
		"1 1 'b' 1000000000; 2 2 'a' 1000000000; 3 3 null -999999": "null -999999; 'a' 1000000000; 'b' 1000000000",
	} {
		l, ok := impl.Grouped(stall(), only(rows), 0, 1, 2, impl.AgSum)
		checkLines(t, rows, l, ok, want)
		// It is the sum alone that may be too great.
		for _, how := range []int64{impl.AgCount, impl.AgMin, impl.AgMax} {
			if _, ok := impl.Grouped(stall(), only(rows), 0, 1, 2, how); !ok {
				t.Errorf("%s, how %d: false", rows, how)
			}
		}
	}
	// In any other order some of these would be too great on the way.
	var full impl.Data
	for i := range int64(impl.MaxRows) {
		full.Rows = append(full.Rows, row(i+1, num(i), text(strconv.FormatInt(i/2%2, 10)), num(impl.MaxNum*(1-i%2*2))))
	}
	l, ok := impl.Grouped(stall(), []impl.Data{full, {}, {}, {}}, 0, 1, 2, impl.AgSum)
	checkLines(t, "up and down", l, ok, "'0' 0; '1' 0")
}

// TestSumsOfTexts: a sum is of texts where a text is among its values, whatever stands in other rows.
func TestSumsOfTexts(t *testing.T) {
	for rows, want := range map[string]string{
		"1 1 'a' 1": noLines, "1 1 null 1; 2 1 'a' 1": noLines, "1 1 'a' 1; 2 2 null 1": noLines, "1 1 null 1; 2 2 '' 1": noLines,
		"1 1 null 1; 2 1 null 5; 3 2 null 1": "1 null; 2 null", "": "",
	} {
		l, ok := impl.Grouped(stall(), only(rows), 0, 0, 1, impl.AgSum)
		checkLines(t, rows, l, ok, want)
	}
}

func TestGroupsThatAreNotRight(t *testing.T) {
	s, db := stall(), dbOf(stallDb)
	wrong := []int64{-1, math.MaxInt64, math.MinInt64, 1 << 32, 1<<32 + 1}
	check := func(what string, s []impl.Table, db []impl.Data, table int64, by int64, column int64, how int64) {
		t.Helper()
		l, ok := impl.Grouped(s, db, table, by, column, how)
		checkLines(t, what, l, ok, noLines)
	}
	for _, how := range append(wrong, 0, 5, 6) {
		check(fmt.Sprint("how ", how), s, db, 0, 0, 0, how)
		check(fmt.Sprint("of no rows, how ", how), s, db, 2, 0, 0, how)
	}
	for how := range int64(4) {
		for _, place := range append(wrong, 4) {
			check(fmt.Sprint("table ", place), s, db, place, 0, 0, how+1)
		}
		for _, column := range append(wrong, 3, 7) {
			check(fmt.Sprint("by ", column), s, db, 0, column, 0, how+1)
			check(fmt.Sprint("column ", column), s, db, 0, 0, column, how+1)
		}
		check("by, of no rows", s, db, 2, 1, 0, how+1)
		check("column, of no rows", s, db, 2, 0, 1, how+1)
		check("no tables", nil, nil, 0, 0, 0, how+1)
	}
}

func TestLinesText(t *testing.T) {
	line := func(vals ...impl.Val) impl.Line { return impl.Line{Vals: vals} }
	for i, c := range []struct {
		l    []impl.Line
		want string
	}{
		{nil, ""}, {[]impl.Line{}, ""}, {[]impl.Line{{}}, "\n"}, {[]impl.Line{{}, {Vals: []impl.Val{}}}, "\n\n"},
		{[]impl.Line{line(num(1))}, "1\n"}, {[]impl.Line{line(num(-1), impl.Val{}, text("a"))}, "-1 null 'a'\n"},
		{[]impl.Line{line(num(1), num(2)), {}, line(text(""), text(" "), text("a,'\n%"))}, "1 2\n\n'' '%20' 'a%2c%27%0a%25'\n"},
		{[]impl.Line{line(nulls(widest)...)}, strings.TrimSuffix(strings.Repeat("null ", widest), " ") + "\n"},
		{[]impl.Line{line(nulls(widest + 1)...)}, ""},
		{[]impl.Line{line(num(1)), line(nulls(widest + 1)...), line(num(1))}, ""},
		{[]impl.Line{line(num(1)), line(nulls(100000)...)}, ""},
	} {
		if got := impl.LinesText(c.l); got != c.want {
			t.Errorf("case %d: %q, want %q", i, got, c.want)
		}
	}
	for _, v := range rising() {
		if got := impl.LinesText([]impl.Line{line(v), line(v, v)}); got != impl.ValText(v)+"\n"+impl.ValText(v)+" "+impl.ValText(v)+"\n" {
			t.Errorf("%#v: %q", v, got)
		}
	}
	for _, v := range wrongVals() {
		for _, l := range [][]impl.Line{{line(v)}, {line(num(1)), line(num(1), v)}, {line(v, num(1)), line(num(1))}, {line(), line(num(1), v, num(1)), line()}} {
			if got := impl.LinesText(l); got != "" {
				t.Errorf("%#v: %q", v, got)
			}
		}
	}
	for _, one := range []impl.Line{{}, line(num(7)), line(slices.Repeat([]impl.Val{text("\xff\xff\xff\xff\xff\xff\xff\xff\xff\xff\xff\xff")}, widest)...)} {
		want := impl.LinesText([]impl.Line{one})
		if got := impl.LinesText(slices.Repeat([]impl.Line{one}, 4000)); got != strings.Repeat(want, 4000) {
			t.Errorf("4000 lines: %d bytes", len(got))
		}
		if got := impl.LinesText(slices.Repeat([]impl.Line{one}, 4001)); got != "" {
			t.Errorf("4001 lines: %d bytes", len(got))
		}
	}
}

// selected is RunSelect told once more.
func (m *model) selected(table int, q impl.Select) string {
	var rows []impl.Row
	for _, r := range m.db[table].Rows {
		truth := int64(impl.TruYes)
		if len(q.Where) > 0 {
			truth = impl.Truth(q.Where, r.Vals)
		}
		if truth < 0 {
			return noLines
		}
		if truth != impl.TruYes {
			continue
		}
		// Behind all that are not behind it: the Ids rise.
		at := len(rows)
		for at > 0 && isAhead(pick(r.Vals, q.By), pick(rows[at-1].Vals, q.By)) {
			at--
		}
		rows = slices.Insert(rows, at, r)
	}
	var l []impl.Line
	for i := 0; i < len(rows) && int64(i) < q.Most; i++ {
		var line impl.Line
		for _, term := range q.Terms {
			v, ok := impl.Eval(term.Expr, rows[i].Vals)
			if !ok {
				return noLines
			}
			line.Vals = append(line.Vals, v)
		}
		l = append(l, line)
	}
	return linesText(l, true)
}

// isAhead is of two lists of as many values.
func isAhead(a []impl.Val, b []impl.Val) bool {
	for i := range a {
		if o := impl.Order(a[i], b[i]); o != 0 {
			return o < 0
		}
	}
	return false
}

// joined is JoinOn told once more.
func (m *model) joined(a int, b int, on []impl.Tok) string {
	var l []impl.Line
	for _, left := range m.db[a].Rows {
		for _, right := range m.db[b].Rows {
			pair := append(slices.Clone(left.Vals), right.Vals...)
			switch impl.Truth(on, pair) {
			case impl.TruYes:
				l = append(l, impl.Line{Vals: pair})
			case -1:
				return noLines
			}
		}
	}
	return linesText(l, true)
}

// grouped is Grouped told once more: value by value.
func (m *model) grouped(table int, by int64, column int64, how int64) string {
	var values []impl.Val
	for _, r := range m.db[table].Rows {
		if !slices.Contains(values, r.Vals[by]) {
			values = append(values, r.Vals[by])
		}
	}
	slices.SortFunc(values, func(a impl.Val, b impl.Val) int { return int(impl.Order(a, b)) })
	var l []impl.Line
	for _, value := range values {
		var of []impl.Val
		for _, r := range m.db[table].Rows {
			if r.Vals[by] == value && r.Vals[column] != (impl.Val{}) {
				of = append(of, r.Vals[column])
			}
		}
		told, ok := tallied(of, how)
		if !ok {
			return noLines
		}
		l = append(l, impl.Line{Vals: []impl.Val{value, told}})
	}
	return linesText(l, true)
}

func tallied(of []impl.Val, how int64) (impl.Val, bool) {
	switch {
	case how == impl.AgCount:
		return num(int64(len(of))), true
	case len(of) == 0:
		return impl.Val{}, true
	case how == impl.AgMin || how == impl.AgMax:
		slices.SortFunc(of, func(a impl.Val, b impl.Val) int { return int(impl.Order(a, b)) })
		return of[(len(of)-1)*int(how-impl.AgMin)], true
	}
	sum := int64(0)
	for _, v := range of {
		sum += v.N
		if v.Kind == impl.VText || sum > impl.MaxNum || sum < -impl.MaxNum {
			return impl.Val{}, false
		}
	}
	return num(sum), true
}

// oneOf throws for one of these.
func oneOf[T any](d *dice, l []T) T { return l[d.below(len(l))] }

// stallDb has any rows at all in p and c.
func (d *dice) stallDb() []impl.Data {
	db := make([]impl.Data, 4)
	keys, texts, numbers := valsOf("1 2 3 4 null -7"), valsOf("'a' 'b' '' null 'B'"), valsOf("0 1 2 -1 null 5 7 -3 null")
	if d.below(3) == 0 {
		numbers = append(numbers, valsOf("1000000000 -1000000000 999999999")...)
	}
	for id := range int64(d.below(12)) {
		db[0].Rows = append(db[0].Rows, row(2*id+1, oneOf(d, keys), oneOf(d, texts), oneOf(d, numbers)))
	}
	for id := range int64(d.below(4)) {
		db[1].Rows = append(db[1].Rows, row(3*id+2, oneOf(d, keys)))
	}
	return db
}

// query is a right one of p.
func (d *dice) query(t *testing.T) impl.Select {
	wheres := []string{"", "", "", "1", "0", "null", "#2", "#2 2 <", "#1 'a' =", "#1 isnull not", "#2 1 +", "#0 #2 <", "#1", "#2 #0 - 0 <", "#2 isnull #0 3 < or"}
	terms := []string{"#0", "#1", "#2", "#2 1 +", "#0 #2 +", "#1 'b' <", "null", "'x'", "#1 1 +", "#2 isnull", "#2 not"}
	columns := []int64{0, 1, 2}
	for i := range columns {
		k := d.below(3)
		columns[i], columns[k] = columns[k], columns[i]
	}
	q := selecting(t, "p", oneOf(d, wheres), columns[:d.below(4)], int64(d.below(14)), oneOf(d, terms))
	for range d.below(3) {
		q.Terms = append(q.Terms, impl.Term{Expr: read(t, oneOf(d, terms))})
	}
	return q
}

func TestQueriesAgainstTheModel(t *testing.T) {
	d := dice(41)
	met := map[string]int{}
	ons := []string{"1", "#0 #3 =", "#0 #3 <", "#1 isnull", "#2 #3 + 3 <", "#2 #3 = not", "#1", "#0 isnull #3 isnull and", "#2"}
	for i := range 4000 {
		s, db := stall(), d.stallDb()
		m := model{s, db}
		q := d.query(t)
		l, ok := impl.RunSelect(s, db, q)
		checkLines(t, fmt.Sprintf("%d: %+v of %s", i, q, dbText(db)), l, ok, m.selected(0, q))
		met[fmt.Sprint("select ", ok, len(l) > 0)]++
		on := oneOf(&d, ons)
		l, ok = impl.JoinOn(s, db, 0, 1, read(t, on))
		checkLines(t, fmt.Sprintf("%d: join on %s of %s", i, on, dbText(db)), l, ok, m.joined(0, 1, read(t, on)))
		met[fmt.Sprint("join ", ok, len(l) > 0)]++
		by, column, how := int64(d.below(3)), int64(d.below(3)), int64(1+d.below(4))
		l, ok = impl.Grouped(s, db, 0, by, column, how)
		checkLines(t, fmt.Sprintf("%d: by %d, column %d, how %d of %s", i, by, column, how, dbText(db)), l, ok, m.grouped(0, by, column, how))
		met[fmt.Sprint("groups ", ok, len(l) > 0)]++
		if t.Failed() {
			return
		}
	}
	for _, what := range []string{"select", "join", "groups"} {
		for _, how := range []string{"true true", "true false", "false false"} {
			if met[what+" "+how] < 50 {
				t.Errorf("%s %s: met %d times", what, how, met[what+" "+how])
			}
		}
	}
}

// TestQueriesLeaveNothingRunning asks for what is refused at the first row, in the middle and at the last one.
func TestQueriesLeaveNothingRunning(t *testing.T) {
	s := stall()
	before := runtime.NumGoroutine()
	for id := range impl.MaxRows {
		db := []impl.Data{many(impl.MaxRows), many(impl.MaxRows), {}, {}}
		for i := range db[1].Rows {
			db[1].Rows[i].Vals = []impl.Val{num(1)}
		}
		db[0].Rows[id].Vals[2] = num(impl.MaxNum)
		l, ok := impl.RunSelect(s, db, selecting(t, "p", "", nil, impl.MaxRows, "#2 1 +"))
		checkLines(t, "select", l, ok, noLines)
		l, ok = impl.JoinOn(s, db, 0, 1, read(t, "#2 #3 +"))
		checkLines(t, "join", l, ok, noLines)
		l, ok = impl.Grouped(s, db, 0, 1, 2, impl.AgSum)
		checkLines(t, "groups", l, ok, noLines)
	}
	// The last ones may be on their way out yet.
	for range 500 {
		if runtime.NumGoroutine() <= before {
			return
		}
		time.Sleep(10 * time.Millisecond)
	}
	t.Errorf("%d goroutines more than before", runtime.NumGoroutine()-before)
}

// TestQueriesSideBySide: the same arguments give the same answers, whoever else asks with them.
func TestQueriesSideBySide(t *testing.T) {
	s, db := stall(), []impl.Data{many(impl.MaxRows), many(9), {}, {}}
	for i := range db[1].Rows {
		db[1].Rows[i].Vals = db[1].Rows[i].Vals[:1]
	}
	ask := func() string {
		l, ok := impl.RunSelect(s, db, selecting(t, "p", "#2 5 <", []int64{1, 2}, 40, "#0", "#1"))
		j, joins := impl.JoinOn(s, db, 0, 1, read(t, "#2 #3 ="))
		g, groups := impl.Grouped(s, db, 0, 1, 2, impl.AgSum)
		return linesText(l, ok) + "\n" + linesText(j, joins) + "\n" + linesText(g, groups)
	}
	want := ask()
	answers := make([]string, 40)
	var group sync.WaitGroup
	for i := range answers {
		group.Go(func() { answers[i] = ask() })
	}
	group.Wait()
	for i, got := range answers {
		if got != want {
			t.Errorf("answer %d: %s, want %s", i, got, want)
		}
	}
}
