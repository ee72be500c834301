package tests

import (
	"math"
	"slices"
	"strconv"
	"strings"
	"testing"

	"loop.example/g00570/impl"
)

var policies = []int64{impl.PoAbort, impl.PoFail, impl.PoIgnore, impl.PoReplace, impl.PoRollback}

// inserting has rows with a ; between.
func inserting(policy int64, table string, rows ...string) impl.Stmt {
	x := impl.Stmt{Kind: impl.StInsert, Table: table, Policy: policy}
	for _, r := range rows {
		x.Rows = append(x.Rows, impl.Row{Vals: valsOf(r)})
	}
	return x
}

// condition is that of a text, or none.
func condition(t *testing.T, where string) []impl.Tok {
	t.Helper()
	if where == "" {
		return nil
	}
	return read(t, where)
}

// updating has sets with a = between the column and the expression.
func updating(t *testing.T, policy int64, table string, where string, sets ...string) impl.Stmt {
	t.Helper()
	x := impl.Stmt{Kind: impl.StUpdate, Table: table, Where: condition(t, where), Policy: policy}
	for _, set := range sets {
		c, e, _ := strings.Cut(set, "=")
		n, _ := strconv.ParseInt(c, 10, 64)
		x.Sets = append(x.Sets, impl.Set{Col: n, Expr: read(t, e)})
	}
	return x
}

func deleting(t *testing.T, policy int64, table string, where string) impl.Stmt {
	t.Helper()
	return impl.Stmt{Kind: impl.StDelete, Table: table, Where: condition(t, where), Policy: policy}
}

// asItWas stands for the database ahead of the statement.
const asItWas = "as it was"

func checkExec(t *testing.T, what string, s []impl.Table, db string, x impl.Stmt, wantCode int64, wantDone int64, want string) {
	t.Helper()
	if !impl.StmtOk(s, x) {
		t.Errorf("%s: the statement is not right", what)
	}
	if want == asItWas {
		want = db
	}
	got, code, done := impl.Exec(s, dbOf(db), x)
	if code != wantCode || done != wantDone || dbText(got) != dbText(dbOf(want)) {
		t.Errorf("%s: code %d, %d rows, %q, want %d, %d, %q", what, code, done, dbText(got), wantCode, wantDone, dbText(dbOf(want)))
	}
	if impl.SoundNow(s, dbOf(db)) && !impl.SoundNow(s, got) {
		t.Errorf("%s: %q is not sound for now", what, dbText(got))
	}
}

func checkStmt(t *testing.T, what string, s []impl.Table, x impl.Stmt, want bool) {
	t.Helper()
	if got := impl.StmtOk(s, x); got != want {
		t.Errorf("%s: StmtOk is %v, want %v", what, got, want)
	}
	db, right := impl.DbNew(s)
	got, code, done := impl.Exec(s, db, x)
	if want != (code != impl.EcForm) || !want && (len(got) != 0 || done != 0) || right && want && len(got) != len(db) {
		t.Errorf("%s: Exec is %v, %d, %d", what, got, code, done)
	}
}

// rightStmts has one of each kind for town.
func rightStmts(t *testing.T) []impl.Stmt {
	return []impl.Stmt{
		inserting(impl.PoAbort, "town", "'x' 1 'de'", "null null null"),
		updating(t, impl.PoAbort, "town", "#1 1 =", "1=#1 1 +", "0='y'"),
		deleting(t, impl.PoAbort, "town", "#1 isnull"),
	}
}

func TestStmtOk(t *testing.T) {
	s := town()
	for i, x := range rightStmts(t) {
		for policy := int64(-2); policy < 8; policy++ {
			x.Policy = policy
			checkStmt(t, "policy "+strconv.Itoa(int(policy)), s, x, slices.Contains(policies, policy))
		}
		for _, policy := range []int64{math.MaxInt64, math.MinInt64, 1 << 32} {
			x.Policy = policy
			checkStmt(t, "a policy that is none", s, x, false)
		}
		x.Policy = impl.PoFail
		for _, name := range []string{"", "x", "Town", "towns", "tow", "name"} {
			y := x
			y.Table = name
			checkStmt(t, "table "+name, s, y, false)
		}
		for _, kind := range []int64{-1, 0, 1, 2, 3, 4, math.MaxInt64, math.MinInt64, 1 << 32, 1<<32 + 1} {
			y := x
			y.Kind = kind
			// What deletes may be an update without sets, too.
			checkStmt(t, "another kind", s, y, kind == x.Kind || i == 2 && kind == impl.StUpdate)
		}
		wrong := town()
		wrong[2].Fks[0].Table = "x"
		checkStmt(t, "a schema that is not right", wrong, x, false)
		checkStmt(t, "a schema without tables", nil, x, false)
		y := x
		y.Rows, y.Where, y.Sets = nil, nil, nil
		checkStmt(t, "nothing but a kind, a table and a policy", s, y, true)
		y = x
		y.Table = "visit"
		checkStmt(t, "another table", s, y, i == 2 || i == 1)
	}
}

// TestFieldsOfAnotherKind: each field is empty where the kind has it not.
func TestFieldsOfAnotherKind(t *testing.T) {
	s, l := town(), rightStmts(t)
	for i, x := range l {
		rows, where, sets := x, x, x
		rows.Rows = l[0].Rows
		where.Where = l[2].Where
		sets.Sets = l[1].Sets
		checkStmt(t, "with rows", s, rows, i == 0)
		checkStmt(t, "with a condition", s, where, i != 0)
		checkStmt(t, "with sets", s, sets, i == 1)
		// What is empty is not more than nothing.
		x.Rows, x.Where, x.Sets = append([]impl.Row{}, x.Rows...), append([]impl.Tok{}, x.Where...), append([]impl.Set{}, x.Sets...)
		checkStmt(t, "with empty lists", s, x, true)
	}
}

func TestRowsOfAnInsert(t *testing.T) {
	s := town()
	for n := range 12 {
		x := impl.Stmt{Kind: impl.StInsert, Table: "town", Rows: slices.Repeat([]impl.Row{{Vals: valsOf("'x' 1 'de'")}}, n)}
		checkStmt(t, strconv.Itoa(n)+" rows", s, x, n <= 8)
		for k := range n {
			y := x
			y.Rows = slices.Clone(x.Rows)
			y.Rows[k].Vals = valsOf("1 1 'de'")
			checkStmt(t, "a row that does not fit", s, y, false)
			y.Rows[k].Vals = nulls(3)
			checkStmt(t, "a row of nulls", s, y, n <= 8)
			for _, id := range []int64{1, -1, impl.MaxNum, 1 << 32} {
				y.Rows[k].Id = id
				checkStmt(t, "a row with an Id", s, y, false)
			}
		}
	}
	for _, vals := range [][]impl.Val{nil, nulls(2), nulls(4), valsOf("'x' 'x' 'de'"), nulls(1000)} {
		checkStmt(t, "a row that does not fit", s, impl.Stmt{Kind: impl.StInsert, Table: "town", Rows: []impl.Row{{Vals: vals}}}, false)
	}
	for _, v := range wrongVals() {
		checkStmt(t, "a value that is not right", s, impl.Stmt{Kind: impl.StInsert, Table: "town", Rows: []impl.Row{{Vals: []impl.Val{v, num(1), text("de")}}}}, false)
	}
}

// wrongExprs has expressions that are not right for three columns, none of them empty.
func wrongExprs() [][]impl.Tok {
	return [][]impl.Tok{
		{col(3)}, {col(-1)}, {col(math.MaxInt64)}, {opTok(impl.EtNot)}, {col(0), col(1)}, {col(0), opTok(impl.EtEq)}, {{}}, {{Kind: 11}},
		{constant(num(impl.MaxNum + 1))}, {{Kind: impl.EtCol, V: num(1)}}, {{Kind: impl.EtConst, Col: 1}}, chain(impl.MaxToks + 1), {col(0), col(3), opTok(impl.EtAnd)},
	}
}

func TestConditionsAndSets(t *testing.T) {
	s := town()
	for _, x := range rightStmts(t)[1:] {
		for _, e := range wrongExprs() {
			x.Where = e
			checkStmt(t, "a condition that is not right", s, x, false)
		}
		for _, e := range [][]impl.Tok{nil, {col(2)}, {constant(text("a"))}, {constant(impl.Val{})}, chain(impl.MaxToks)} {
			x.Where = e
			checkStmt(t, "a condition that is right", s, x, true)
		}
	}
	set := func(c int64, e ...impl.Tok) impl.Set { return impl.Set{Col: c, Expr: e} }
	one := constant(num(1))
	for what, c := range map[string]struct {
		sets []impl.Set
		want bool
	}{
		"none": {nil, true}, "one": {[]impl.Set{set(2, one)}, true}, "all": {[]impl.Set{set(2, one), set(0, one), set(1, col(2))}, true}, "the longest": {[]impl.Set{set(0, chain(impl.MaxToks)...)}, true},
		"a text for a number": {[]impl.Set{set(1, constant(text("a")))}, true},
		"a column twice":      {[]impl.Set{set(1, one), set(1, one)}, false}, "a column twice, apart": {[]impl.Set{set(1, one), set(0, one), set(1, col(1))}, false},
		"more than columns": {[]impl.Set{set(0, one), set(1, one), set(2, one), set(0, one)}, false},
		"a column too many": {[]impl.Set{set(3, one)}, false}, "a second column too many": {[]impl.Set{set(0, one), set(3, one)}, false}, "a column below 0": {[]impl.Set{set(-1, one)}, false},
		"a great column": {[]impl.Set{set(math.MaxInt64, one)}, false}, "the least column": {[]impl.Set{set(math.MinInt64, one)}, false}, "a column that wraps": {[]impl.Set{set(1<<32, one)}, false},
		"no expression": {[]impl.Set{set(1)}, false}, "no second expression": {[]impl.Set{set(1, one), set(0)}, false},
	} {
		checkStmt(t, what, s, impl.Stmt{Kind: impl.StUpdate, Table: "town", Sets: c.sets}, c.want)
	}
	for _, e := range wrongExprs() {
		checkStmt(t, "a set that is not right", s, impl.Stmt{Kind: impl.StUpdate, Table: "town", Sets: []impl.Set{set(1, one), set(0, e...)}}, false)
	}
}

func TestExecOfDbsThatAreNotRight(t *testing.T) {
	for _, x := range rightStmts(t) {
		for i, change := range []func(s []impl.Table, db []impl.Data){
			func(s []impl.Table, db []impl.Data) { s[0].Name = "" },
			func(s []impl.Table, db []impl.Data) { s[2].Fks[0].Table = "x" },
			func(s []impl.Table, db []impl.Data) { db[0].Rows[0].Id = 0 },
			func(s []impl.Table, db []impl.Data) { db[2].Rows[1].Vals = nil },
			func(s []impl.Table, db []impl.Data) { db[1].Rows[3].Id++ },
		} {
			s, db := town(), townDb()
			change(s, db)
			if got, code, done := impl.Exec(s, db, x); !isForm(code) || len(got) != 0 || done != 0 {
				t.Errorf("change %d: %v, %d, %d", i, got, code, done)
			}
		}
		for _, db := range [][]impl.Data{nil, townDb()[:2], append(townDb(), impl.Data{})} {
			if got, code, done := impl.Exec(town(), db, x); !isForm(code) || len(got) != 0 || done != 0 {
				t.Errorf("%d Data: %v, %d, %d", len(db), got, code, done)
			}
		}
	}
	if got, code, done := impl.Exec(nil, nil, impl.Stmt{}); !isForm(code) || len(got) != 0 || done != 0 {
		t.Errorf("nothing at all: %v, %d, %d", got, code, done)
	}
}

func checkMatching(t *testing.T, s []impl.Table, db []impl.Data, table int64, where []impl.Tok, wantOk bool, want ...int64) {
	t.Helper()
	if got, ok := impl.Matching(s, db, table, where); ok != wantOk || !slices.Equal(got, want) {
		t.Errorf("Matching %q is %v, %v, want %v, %v", impl.ExprText(where), got, ok, want, wantOk)
	}
}

func TestMatching(t *testing.T) {
	s := []impl.Table{plain("o", 1), {Name: "t", Cols: []impl.Col{intCol("n"), notNull(textCol("s")), intCol("m")}, Key: []int64{1}, Checks: []impl.Check{{Expr: read(t, "#0 5 <")}}}}
	db := dbOf("1 7 / 2 0 'a' 1; 3 null 'b' 2; 5 1 'c' null; 8 -1 'a' 1000000000; 1000000000 9 'd' 0")
	for where, want := range map[string][]int64{
		"": {2, 3, 5, 8, impl.MaxNum}, "1": {2, 3, 5, 8, impl.MaxNum}, "0": nil, "null": nil, "-7": {2, 3, 5, 8, impl.MaxNum},
		// A number is true unless it is 0; a null is not known, and neither is what is held against it.
		"#0": {5, 8, impl.MaxNum}, "#0 not": {2}, "#0 isnull": {3}, "#0 #2 <": {2, 8}, "#0 #2 < not": {impl.MaxNum}, "#1 'a' =": {2, 8}, "#1 'b' <": {2, 8}, "#2 1 =": {2}, "#2 0 =": {impl.MaxNum},
		"#0 null =": nil, "null isnull": {2, 3, 5, 8, impl.MaxNum}, "#0 1 = #2 isnull and": {5}, "#0 isnull #2 isnull or": {3, 5}, "#0 0 < #0 0 < not or": {2, 5, 8, impl.MaxNum}, "#0 #0 +": {5, 8, impl.MaxNum},
	} {
		checkMatching(t, s, db, 1, condition(t, where), true, want...)
	}
	checkMatching(t, s, db, 0, condition(t, "#0 7 ="), true, 1)
	checkMatching(t, s, db, 0, []impl.Tok{}, true, 1)
	// No truth of one row, whichever it is, is no answer at all.
	for _, where := range []string{"'a'", "#1", "#1 not", "#2 1 + 0 <", "#2 1 +", "#0 1 = #1 or", "#1 #0 +", "#0 'a' -"} {
		checkMatching(t, s, db, 1, condition(t, where), false)
		checkMatching(t, s, make([]impl.Data, 2), 1, condition(t, where), true)
	}
	for _, id := range []int{0, 2, 4} {
		few := dbOf("/ 1 1 'a' 1; 2 1 'b' 1; 3 1 'c' 1; 4 1 'd' 1; 5 1 'e' 1")
		checkMatching(t, s, few, 1, condition(t, "#2 1 + 3 <"), true, 1, 2, 3, 4, 5)
		few[1].Rows[id].Vals[2] = num(impl.MaxNum)
		checkMatching(t, s, few, 1, condition(t, "#2 1 + 3 <"), false)
	}
}

func TestMatchingOfWhatIsNotRight(t *testing.T) {
	s, db := town(), townDb()
	for _, table := range []int64{-1, 3, math.MaxInt64, math.MinInt64, 1 << 32} {
		checkMatching(t, s, db, table, nil, false)
	}
	for _, e := range wrongExprs() {
		checkMatching(t, s, db, 0, e, false)
		checkMatching(t, s, make([]impl.Data, 3), 0, e, false)
	}
	checkMatching(t, s, db, 1, []impl.Tok{col(5), opTok(impl.EtNull)}, true, 2, 5)
	checkMatching(t, s, db, 1, []impl.Tok{col(6), opTok(impl.EtNull)}, false)
	checkMatching(t, s, db[:2], 0, nil, false)
	checkMatching(t, s[:1], db, 0, nil, false)
	checkMatching(t, nil, nil, 0, nil, false)
	wrong := townDb()
	wrong[2].Rows[1].Id = 1
	checkMatching(t, s, wrong, 0, nil, false)
	// Flaws do not matter.
	db[0].Rows[0].Vals = nulls(3)
	checkMatching(t, s, db, 0, nil, true, 2, 3, 9)
	checkMatching(t, s, db, 0, []impl.Tok{col(1), opTok(impl.EtNull)}, true, 2)
}

func TestExecOfOrdinaryStatements(t *testing.T) {
	s := shop(impl.FkCascade, impl.FkCascade, false)
	for _, policy := range policies {
		checkExec(t, "no rows", s, shopDb, inserting(policy, "p"), impl.EcOk, 0, asItWas)
		checkExec(t, "one row", s, shopDb, inserting(policy, "p", "3 30 'b'"), impl.EcOk, 1, "2 1 10 'a'; 4 2 20 null; 5 3 30 'b' / 1 5 1; 2 6 2; 7 7 1")
		checkExec(t, "two rows", s, shopDb, inserting(policy, "c", "1 1", "2 null"), impl.EcOk, 2, "2 1 10 'a'; 4 2 20 null / 1 5 1; 2 6 2; 7 7 1; 8 1 1; 9 2 null")
		checkExec(t, "most rows", s, "/", inserting(policy, "p", "1 1 null", "2 2 null", "3 3 null", "4 4 null", "5 5 null", "6 6 null", "7 7 null", "8 8 null"), impl.EcOk, 8,
			"1 1 1 null; 2 2 2 null; 3 3 3 null; 4 4 4 null; 5 5 5 null; 6 6 6 null; 7 7 7 null; 8 8 8 null /")
		checkExec(t, "a row that refers to the row ahead of it", tree(0, 0, false), "", inserting(policy, "t", "1 1", "2 1", "3 2"), impl.EcOk, 3, "1 1 1; 2 2 1; 3 3 2")
		checkExec(t, "delete all", s, shopDb, deleting(t, policy, "p", ""), impl.EcOk, 2, "/")
		checkExec(t, "delete some", s, shopDb, deleting(t, policy, "c", "#1 1 ="), impl.EcOk, 2, "2 1 10 'a'; 4 2 20 null / 2 6 2")
		checkExec(t, "delete with children", s, shopDb, deleting(t, policy, "p", "#0 1 ="), impl.EcOk, 1, "4 2 20 null / 2 6 2")
		checkExec(t, "delete none", s, shopDb, deleting(t, policy, "p", "#0 7 ="), impl.EcOk, 0, asItWas)
		checkExec(t, "delete what is not known", s, shopDb, deleting(t, policy, "p", "#2 'a' = not"), impl.EcOk, 0, asItWas)
		checkExec(t, "update all", s, shopDb, updating(t, policy, "p", "", "2='z'", "1=#1 1 +"), impl.EcOk, 2, "2 1 11 'z'; 4 2 21 'z' / 1 5 1; 2 6 2; 7 7 1")
		checkExec(t, "update some", s, shopDb, updating(t, policy, "p", "#2 isnull", "2='z'"), impl.EcOk, 1, "2 1 10 'a'; 4 2 20 'z' / 1 5 1; 2 6 2; 7 7 1")
		checkExec(t, "update a Key", s, shopDb, updating(t, policy, "p", "#0 1 =", "0=#0 2 +"), impl.EcOk, 1, "2 3 10 'a'; 4 2 20 null / 1 5 3; 2 6 2; 7 7 3")
		checkExec(t, "update none", s, shopDb, updating(t, policy, "p", "0", "2='z'"), impl.EcOk, 0, asItWas)
		checkExec(t, "no sets", s, shopDb, updating(t, policy, "p", ""), impl.EcOk, 2, asItWas)
		checkExec(t, "to a null", s, shopDb, updating(t, policy, "p", "", "2=null"), impl.EcOk, 2, "2 1 10 null; 4 2 20 null / 1 5 1; 2 6 2; 7 7 1")
		// Each set sees the values as they were.
		checkExec(t, "sets change places", s, shopDb, updating(t, policy, "c", "#0 6 =", "0=#1", "1=#0 4 -"), impl.EcOk, 1, "2 1 10 'a'; 4 2 20 null / 1 5 1; 2 2 2; 7 7 1")
		checkExec(t, "sets in another order", s, shopDb, updating(t, policy, "c", "#0 6 =", "1=#0 4 -", "0=#1"), impl.EcOk, 1, "2 1 10 'a'; 4 2 20 null / 1 5 1; 2 2 2; 7 7 1")
		checkExec(t, "a truth", s, shopDb, updating(t, policy, "p", "#0 2 =", "1=#2 isnull"), impl.EcOk, 1, "2 1 10 'a'; 4 2 1 null / 1 5 1; 2 6 2; 7 7 1")
	}
}

// expected is what comes of n rows when the one in this place is refused for code: how it ends, how many are done, and which of them.
func expected(policy int64, code int64, place int, n int) (int64, int64, []bool) {
	done := make([]bool, n)
	passed := code == impl.EcNull || code == impl.EcCheck || code == impl.EcUnique
	switch {
	case policy == impl.PoIgnore && passed:
		for i := range done {
			done[i] = i != place
		}
		return impl.EcOk, int64(n - 1), done
	case policy == impl.PoFail && code != impl.EcFk:
		for i := range place {
			done[i] = true
		}
		return code, int64(place), done
	}
	return code, 0, done
}

// faults is a table p in which a row may be refused for a null, a check, a unique and a reference to q.
func faults() []impl.Table {
	return []impl.Table{
		{
			Name: "p", Cols: []impl.Col{notNull(intCol("k")), intCol("u"), notNull(intCol("m")), intCol("f"), intCol("uu"), intCol("mm"), intCol("ff")}, Key: []int64{0},
			Uniques: []impl.Unique{{Cols: []int64{1}}},
			Checks:  []impl.Check{{Expr: []impl.Tok{col(2), constant(num(9)), opTok(impl.EtLess)}}},
			Fks:     []impl.Fk{{Cols: []int64{3}, Table: "q"}},
		},
		plain("q", 1),
	}
}

func TestPoliciesOfInserts(t *testing.T) {
	s := faults()
	bad := map[int64]string{impl.EcNull: "7 7 null 1", impl.EcCheck: "7 7 9 1", impl.EcUnique: "7 50 1 1", impl.EcFk: "7 7 1 8"}
	for code, badRow := range bad {
		for _, policy := range policies {
			for n := 1; n <= 3; n++ {
				for place := range n {
					rows := []string{"1 1 1 1 null null null", "2 2 2 1 null null null", "3 3 3 1 null null null"}[:n]
					rows[place] = badRow + " null null null"
					wantCode, wantDone, done := expected(policy, code, place, n)
					want := "4 9 50 1 1 null null null"
					if code == impl.EcUnique && policy == impl.PoReplace {
						wantCode, wantDone, done, want = impl.EcOk, int64(n), []bool{true, true, true}, ""
					}
					id := 4
					for i, row := range rows {
						if done[i] {
							id++
							want += ";" + strconv.Itoa(id) + " " + row
						}
					}
					what := "code " + strconv.Itoa(int(code)) + ", policy " + strconv.Itoa(int(policy)) + ", place " + strconv.Itoa(place)
					checkExec(t, what, s, "4 9 50 1 1 null null null / 1 1", inserting(policy, "p", rows...), wantCode, wantDone, want+"/ 1 1")
				}
			}
		}
	}
}

// TestPoliciesOfFullTables: EcFull comes with the row behind the last one that has room.
func TestPoliciesOfFullTables(t *testing.T) {
	s := tree(0, 0, false)
	for _, policy := range policies {
		for rows := impl.MaxRows - 3; rows <= impl.MaxRows; rows++ {
			room := impl.MaxRows - rows
			x := inserting(policy, "t", "101 null", "102 null", "103 null")
			code, done, want := int64(impl.EcOk), int64(3), line(rows)
			if room < 3 {
				code, done, _ = expected(policy, impl.EcFull, room, 3)
			}
			for i := range int(done) {
				want += ";" + strconv.Itoa(rows+i+1) + " " + strconv.Itoa(101+i) + " null"
			}
			checkExec(t, "room for "+strconv.Itoa(room), s, line(rows), x, code, done, want)
		}
		code, done, _ := expected(policy, impl.EcFull, 1, 2)
		want := "999999999 1 null"
		if done == 1 {
			want += "; 1000000000 2 null"
		}
		checkExec(t, "the last Id", s, "999999999 1 null", inserting(policy, "t", "2 null", "3 null"), code, done, want)
	}
	// The rivals make room.
	checkExec(t, "replaced in a full table", tree(impl.FkCascade, 0, false), line(impl.MaxRows), inserting(impl.PoReplace, "t", "60 null", "61 null"), impl.EcFull, 0, asItWas)
	checkExec(t, "replaced twice in a full table", tree(impl.FkCascade, 0, false), line(impl.MaxRows), inserting(impl.PoReplace, "t", "59 null", "61 null"), impl.EcOk, 2, line(58)+"; 61 59 null; 62 61 null")
}

func TestPoliciesOfUpdates(t *testing.T) {
	s := faults()
	good := []string{"11 2 1", "12 3 1", "13 4 1"}
	after := []string{"11 1 1", "12 2 1", "13 3 1"}
	// What stands in the last columns is set: a number less for the third.
	bad := map[int64]string{impl.EcNull: "19 null 1", impl.EcCheck: "19 10 1", impl.EcUnique: "50 2 1", impl.EcFk: "19 2 8", impl.EcEval: "19 -1000000000 1"}
	for code, from := range bad {
		for _, policy := range policies {
			for place := range 3 {
				wantCode, wantDone, done := expected(policy, code, place, 3)
				rival := "; 9 9 50 1 1 50 2 1"
				then := rival
				to := slices.Clone(after)
				if code == impl.EcUnique && policy == impl.PoReplace {
					wantCode, wantDone, done, then, to[place] = impl.EcOk, 3, []bool{true, true, true}, "", "50 1 1"
				}
				var db, want []string
				for i := range 3 {
					source := good[i]
					if i == place {
						source = from
					}
					now := strconv.Itoa(i+1) + " 5 1"
					id := strconv.Itoa(i + 1)
					db = append(db, id+" "+id+" "+now+" "+source)
					if done[i] {
						now = to[i]
					}
					want = append(want, id+" "+id+" "+now+" "+source)
				}
				x := updating(t, policy, "p", "#0 4 <", "1=#4", "2=#5 1 -", "3=#6")
				what := "code " + strconv.Itoa(int(code)) + ", policy " + strconv.Itoa(int(policy)) + ", place " + strconv.Itoa(place)
				checkExec(t, what, s, strings.Join(db, "; ")+rival+"/ 1 1", x, wantCode, wantDone, strings.Join(want, "; ")+then+"/ 1 1")
			}
		}
	}
}

// TestPoliciesOfDeletes: a row is refused because of the table in which it has a child.
func TestPoliciesOfDeletes(t *testing.T) {
	restrict, null, check, twice, deep := refTable("a", impl.Fk{Table: "p"}), refTable("b", impl.Fk{Table: "p", OnDelete: impl.FkNull}), refTable("c", impl.Fk{Table: "p", OnDelete: impl.FkNull}), refTable("d", impl.Fk{Table: "p", OnDelete: impl.FkNull}), refTable("p", impl.Fk{Table: "p", OnDelete: impl.FkCascade})
	null.Cols[1].NotNull = true
	check.Checks = []impl.Check{{Expr: read(t, "#1 isnull not")}}
	s := []impl.Table{deep, restrict, null, check, twice}
	line := "; 31 31 30; 32 32 31; 33 33 32; 34 34 33; 35 35 34; 36 36 35; 37 37 36; 38 38 37; 39 39 38; 40 40 39; 41 41 40; 42 42 41; 43 43 42"
	for code, table := range map[int64]string{impl.EcFk: "", impl.EcNull: "/", impl.EcCheck: "//", impl.EcUnique: "///", impl.EcDepth: ""} {
		for _, policy := range policies {
			for place := range 3 {
				keys := []string{"1", "2", "3"}
				child := "1 5 " + keys[place]
				// A child that has a rival already may not be changed.
				if code == impl.EcUnique {
					child += "; 2 5 null"
				}
				rest := "; 9 9 null"
				if code == impl.EcDepth {
					keys[place], child, rest = "30", "", rest+line
				}
				children := "/" + table + child + strings.Repeat("/", 3-len(table))
				wantCode, wantDone, done := expected(policy, code, place, 3)
				var db, want []string
				for i, key := range keys {
					row := strconv.Itoa(i+1) + " " + key + " null"
					db = append(db, row)
					if !done[i] {
						want = append(want, row)
					}
				}
				x := deleting(t, policy, "p", "#0 4 < #0 30 = or")
				what := "code " + strconv.Itoa(int(code)) + ", policy " + strconv.Itoa(int(policy)) + ", place " + strconv.Itoa(place)
				checkExec(t, what, s, strings.Join(db, "; ")+rest+children, x, wantCode, wantDone, strings.TrimPrefix(strings.Join(want, "; ")+rest, "; ")+children)
			}
		}
	}
}

// TestPoliciesOfRowsTakenByRivals: EcNone is told with replace alone, and undoes all.
func TestPoliciesOfRowsTakenByRivals(t *testing.T) {
	s := tree(impl.FkCascade, impl.FkCascade, false)
	const db = "1 1 null; 2 2 1; 3 5 null"
	checkExec(t, "alone", s, db, updating(t, impl.PoReplace, "t", "#0 2 =", "0=1"), impl.EcNone, 0, asItWas)
	checkExec(t, "behind another one", s, "1 9 null; 2 1 null; 3 2 1; 4 5 null", updating(t, impl.PoReplace, "t", "#0 9 = #0 2 = or", "0=#0 1 -"), impl.EcNone, 0, asItWas)
	checkExec(t, "without replace", s, db, updating(t, impl.PoFail, "t", "#0 2 =", "0=1"), impl.EcUnique, 0, asItWas)
	checkExec(t, "passed over", s, db, updating(t, impl.PoIgnore, "t", "", "0=1"), impl.EcOk, 1, asItWas)
}

// TestDepthOfStatements: each row of a statement is 0 deep.
func TestDepthOfStatements(t *testing.T) {
	for _, policy := range policies {
		for rows := impl.MaxDepth - 1; rows <= impl.MaxDepth+3; rows++ {
			code, done, _ := expected(policy, impl.EcDepth, 0, 1)
			want := line(rows)
			if rows <= impl.MaxDepth+1 {
				code, done, want = impl.EcOk, 1, ""
			}
			checkExec(t, "delete a line", tree(impl.FkCascade, 0, false), line(rows), deleting(t, policy, "t", "#0 1 ="), code, done, want)
		}
	}
	for rows := impl.MaxDepth - 1; rows <= impl.MaxDepth+2; rows++ {
		last := strconv.Itoa(rows + 1)
		code, done, put, changed := int64(impl.EcDepth), int64(0), asItWas, asItWas
		if rows <= impl.MaxDepth {
			code, done, put, changed = impl.EcOk, 1, last+" 1 null", "99 1 null"
		}
		s := tree(impl.FkCascade, 0, false)
		checkExec(t, "insert in place of a line", s, line(rows), inserting(impl.PoReplace, "t", "1 null"), code, done, put)
		checkExec(t, "update in place of a line", s, line(rows)+"; 99 99 null", updating(t, impl.PoReplace, "t", "#0 99 =", "0=1"), code, done, changed)
	}
}

// TestRowsThatAreGone: those that match at first are done, as long as they are there, and no others.
func TestRowsThatAreGone(t *testing.T) {
	cascade := tree(impl.FkCascade, impl.FkCascade, false)
	for _, policy := range policies {
		checkExec(t, "all, from the first", cascade, "1 1 null; 2 2 1; 3 3 2; 4 4 null", deleting(t, policy, "t", ""), impl.EcOk, 2, "")
		checkExec(t, "all, from the last", cascade, "1 1 2; 2 2 3; 3 3 null; 4 4 null", deleting(t, policy, "t", ""), impl.EcOk, 4, "")
		checkExec(t, "some", cascade, "1 1 null; 2 2 1; 3 3 2; 4 4 null", deleting(t, policy, "t", "#0 3 = #0 1 = or"), impl.EcOk, 1, "4 4 null")
		checkExec(t, "all of a ring", cascade, "1 1 3; 2 2 1; 3 3 2", deleting(t, policy, "t", ""), impl.EcOk, 1, "")
		// A row has the values that the rows ahead of it left.
		checkExec(t, "as it is then", cascade, "1 1 null; 2 2 1; 3 3 2", updating(t, policy, "t", "", "0=#0 10 +"), impl.EcOk, 3, "1 11 null; 2 12 11; 3 13 12")
		checkExec(t, "one that does not match any more", cascade, "1 1 1; 2 2 1; 3 3 2", updating(t, policy, "t", "#1 1 =", "0=#0 10 +"), impl.EcOk, 2, "1 11 11; 2 12 11; 3 3 12")
		checkExec(t, "one that matches only now", cascade, "1 1 null; 2 2 1; 3 3 null", updating(t, policy, "t", "#1 isnull #1 11 = or", "0=#0 10 +"), impl.EcOk, 2, "1 11 null; 2 2 11; 3 13 null")
	}
	nulls := tree(impl.FkNull, impl.FkCascade, false)
	checkExec(t, "a null that a row ahead left", nulls, "1 1 null; 2 2 1", deleting(t, impl.PoAbort, "t", "#0 1 ="), impl.EcOk, 1, "2 2 null")
	// With replace the rows ahead take out those behind them, which are not done.
	checkExec(t, "rivals in a line", cascade, "1 1 null; 2 2 null; 3 3 null; 4 4 null", updating(t, impl.PoReplace, "t", "", "0=#0 1 +"), impl.EcOk, 2, "1 2 null; 3 4 null")
	checkExec(t, "rivals in a line, down", cascade, "1 1 null; 2 2 null; 3 3 null; 4 4 null", updating(t, impl.PoReplace, "t", "", "0=#0 1 -"), impl.EcOk, 4, "1 0 null; 2 1 null; 3 2 null; 4 3 null")
	checkExec(t, "all to one Key", cascade, "1 1 null; 2 2 null; 3 3 null", updating(t, impl.PoReplace, "t", "", "0=2"), impl.EcOk, 2, "3 2 null")
	checkExec(t, "inserts replace one another", cascade, "1 5 null", inserting(impl.PoReplace, "t", "1 null", "1 1", "2 1", "2 5"), impl.EcOk, 4, "1 5 null; 3 1 1; 5 2 5")
	checkExec(t, "inserts replace one another, one is lost", cascade, "1 5 null", inserting(impl.PoReplace, "t", "1 null", "2 1", "1 2"), impl.EcFk, 0, asItWas)
}

// TestConditionsWithoutTruth: then nothing is done, whatever the policy and wherever the row.
func TestConditionsWithoutTruth(t *testing.T) {
	s := shop(impl.FkCascade, impl.FkCascade, false)
	const db = "1 1 10 'a'; 2 2 20 'b'; 3 3 1000000000 'c' / 1 5 1"
	for _, policy := range policies {
		for _, where := range []string{"'a'", "#2", "#1 1 + 5 < not", "#2 'a' + isnull", "#0 3 < #2 and"} {
			checkExec(t, "delete where "+where, s, db, deleting(t, policy, "p", where), impl.EcEval, 0, asItWas)
			checkExec(t, "update where "+where, s, db, updating(t, policy, "p", where, "2='z'"), impl.EcEval, 0, asItWas)
			checkExec(t, "no rows where "+where, s, "/", deleting(t, policy, "p", where), impl.EcOk, 0, asItWas)
		}
		// A truth that is not known is one.
		checkExec(t, "delete where null", s, db, deleting(t, policy, "p", "null"), impl.EcOk, 0, asItWas)
		checkExec(t, "update where null", s, db, updating(t, policy, "p", "#0 null =", "0=9"), impl.EcOk, 0, asItWas)
	}
}

// TestSetsWithoutAValue: one that is of another kind, or none at all.
func TestSetsWithoutAValue(t *testing.T) {
	s := shop(impl.FkCascade, impl.FkCascade, false)
	const db = "1 1 10 'a'; 2 2 20 'b'; 3 3 1000000000 'c' /"
	for _, policy := range policies {
		for set, other := range map[string]string{"2=1": "1=#1", "1='a'": "0=#0", "0=#2": "2=#2", "2=#0": "0=#0", "2=#2 isnull": "1=7", "2=#2 'a' +": "1=#1", "1=#2 1 +": "2=#2", "1=#2 not": "0=9", "1=1000000000 #0 +": "0=null"} {
			checkExec(t, "set "+set, s, db, updating(t, policy, "p", "", set), impl.EcEval, 0, asItWas)
			checkExec(t, "set "+set+", then another one", s, db, updating(t, policy, "p", "", set, other), impl.EcEval, 0, asItWas)
			checkExec(t, "set "+set+" behind another one", s, db, updating(t, policy, "p", "", other, set), impl.EcEval, 0, asItWas)
			checkExec(t, "none of set "+set, s, db, updating(t, policy, "p", "0", set), impl.EcOk, 0, asItWas)
		}
		// EcEval comes when the row's turn comes, ahead of what else is wrong with it.
		code, done, _ := expected(policy, impl.EcEval, 2, 3)
		want := db
		if done == 2 {
			want = "1 1 11 'a'; 2 2 21 'b'; 3 3 1000000000 'c' /"
		}
		checkExec(t, "too great", s, db, updating(t, policy, "p", "", "1=#1 1 +"), code, done, want)
		checkExec(t, "too great, and a check", s, db, updating(t, policy, "p", "#0 3 =", "0=9", "1=#1 1 +"), impl.EcEval, 0, asItWas)
		checkExec(t, "a text for a number, and a null", s, db, updating(t, policy, "p", "#0 3 =", "0=null", "1='a'"), impl.EcEval, 0, asItWas)
	}
}

// TestDefaultsByPolicy: with replace just when the policy says so.
func TestDefaultsByPolicy(t *testing.T) {
	s := shop(impl.FkCascade, impl.FkCascade, false)
	for _, policy := range policies {
		code, done, kept := expected(policy, impl.EcNull, 0, 1)
		insert, update := asItWas, asItWas
		if policy == impl.PoReplace {
			code, done, insert, update = impl.EcOk, 1, "1 1 10 'a'; 2 2 5 'b' /", "1 1 5 'a' /"
		}
		if kept[0] {
			t.Error("a row that is refused is done")
		}
		checkExec(t, "insert", s, "1 1 10 'a' /", inserting(policy, "p", "2 null 'b'"), code, done, insert)
		checkExec(t, "update", s, "1 1 10 'a' /", updating(t, policy, "p", "", "1=null"), code, done, update)
	}
}

// exec is chapter 7 told once more.
func (m *model) exec(x impl.Stmt) (int64, int64) { return m.execFired(nil, x) }

// execFired does with each row what it fires, too.
func (m *model) execFired(l []impl.Trigger, x impl.Stmt) (int64, int64) {
	table := int(impl.TableAt(m.s, x.Table))
	turns := x.Rows
	for _, r := range m.db[table].Rows {
		truth := int64(impl.TruYes)
		if len(x.Where) > 0 {
			truth = impl.Truth(x.Where, r.Vals)
		}
		if truth < 0 {
			return impl.EcEval, 0
		}
		if truth == impl.TruYes && x.Kind != impl.StInsert {
			turns = append(turns, impl.Row{Id: r.Id})
		}
	}
	first, done := m.db, int64(0)
	for _, turn := range turns {
		if x.Kind != impl.StInsert && m.at(table, turn.Id) < 0 {
			continue
		}
		ahead := m.db
		m.db = cloned(m.db)
		id := turn.Id
		if x.Kind == impl.StInsert {
			id = m.nextId(table)
		}
		old := m.vals(table, id)
		code := m.one(x, table, turn)
		if code == impl.EcOk {
			code = m.fire(l, table, x.Kind, old, m.vals(table, id), 0)
		}
		if code == impl.EcOk {
			done++
			continue
		}
		m.db = ahead
		if x.Policy == impl.PoIgnore && (code == impl.EcNull || code == impl.EcCheck || code == impl.EcUnique) {
			continue
		}
		if x.Policy == impl.PoFail && code != impl.EcFk {
			return code, done
		}
		m.db = first
		return code, 0
	}
	return impl.EcOk, done
}

func (m *model) one(x impl.Stmt, table int, turn impl.Row) int64 {
	switch x.Kind {
	case impl.StInsert:
		_, code := m.insert(table, turn.Vals, x.Policy == impl.PoReplace)
		return code
	case impl.StDelete:
		return m.take(table, turn.Id, 0)
	}
	old := m.db[table].Rows[m.at(table, turn.Id)].Vals
	vals := slices.Clone(old)
	for _, set := range x.Sets {
		v, ok := impl.Eval(set.Expr, old)
		if kind := m.s[table].Cols[set.Col].Kind; !ok || v.Kind != impl.VNull && v.Kind != kind {
			return impl.EcEval
		}
		vals[set.Col] = v
	}
	return m.change(table, turn.Id, vals, x.Policy == impl.PoReplace, 0)
}

// stmt is a right one.
func (d *dice) stmt(t *testing.T, s []impl.Table, db []impl.Data) impl.Stmt {
	table := d.below(len(s))
	x := impl.Stmt{Kind: int64(1 + d.below(3)), Table: s[table].Name, Policy: int64(d.below(5))}
	wheres := []string{"", "1", "#0 2 <", "#1 isnull", "#1 #0 = not", "#0 1 = #0 3 = or", "#1 2 <", "#1 4 = 'a' and"}
	exprs := []string{"#0 1 +", "#1 1 -", "#1", "#0", "null", "2", "0", "#1 isnull", "#0 1 =", "#0 #1 +", "'a'", "#1 1000000000 +"}
	switch x.Kind {
	case impl.StInsert:
		for range d.below(5) {
			x.Rows = append(x.Rows, impl.Row{Vals: d.row(s, db, table)})
		}
	case impl.StUpdate:
		for _, c := range []int64{1, 0}[d.below(2):] {
			x.Sets = append(x.Sets, impl.Set{Col: c, Expr: read(t, exprs[d.below(len(exprs))])})
		}
		x.Where = condition(t, wheres[d.below(len(wheres))])
	case impl.StDelete:
		x.Where = condition(t, wheres[d.below(len(wheres))])
	}
	return x
}

// TestStatementsAgainstTheModel does the same with many databases by the program and by the model.
func TestStatementsAgainstTheModel(t *testing.T) {
	d := dice(11)
	met := map[[3]int64]int{}
	for range 3000 {
		s := d.schema()
		db := d.soundDb(s)
		if d.below(4) == 0 {
			db = d.anyDb(s)
		}
		for range 10 {
			x := d.stmt(t, s, db)
			m := model{s, cloned(db)}
			code, done := m.exec(x)
			checkExec(t, "a statement", s, dbText(db), x, code, done, dbText(m.db))
			met[[3]int64{x.Kind, x.Policy, min(done, 2)}]++
			met[[3]int64{-x.Kind, x.Policy, code}]++
			db = m.db
		}
		if t.Failed() {
			return
		}
	}
	for kind := int64(impl.StInsert); kind <= impl.StDelete; kind++ {
		for _, policy := range policies {
			for done := range int64(3) {
				if n := met[[3]int64{kind, policy, done}]; n < 20 {
					t.Errorf("kind %d, policy %d: %d rows were done only %d times", kind, policy, done, n)
				}
			}
			for _, code := range []int64{impl.EcOk, impl.EcFk} {
				if n := met[[3]int64{-kind, policy, code}]; n < 20 {
					t.Errorf("kind %d, policy %d: code %d only %d times", kind, policy, code, n)
				}
			}
		}
	}
}

// TestPoFailDoesAsItsRowsOneByOne makes the calls of chapter 6 in place of the statement, up to the first one that is refused.
func TestPoFailDoesAsItsRowsOneByOne(t *testing.T) {
	d := dice(13)
	for range 3000 {
		s := d.schema()
		db := d.soundDb(s)
		table := int64(d.below(len(s)))
		x := impl.Stmt{Kind: impl.StInsert, Table: s[table].Name, Policy: impl.PoFail}
		for range d.below(9) {
			x.Rows = append(x.Rows, impl.Row{Vals: d.row(s, db, int(table))})
		}
		want, wantCode, wantDone := cloned(db), int64(impl.EcOk), int64(0)
		for _, r := range x.Rows {
			now, _, code := impl.InsertRow(s, want, table, r.Vals, false)
			if wantCode = code; code != impl.EcOk {
				break
			}
			want = now
			wantDone++
		}
		if wantCode == impl.EcFk {
			want, wantDone = db, 0
		}
		checkExec(t, "rows one by one", s, dbText(db), x, wantCode, wantDone, dbText(want))
	}
}
