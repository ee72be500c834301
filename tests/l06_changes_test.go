package tests

import (
	"math"
	"strconv"
	"strings"
	"testing"

	"loop.example/g00570/impl"
)

// valsOf reads values with a blank between.
func valsOf(s string) []impl.Val {
	var l []impl.Val
	for _, word := range strings.Fields(s) {
		v, ok := impl.ReadVal(word)
		if !ok {
			panic("no value: " + word)
		}
		l = append(l, v)
	}
	return l
}

// dbOf reads a database: tables with a / between, rows with a ; between, each an Id and its values.
func dbOf(s string) []impl.Data {
	var db []impl.Data
	for _, part := range strings.Split(s, "/") {
		var d impl.Data
		for _, line := range strings.Split(part, ";") {
			if l := valsOf(line); len(l) > 0 {
				d.Rows = append(d.Rows, impl.Row{Id: l[0].N, Vals: l[1:]})
			}
		}
		db = append(db, d)
	}
	return db
}

// dbText is what dbOf reads.
func dbText(db []impl.Data) string {
	var tables []string
	for _, d := range db {
		var rows []string
		for _, r := range d.Rows {
			words := []string{strconv.FormatInt(r.Id, 10)}
			for _, v := range r.Vals {
				words = append(words, impl.ValText(v))
			}
			rows = append(rows, strings.Join(words, " "))
		}
		tables = append(tables, strings.Join(rows, "; "))
	}
	return strings.Join(tables, "/")
}

func isForm(code int64) bool { return code == impl.EcForm }

// checkChanged holds the database that a change told against what it should be: the one ahead of it where it was refused, none for EcForm. One that was sound for now is so.
func checkChanged(t *testing.T, what string, s []impl.Table, db []impl.Data, got []impl.Data, code int64, wantCode int64, want string) {
	t.Helper()
	if wantCode != impl.EcOk {
		want = dbText(db)
	}
	if code != wantCode {
		t.Errorf("%s: code %d, want %d", what, code, wantCode)
		return
	}
	if isForm(code) {
		if len(got) != 0 {
			t.Errorf("%s: a database with EcForm", what)
		}
		return
	}
	if dbText(got) != dbText(dbOf(want)) || len(got) != len(db) {
		t.Errorf("%s: the database is %q, want %q", what, dbText(got), want)
	}
	if impl.SoundNow(s, db) && !impl.SoundNow(s, got) {
		t.Errorf("%s: %q is not sound for now", what, dbText(got))
	}
}

func checkInsert(t *testing.T, what string, s []impl.Table, db string, table int64, row string, replace bool, wantCode int64, wantId int64, want string) {
	t.Helper()
	got, id, code := impl.InsertRow(s, dbOf(db), table, valsOf(row), replace)
	checkChanged(t, what, s, dbOf(db), got, code, wantCode, want)
	if id != wantId {
		t.Errorf("%s: Id %d, want %d", what, id, wantId)
	}
}

func checkDelete(t *testing.T, what string, s []impl.Table, db string, table int64, id int64, wantCode int64, want string) {
	t.Helper()
	got, code := impl.DeleteRow(s, dbOf(db), table, id)
	checkChanged(t, what, s, dbOf(db), got, code, wantCode, want)
}

func checkUpdate(t *testing.T, what string, s []impl.Table, db string, table int64, id int64, row string, replace bool, wantCode int64, want string) {
	t.Helper()
	got, code := impl.UpdateRow(s, dbOf(db), table, id, valsOf(row), replace)
	checkChanged(t, what, s, dbOf(db), got, code, wantCode, want)
}

// shop is a table p of a Key, a unique number that has a Default, and a text, with a check, and c that refers to it.
func shop(del int64, upd int64, deferred bool) []impl.Table {
	n := notNull(intCol("n"))
	n.Default = num(5)
	return []impl.Table{
		{
			Name: "p", Cols: []impl.Col{notNull(intCol("k")), n, textCol("t")}, Key: []int64{0},
			Uniques: []impl.Unique{{Cols: []int64{1}}},
			Checks:  []impl.Check{{Expr: []impl.Tok{col(0), constant(num(9)), opTok(impl.EtLess)}}},
		},
		{
			Name: "c", Cols: []impl.Col{notNull(intCol("k")), intCol("p")}, Key: []int64{0},
			Fks: []impl.Fk{{Cols: []int64{1}, Table: "p", OnDelete: del, OnUpdate: upd, Deferred: deferred}},
		},
	}
}

const shopDb = "2 1 10 'a'; 4 2 20 null / 1 5 1; 2 6 2; 7 7 1"

// tree is a table t of a Key and a reference to itself.
func tree(del int64, upd int64, deferred bool) []impl.Table {
	return []impl.Table{{
		Name: "t", Cols: []impl.Col{notNull(intCol("k")), intCol("up")}, Key: []int64{0},
		Fks: []impl.Fk{{Cols: []int64{1}, Table: "t", OnDelete: del, OnUpdate: upd, Deferred: deferred}},
	}}
}

func TestInsertOneRow(t *testing.T) {
	s := shop(impl.FkRestrict, impl.FkRestrict, false)
	for _, c := range []struct {
		what, db string
		table    int64
		row      string
		code, id int64
		want     string
	}{
		{"the first", "/", 0, "1 10 'a'", impl.EcOk, 1, "1 1 10 'a' /"},
		{"behind a gap", shopDb, 0, "3 30 'a'", impl.EcOk, 5, "2 1 10 'a'; 4 2 20 null; 5 3 30 'a' / 1 5 1; 2 6 2; 7 7 1"},
		{"a negative Key", "/", 0, "-1 -1 null", impl.EcOk, 1, "1 -1 -1 null /"},
		{"one that refers", shopDb, 1, "8 2", impl.EcOk, 8, "2 1 10 'a'; 4 2 20 null / 1 5 1; 2 6 2; 7 7 1; 8 8 2"},
		{"one that refers to nothing", shopDb, 1, "8 null", impl.EcOk, 8, "2 1 10 'a'; 4 2 20 null / 1 5 1; 2 6 2; 7 7 1; 8 8 null"},
		{"one that is lost", shopDb, 1, "8 3", impl.EcFk, 0, ""},
		{"one that refers to an Id", shopDb, 1, "8 4", impl.EcFk, 0, ""},
		{"one that refers to a unique", shopDb, 1, "8 10", impl.EcFk, 0, ""},
		{"a null in the Key", shopDb, 0, "null 30 'a'", impl.EcNull, 0, ""},
		{"a null where a Default is", shopDb, 0, "3 null 'a'", impl.EcNull, 0, ""},
		{"a check", shopDb, 0, "9 30 'a'", impl.EcCheck, 0, ""},
		{"just a check", shopDb, 0, "8 30 'a'", impl.EcOk, 5, "2 1 10 'a'; 4 2 20 null; 5 8 30 'a' / 1 5 1; 2 6 2; 7 7 1"},
		{"a Key twice", shopDb, 0, "2 30 'a'", impl.EcUnique, 0, ""},
		{"a unique twice", shopDb, 0, "3 10 'a'", impl.EcUnique, 0, ""},
		{"both twice", shopDb, 0, "1 10 'a'", impl.EcUnique, 0, ""},
		{"what is neither, twice", shopDb, 0, "3 30 null", impl.EcOk, 5, "2 1 10 'a'; 4 2 20 null; 5 3 30 null / 1 5 1; 2 6 2; 7 7 1"},
	} {
		checkInsert(t, c.what, s, c.db, c.table, c.row, false, c.code, c.id, c.want)
		if c.code != impl.EcNull && c.code != impl.EcUnique {
			checkInsert(t, c.what+", with replace", s, c.db, c.table, c.row, true, c.code, c.id, c.want)
		}
	}
	checkInsert(t, "a lost one that waits", shop(0, 0, true), shopDb, 1, "8 3", false, impl.EcOk, 8, "2 1 10 'a'; 4 2 20 null / 1 5 1; 2 6 2; 7 7 1; 8 8 3")
	// What waits is found, and so are the rows that wait for it.
	checkInsert(t, "what others wait for", shop(0, 0, true), "/ 1 1 3", 0, "3 1 null", false, impl.EcOk, 1, "1 3 1 null / 1 1 3")
}

func TestInsertOneThatRefersToItself(t *testing.T) {
	for _, replace := range []bool{false, true} {
		checkInsert(t, "to itself", tree(0, 0, false), "", 0, "1 1", replace, impl.EcOk, 1, "1 1 1")
		checkInsert(t, "to another one", tree(0, 0, false), "1 1 1", 0, "2 3", replace, impl.EcFk, 0, "")
	}
	// The row that goes is not the one that comes.
	checkInsert(t, "in place of itself", tree(impl.FkCascade, 0, false), "1 1 1; 2 2 1", 0, "1 1", true, impl.EcOk, 3, "3 1 1")
	checkInsert(t, "in place of what it refers to", tree(impl.FkCascade, 0, false), "1 1 1; 2 2 1", 0, "1 2", true, impl.EcFk, 0, "")
	checkInsert(t, "in place of what it refers to, which waits", tree(impl.FkCascade, 0, true), "1 1 1; 2 2 1", 0, "1 2", true, impl.EcOk, 3, "3 1 2")
}

// faulty is a table in which each refusal of an insert has a column of its own; its rows are full of rivals.
func faulty(rows int) ([]impl.Table, []impl.Data) {
	s := []impl.Table{{
		Name: "t", Cols: []impl.Col{notNull(intCol("k")), notNull(intCol("a")), intCol("b"), intCol("u"), intCol("f")}, Key: []int64{0},
		Uniques: []impl.Unique{{Cols: []int64{3}}},
		Checks:  []impl.Check{{Expr: []impl.Tok{col(2), constant(num(5)), opTok(impl.EtLess)}}},
		Fks:     []impl.Fk{{Cols: []int64{4}, Table: "t"}},
	}}
	db := make([]impl.Data, 1)
	for i := range rows {
		n := num(int64(i + 1))
		db[0].Rows = append(db[0].Rows, row(n.N, n, num(0), num(0), n, n))
	}
	return s, db
}

// TestRefusalsInOrder puts all faults into one row and takes away the one that is told.
func TestRefusalsInOrder(t *testing.T) {
	s, db := faulty(impl.MaxRows)
	bad, good := valsOf("100 null 5 1 200"), valsOf("100 0 4 101 100")
	steps := []struct{ code, col int64 }{{impl.EcNull, 1}, {impl.EcCheck, 2}, {impl.EcUnique, 3}, {impl.EcFull, -1}, {impl.EcFk, 4}, {impl.EcOk, 0}}
	for _, step := range steps {
		got, id, code := impl.InsertRow(s, db, 0, bad, false)
		if code != step.code || code != impl.EcOk && (id != 0 || dbText(got) != dbText(db)) {
			t.Fatalf("insert: %d, %d, want %d", code, id, step.code)
		}
		if code == impl.EcFull {
			s, db = faulty(impl.MaxRows - 1)
		} else {
			bad[step.col] = good[step.col]
		}
	}
	bad = valsOf("100 null 5 1 200")
	for _, step := range steps {
		if step.code == impl.EcFull {
			continue
		}
		got, code := impl.UpdateRow(s, db, 0, 7, bad, false)
		if code != step.code || code != impl.EcOk && dbText(got) != dbText(db) {
			t.Fatalf("update: %d, want %d", code, step.code)
		}
		bad[step.col] = good[step.col]
	}
}

func TestInsertAtMaxRows(t *testing.T) {
	s, most := faulty(impl.MaxRows)
	_, less := faulty(impl.MaxRows - 1)
	many := func(db []impl.Data, row string, replace bool, wantCode int64, wantId int64, wantRows int) {
		t.Helper()
		got, id, code := impl.InsertRow(s, db, 0, valsOf(row), replace)
		if code != wantCode || id != wantId || len(got[0].Rows) != wantRows || !impl.Sound(s, got) {
			t.Errorf("%s: %d, Id %d, %d rows, want %d, %d, %d", row, code, id, len(got[0].Rows), wantCode, wantId, wantRows)
		}
	}
	many(less, "0 0 0 0 null", false, impl.EcOk, impl.MaxRows, impl.MaxRows)
	many(less, "0 0 0 0 null", true, impl.EcOk, impl.MaxRows, impl.MaxRows)
	many(most, "0 0 0 0 null", false, impl.EcFull, 0, impl.MaxRows)
	many(most, "0 0 0 0 null", true, impl.EcFull, 0, impl.MaxRows)
	many(most, "7 0 0 0 null", false, impl.EcUnique, 0, impl.MaxRows)
	many(most, "7 0 5 0 null", true, impl.EcCheck, 0, impl.MaxRows)
	// The rivals are gone ahead of it.
	many(most, "7 0 0 0 null", true, impl.EcOk, impl.MaxRows+1, impl.MaxRows)
	many(most, "7 0 0 9 null", true, impl.EcOk, impl.MaxRows+1, impl.MaxRows-1)
	// What goes is too late for a table that is full of others.
	many(most, "7 0 0 9 8", true, impl.EcOk, impl.MaxRows+1, impl.MaxRows-1)
	many(most, "7 0 0 9 9", true, impl.EcFk, 0, impl.MaxRows)
	// An update needs no room.
	got, code := impl.UpdateRow(s, most, 0, 3, valsOf("0 0 0 0 null"), false)
	if code != impl.EcOk || len(got[0].Rows) != impl.MaxRows {
		t.Error("update of a full table:", code)
	}
}

func TestInsertAtMaxNum(t *testing.T) {
	s := tree(impl.FkCascade, impl.FkCascade, false)
	checkInsert(t, "the last Id", s, "999999999 1 null", 0, "2 null", false, impl.EcOk, impl.MaxNum, "999999999 1 null; 1000000000 2 null")
	for _, replace := range []bool{false, true} {
		checkInsert(t, "one more", s, "1 1 null; 1000000000 5 null", 0, "2 null", replace, impl.EcFull, 0, "")
		checkInsert(t, "one more that is lost", s, "1000000000 5 null", 0, "2 7", replace, impl.EcFull, 0, "")
	}
	// The Id counts from what the last row had, gone or not.
	checkInsert(t, "in place of the last Id", s, "1 1 null; 1000000000 5 null", 0, "5 null", true, impl.EcFull, 0, "")
	checkInsert(t, "in place of the last one", s, "3 1 null; 8 5 null", 0, "5 null", true, impl.EcOk, 9, "3 1 null; 9 5 null")
	checkInsert(t, "in place of all", s, "3 1 null; 8 5 1", 0, "1 null", true, impl.EcOk, 9, "9 1 null")
	// The greatest values are values like others.
	checkInsert(t, "the greatest Key", s, "1 1 null", 0, "1000000000 1", false, impl.EcOk, 2, "1 1 null; 2 1000000000 1")
	checkInsert(t, "the least Key", s, "1 1 null", 0, "-1000000000 -1000000000", false, impl.EcOk, 2, "1 1 null; 2 -1000000000 -1000000000")
}

// TestDefaults: only with replace, and only where a null may not be.
func TestDefaults(t *testing.T) {
	with := func(c impl.Col, v impl.Val) impl.Col {
		c.Default = v
		return c
	}
	s := []impl.Table{{
		Name: "t", Cols: []impl.Col{with(notNull(intCol("k")), num(7)), with(notNull(intCol("a")), num(3)), notNull(textCol("b")), with(intCol("c"), num(4)), with(notNull(textCol("d")), text("z"))}, Key: []int64{0},
		Uniques: []impl.Unique{{Cols: []int64{1, 4}}},
		Checks:  []impl.Check{{Expr: read(t, "#1 3 = #3 8 = and not")}},
		Fks:     []impl.Fk{{Cols: []int64{3}, Table: "t", OnDelete: impl.FkNull}},
	}}
	for _, c := range []struct {
		what, db, row string
		plain, filled int64
		want          string
	}{
		{"no nulls", "", "1 1 'b' 1 'd'", impl.EcOk, impl.EcOk, "1 1 1 'b' 1 'd'"},
		{"one with a Default", "", "1 null 'b' null 'd'", impl.EcNull, impl.EcOk, "1 1 3 'b' null 'd'"},
		{"a text with a Default", "", "1 1 'b' null null", impl.EcNull, impl.EcOk, "1 1 1 'b' null 'z'"},
		{"all of them", "", "null null 'b' null null", impl.EcNull, impl.EcOk, "1 7 3 'b' null 'z'"},
		{"one without a Default", "", "1 1 null null 'd'", impl.EcNull, impl.EcNull, ""},
		{"one with and one without", "", "1 null null null 'd'", impl.EcNull, impl.EcNull, ""},
		{"a null that may be", "", "1 1 'b' null 'd'", impl.EcOk, impl.EcOk, "1 1 1 'b' null 'd'"},
		{"a Default that fails a check", "", "8 null 'b' 8 'd'", impl.EcNull, impl.EcCheck, ""},
		{"a Default that has a rival by Key", "1 7 1 'b' null 'd'", "null 2 'c' null 'd'", impl.EcNull, impl.EcOk, "2 7 2 'c' null 'd'"},
		{"a Default that has a rival by unique", "1 1 3 'b' null 'z'; 2 2 3 'b' null 'y'", "3 null 'c' null null", impl.EcNull, impl.EcOk, "2 2 3 'b' null 'y'; 3 3 3 'c' null 'z'"},
		{"a Default that is referred to", "", "null 1 'b' 7 'd'", impl.EcNull, impl.EcOk, "1 7 1 'b' 7 'd'"},
		{"a Default, and lost", "", "null 1 'b' 6 'd'", impl.EcNull, impl.EcFk, ""},
	} {
		for _, replace := range []bool{false, true} {
			code, id := c.plain, int64(0)
			if replace {
				code = c.filled
			}
			if code == impl.EcOk {
				last := dbOf(c.want)[0].Rows
				id = last[len(last)-1].Id
			}
			checkInsert(t, c.what, s, c.db, 0, c.row, replace, code, id, c.want)
		}
	}
	const db = "1 1 1 'a' null 'd'; 2 7 3 'b' null 'z'"
	checkUpdate(t, "update without replace", s, db, 0, 1, "1 null 'a' null 'd'", false, impl.EcNull, "")
	checkUpdate(t, "update with a Default", s, db, 0, 1, "1 null 'a' null 'd'", true, impl.EcOk, "1 1 3 'a' null 'd'; 2 7 3 'b' null 'z'")
	checkUpdate(t, "update without a Default", s, db, 0, 1, "1 1 null null 'd'", true, impl.EcNull, "")
	checkUpdate(t, "update to Defaults of a rival", s, db, 0, 1, "null null 'a' 7 null", true, impl.EcOk, "1 7 3 'a' 7 'z'")
	checkUpdate(t, "update to its own Default", s, db, 0, 2, "null null 'c' null null", true, impl.EcOk, "1 1 1 'a' null 'd'; 2 7 3 'c' null 'z'")
}

// crowd is a table with a Key and three uniques, one of two columns, that refers to itself.
func crowd(del int64) []impl.Table {
	return []impl.Table{{
		Name: "t", Cols: []impl.Col{notNull(intCol("k")), intCol("a"), intCol("b"), textCol("c"), intCol("up")}, Key: []int64{0},
		Uniques: []impl.Unique{{Cols: []int64{1}}, {Cols: []int64{3, 2}}, {Cols: []int64{4}}},
		Fks:     []impl.Fk{{Cols: []int64{4}, Table: "t", OnDelete: del}},
	}}
}

// TestRivals: by Key and by uniques at once, each taken out by Id as long as it is there.
func TestRivals(t *testing.T) {
	for _, c := range []struct {
		what, db string
		del      int64
		row      string
		plain    int64
		filled   int64
		want     string
	}{
		{"none", "1 1 1 1 'a' null", 0, "2 2 2 'a' null", impl.EcOk, impl.EcOk, "1 1 1 1 'a' null; 90 2 2 2 'a' null"},
		{"half a unique", "1 1 1 1 'a' null", 0, "2 2 1 'b' null", impl.EcOk, impl.EcOk, "1 1 1 1 'a' null; 90 2 2 1 'b' null"},
		{"a unique with a null", "1 1 1 1 null null; 2 2 null null 'a' null", 0, "3 null 1 null null", impl.EcOk, impl.EcOk, "1 1 1 1 null null; 2 2 null null 'a' null; 90 3 null 1 null null"},
		{"by Key", "1 1 1 1 'a' null; 2 2 2 2 'a' null", 0, "2 null 2 null null", impl.EcUnique, impl.EcOk, "1 1 1 1 'a' null; 90 2 null 2 null null"},
		{"by a unique of two", "1 1 1 1 'a' null; 2 2 2 2 'a' null", 0, "3 null 1 'a' null", impl.EcUnique, impl.EcOk, "2 2 2 2 'a' null; 90 3 null 1 'a' null"},
		{"by the last unique", "1 1 1 1 'a' null; 2 2 2 2 'a' 1", impl.FkNull, "3 null null null 1", impl.EcUnique, impl.EcOk, "1 1 1 1 'a' null; 90 3 null null null 1"},
		{"by Key and by unique, one row", "1 1 1 1 'a' null; 2 2 2 2 'a' null", 0, "1 1 1 'a' null", impl.EcUnique, impl.EcOk, "2 2 2 2 'a' null; 90 1 1 1 'a' null"},
		{"by Key and by unique, two rows", "1 1 1 1 'a' null; 2 2 2 2 'a' null; 3 3 3 3 'a' null", 0, "3 1 4 'a' null", impl.EcUnique, impl.EcOk, "2 2 2 2 'a' null; 90 3 1 4 'a' null"},
		{"by all at once", "1 1 1 1 'a' null; 2 2 2 2 'a' null; 3 3 3 3 'a' null; 4 4 4 4 'a' 5; 5 5 5 5 'a' null", impl.FkNull, "2 1 3 'a' 5", impl.EcUnique, impl.EcOk, "5 5 5 5 'a' null; 90 2 1 3 'a' 5"},
		// The first one takes the second one with it.
		{"one takes another one", "1 1 1 1 'a' null; 2 2 2 2 'a' 1", impl.FkCascade, "2 1 9 'a' null", impl.EcUnique, impl.EcOk, "90 2 1 9 'a' null"},
		{"one takes another one, by Id", "1 2 2 2 'a' null; 2 1 1 1 'a' 2", impl.FkCascade, "2 1 9 'a' null", impl.EcUnique, impl.EcOk, "90 2 1 9 'a' null"},
		{"one takes another one, not the third", "1 1 1 1 'a' null; 2 2 2 2 'a' 1; 3 3 3 3 'a' null", impl.FkCascade, "2 1 3 'a' null", impl.EcUnique, impl.EcOk, "90 2 1 3 'a' null"},
		// By Id: the one that refers goes first, or it is in the way.
		{"the one that refers is first, by Key", "1 1 1 1 'a' 2; 2 2 2 2 'a' null", impl.FkRestrict, "1 2 9 'a' null", impl.EcUnique, impl.EcOk, "90 1 2 9 'a' null"},
		{"the one that refers is first, by unique", "1 1 1 1 'a' 2; 2 2 2 2 'a' null", impl.FkRestrict, "2 1 9 'a' null", impl.EcUnique, impl.EcOk, "90 2 1 9 'a' null"},
		{"the one that refers is second, by Key", "1 1 1 1 'a' null; 2 2 2 2 'a' 1", impl.FkRestrict, "2 1 9 'a' null", impl.EcUnique, impl.EcFk, ""},
		{"the one that refers is second, by unique", "1 1 1 1 'a' null; 2 2 2 2 'a' 1", impl.FkRestrict, "1 2 9 'a' null", impl.EcUnique, impl.EcFk, ""},
		// What was a rival at first goes, although it is none any more.
		{"one makes another one none", "1 1 1 1 'a' null; 2 2 2 2 'a' 1", impl.FkNull, "1 9 9 'a' 1", impl.EcUnique, impl.EcOk, "90 1 9 9 'a' 1"},
		{"a rival that others refer to", "1 1 1 1 'a' null; 2 2 2 2 'a' 1", impl.FkNull, "1 9 9 'a' 2", impl.EcUnique, impl.EcOk, "2 2 2 2 'a' null; 90 1 9 9 'a' 2"},
		{"a rival that may not go", "1 1 1 1 'a' null; 2 2 2 2 'a' 1", impl.FkRestrict, "1 9 9 'a' null", impl.EcUnique, impl.EcFk, ""},
		{"a rival that refers to itself", "1 1 1 1 'a' 1", impl.FkRestrict, "1 2 2 'a' null", impl.EcUnique, impl.EcOk, "90 1 2 2 'a' null"},
	} {
		s := crowd(c.del)
		// A last row makes the new Id 90, whichever rows go.
		db, want := c.db+"; 89 89 89 89 'z' null", strings.Replace(c.want, "90 ", "89 89 89 89 'z' null; 90 ", 1)
		id := map[bool]int64{true: 90}
		checkInsert(t, c.what, s, db, 0, c.row, false, c.plain, id[c.plain == impl.EcOk], want)
		checkInsert(t, c.what+", with replace", s, db, 0, c.row, true, c.filled, id[c.filled == impl.EcOk], want)
		// A row that is changed to these values has the same rivals.
		db, want = c.db+"; 90 89 89 89 'z' null", c.want
		checkUpdate(t, c.what+", changed", s, db, 0, 90, c.row, false, c.plain, want)
		checkUpdate(t, c.what+", changed with replace", s, db, 0, 90, c.row, true, c.filled, want)
	}
	// A row is no rival of its own.
	for _, replace := range []bool{false, true} {
		checkUpdate(t, "as it was", crowd(0), "1 1 1 1 'a' 1", 0, 1, "1 1 1 'a' 1", replace, impl.EcOk, "1 1 1 1 'a' 1")
		checkUpdate(t, "the Key alone", crowd(0), "1 1 1 1 'a' null", 0, 1, "2 1 1 'a' null", replace, impl.EcOk, "1 2 1 1 'a' null")
		checkUpdate(t, "a unique alone", crowd(0), "1 1 1 1 'a' 1", 0, 1, "1 2 1 'a' 1", replace, impl.EcOk, "1 1 2 1 'a' 1")
	}
}

// TestARivalThatTakesTheRowWithIt: then there is no row to change.
func TestARivalThatTakesTheRowWithIt(t *testing.T) {
	cascade := tree(impl.FkCascade, impl.FkCascade, false)
	checkUpdate(t, "the row refers to its rival", cascade, "1 1 null; 2 2 1", 0, 2, "1 null", true, impl.EcNone, "")
	checkUpdate(t, "the rival refers to the row", cascade, "1 1 2; 2 2 null", 0, 2, "1 null", true, impl.EcOk, "2 1 null")
	checkUpdate(t, "by one in between", cascade, "1 1 null; 2 2 1; 3 3 2", 0, 3, "1 null", true, impl.EcNone, "")
	checkUpdate(t, "without replace", cascade, "1 1 null; 2 2 1", 0, 2, "1 null", false, impl.EcUnique, "")
	checkUpdate(t, "in a ring", cascade, "1 1 2; 2 2 1", 0, 2, "1 null", true, impl.EcNone, "")
	checkUpdate(t, "that waits", tree(impl.FkCascade, 0, true), "1 1 null; 2 2 1", 0, 2, "1 null", true, impl.EcNone, "")
	checkUpdate(t, "that is in the way", tree(impl.FkRestrict, 0, false), "1 1 null; 2 2 1", 0, 2, "1 null", true, impl.EcFk, "")
	// The row stays where the rival leaves a null in it, and has its own values then.
	nulls := tree(impl.FkNull, impl.FkCascade, false)
	checkUpdate(t, "a null in the row", nulls, "1 1 null; 2 2 1", 0, 2, "1 null", true, impl.EcOk, "2 1 null")
	checkUpdate(t, "a null in the row, but not behind it", nulls, "1 1 null; 2 2 1", 0, 2, "1 1", true, impl.EcOk, "2 1 1")
	checkUpdate(t, "the row refers to a rival that is gone", nulls, "1 1 null; 2 2 1; 3 3 1", 0, 2, "3 3", true, impl.EcOk, "1 1 null; 2 3 3")
	// By way of another table.
	s := shop(impl.FkCascade, impl.FkCascade, false)
	s[0].Cols = append(s[0].Cols, intCol("c"))
	s[0].Fks = []impl.Fk{{Cols: []int64{3}, Table: "c", OnDelete: impl.FkCascade}}
	checkUpdate(t, "by way of another table", s, "1 1 10 null null; 2 2 20 null 5 / 1 5 1", 0, 2, "1 30 null null", true, impl.EcNone, "")
	checkUpdate(t, "by unique", s, "1 1 10 null null; 2 2 20 null 5 / 1 5 1", 0, 2, "2 10 null null", true, impl.EcNone, "")
	// All rivals go ahead of it: one that may not is told.
	x := crowd(impl.FkCascade)
	x = append(x, impl.Table{Name: "u", Cols: []impl.Col{notNull(intCol("k"))}, Key: []int64{0}, Fks: []impl.Fk{{Cols: []int64{0}, Table: "t"}}})
	checkUpdate(t, "a second rival that may not go", x, "1 1 1 1 'a' null; 2 2 2 2 'a' 1; 3 3 3 3 'a' null / 1 3", 0, 2, "1 3 2 'a' null", true, impl.EcFk, "")
	checkUpdate(t, "a second rival that may go", x, "1 1 1 1 'a' null; 2 2 2 2 'a' 1; 3 3 3 3 'a' null /", 0, 2, "1 3 2 'a' null", true, impl.EcNone, "")
}

// TestChildrenGo: each of three for a row that goes and for one that gets another Key, with references that wait and without.
func TestChildrenGo(t *testing.T) {
	const kept = "1 5 1; 2 6 2; 7 7 1"
	gone := map[int64]string{impl.FkRestrict: "", impl.FkCascade: "2 6 2", impl.FkNull: "1 5 null; 2 6 2; 7 7 null"}
	changed := map[int64]string{impl.FkRestrict: "", impl.FkCascade: "1 5 3; 2 6 2; 7 7 3", impl.FkNull: "1 5 null; 2 6 2; 7 7 null"}
	for a := range int64(3) {
		for b := range int64(3) {
			for _, deferred := range []bool{false, true} {
				code := func(action int64) int64 {
					if action == impl.FkRestrict && !deferred {
						return impl.EcFk
					}
					return impl.EcOk
				}
				children := func(of map[int64]string, action int64) string {
					if action == impl.FkRestrict {
						return kept
					}
					return of[action]
				}
				s := shop(a, b, deferred)
				what := "delete " + strconv.Itoa(int(a)) + ", update " + strconv.Itoa(int(b)) + ", deferred " + strconv.FormatBool(deferred)
				checkDelete(t, what+": gone", s, shopDb, 0, 2, code(a), "4 2 20 null /"+children(gone, a))
				for _, replace := range []bool{false, true} {
					checkUpdate(t, what+": another Key", s, shopDb, 0, 2, "3 10 'a'", replace, code(b), "2 3 10 'a'; 4 2 20 null /"+children(changed, b))
					checkUpdate(t, what+": the same Key", s, shopDb, 0, 2, "1 30 'b'", replace, impl.EcOk, "2 1 30 'b'; 4 2 20 null /"+kept)
				}
				checkInsert(t, what+": replaced", s, shopDb, 0, "1 30 'b'", true, code(a), 5*(1-code(a)/impl.EcFk), "4 2 20 null; 5 1 30 'b' /"+children(gone, a))
				checkDelete(t, what+": a child", s, shopDb, 1, 2, impl.EcOk, "2 1 10 'a'; 4 2 20 null / 1 5 1; 7 7 1")
				checkDelete(t, what+": no children", s, "2 1 10 'a' / 1 5 null", 0, 2, impl.EcOk, "/ 1 5 null")
				checkUpdate(t, what+": no children, another Key", s, "2 1 10 'a' / 1 5 null", 0, 2, "3 10 'a'", false, impl.EcOk, "2 3 10 'a' / 1 5 null")
			}
		}
	}
}

func TestUpdateOneRow(t *testing.T) {
	s := shop(impl.FkRestrict, impl.FkRestrict, false)
	for _, c := range []struct {
		what, row string
		code      int64
		want      string
	}{
		{"to another one", "6 1", impl.EcUnique, ""}, {"lost", "5 3", impl.EcFk, ""}, {"a null in the Key", "null 1", impl.EcNull, ""},
		{"to the other parent", "5 2", impl.EcOk, "1 5 2; 2 6 2; 7 7 1"}, {"to none", "5 null", impl.EcOk, "1 5 null; 2 6 2; 7 7 1"},
		{"another Key", "8 1", impl.EcOk, "1 8 1; 2 6 2; 7 7 1"}, {"as it was", "5 1", impl.EcOk, "1 5 1; 2 6 2; 7 7 1"},
	} {
		checkUpdate(t, c.what, s, shopDb, 1, 1, c.row, false, c.code, "2 1 10 'a'; 4 2 20 null /"+c.want)
	}
	checkUpdate(t, "a check", s, shopDb, 0, 4, "9 20 null", false, impl.EcCheck, "")
	checkUpdate(t, "a unique", s, shopDb, 0, 4, "2 10 null", false, impl.EcUnique, "")
	checkUpdate(t, "lost, but it waits", shop(0, 0, true), shopDb, 1, 1, "5 3", false, impl.EcOk, "2 1 10 'a'; 4 2 20 null / 1 5 3; 2 6 2; 7 7 1")
	checkUpdate(t, "what was lost is found", shop(0, 0, true), "2 1 10 'a' / 1 5 3", 0, 2, "3 10 'a'", false, impl.EcOk, "2 3 10 'a' / 1 5 3")
}

func TestChildrenThatMayNotChange(t *testing.T) {
	base := func() []impl.Table { return shop(impl.FkNull, impl.FkCascade, false) }
	required, check, greater := base(), base(), base()
	required[1].Cols[1].NotNull = true
	check[1].Checks = []impl.Check{{Expr: read(t, "#1 isnull not")}}
	greater[1].Checks = []impl.Check{{Expr: read(t, "#1 3 < #1 isnull or")}}
	checkDelete(t, "a null that may not be", required, shopDb, 0, 2, impl.EcNull, "")
	// A Default is only for what is done with replace: what follows is not.
	required[1].Cols[1].Default = num(2)
	checkDelete(t, "a null that has a Default", required, shopDb, 0, 2, impl.EcNull, "")
	checkInsert(t, "a null that has a Default, with replace", required, shopDb, 0, "1 30 null", true, impl.EcNull, 0, "")
	checkUpdate(t, "a new Key that fits", required, shopDb, 0, 2, "3 10 'a'", true, impl.EcOk, "2 3 10 'a'; 4 2 20 null / 1 5 3; 2 6 2; 7 7 3")
	checkDelete(t, "a check of a null", check, shopDb, 0, 2, impl.EcCheck, "")
	checkUpdate(t, "a check of a new Key", greater, shopDb, 0, 2, "3 10 'a'", false, impl.EcCheck, "")
	checkUpdate(t, "a check of a new Key that holds", greater, shopDb, 0, 2, "0 10 'a'", false, impl.EcOk, "2 0 10 'a'; 4 2 20 null / 1 5 0; 2 6 2; 7 7 0")
	// A child that gets the new Key may have a rival, that waited for it; replace is for the row alone.
	unique := shop(impl.FkCascade, impl.FkCascade, true)
	unique[1].Uniques = []impl.Unique{{Cols: []int64{1}}}
	const db = "2 1 10 'a' / 1 5 1; 2 6 3"
	for _, replace := range []bool{false, true} {
		checkUpdate(t, "a child that has a rival", unique, db, 0, 2, "3 10 'a'", replace, impl.EcUnique, "")
		checkUpdate(t, "a child that has none", unique, db, 0, 2, "4 10 'a'", replace, impl.EcOk, "2 4 10 'a' / 1 5 4; 2 6 3")
	}
	// A child whose other reference is lost may not change.
	two := shop(impl.FkNull, impl.FkNull, false)
	two[1].Cols = append(two[1].Cols, intCol("q"))
	two[1].Fks = append(two[1].Fks, impl.Fk{Cols: []int64{2}, Table: "p", OnDelete: impl.FkNull, OnUpdate: impl.FkNull})
	checkDelete(t, "the other reference is lost", two, "1 1 1 null / 1 1 1 1", 0, 1, impl.EcFk, "")
	checkUpdate(t, "the other reference is lost, another Key", two, "1 1 1 null / 1 1 1 1", 0, 1, "2 1 null", false, impl.EcFk, "")
	checkDelete(t, "the other reference is not", two, "1 1 1 null; 2 2 2 null / 1 1 1 2", 0, 1, impl.EcOk, "2 2 2 null / 1 1 null 2")
	two[1].Fks[1].Deferred = true
	checkDelete(t, "the other reference waits", two, "1 1 1 null / 1 1 1 1", 0, 1, impl.EcOk, "/ 1 1 null null")
	two[1].Fks[0].Deferred, two[1].Fks[1].Deferred = true, false
	checkDelete(t, "only the first one waits", two, "1 1 1 null / 1 1 1 1", 0, 1, impl.EcFk, "")
}

// TestKeysOfTwoColumns: columns of a reference stand for those of the Key in its order; others stay.
func TestKeysOfTwoColumns(t *testing.T) {
	schema := func(del int64, upd int64) []impl.Table {
		return []impl.Table{
			{
				Name: "c", Cols: []impl.Col{textCol("x"), notNull(intCol("k")), intCol("y"), intCol("z")}, Key: []int64{1},
				Fks: []impl.Fk{{Cols: []int64{0, 2}, Table: "p", OnDelete: del, OnUpdate: upd}},
			},
			{Name: "p", Cols: []impl.Col{notNull(intCol("n")), intCol("o"), notNull(textCol("m"))}, Key: []int64{2, 0}},
		}
	}
	const db = "1 'a' 1 1 7; 2 'a' 2 2 7; 3 null 3 1 7; 4 'a' 4 null 7; 5 'a' 5 1 1 / 1 1 1 'a'; 2 2 1 'a'; 3 1 1 'b'"
	checkDelete(t, "nulls", schema(impl.FkNull, 0), db, 1, 1, impl.EcOk, "1 null 1 null 7; 2 'a' 2 2 7; 3 null 3 1 7; 4 'a' 4 null 7; 5 null 5 null 1 / 2 2 1 'a'; 3 1 1 'b'")
	checkDelete(t, "cascade", schema(impl.FkCascade, 0), db, 1, 1, impl.EcOk, "2 'a' 2 2 7; 3 null 3 1 7; 4 'a' 4 null 7 / 2 2 1 'a'; 3 1 1 'b'")
	checkDelete(t, "restrict", schema(impl.FkRestrict, 0), db, 1, 1, impl.EcFk, "")
	checkDelete(t, "restrict, without children", schema(impl.FkRestrict, 0), db, 1, 3, impl.EcOk, "1 'a' 1 1 7; 2 'a' 2 2 7; 3 null 3 1 7; 4 'a' 4 null 7; 5 'a' 5 1 1 / 1 1 1 'a'; 2 2 1 'a'")
	checkUpdate(t, "half a Key", schema(0, impl.FkCascade), db, 1, 1, "3 1 'a'", false, impl.EcOk, "1 'a' 1 3 7; 2 'a' 2 2 7; 3 null 3 1 7; 4 'a' 4 null 7; 5 'a' 5 3 1 / 1 3 1 'a'; 2 2 1 'a'; 3 1 1 'b'")
	checkUpdate(t, "the other half", schema(0, impl.FkCascade), db, 1, 1, "1 1 'c'", false, impl.EcOk, "1 'c' 1 1 7; 2 'a' 2 2 7; 3 null 3 1 7; 4 'a' 4 null 7; 5 'c' 5 1 1 / 1 1 1 'c'; 2 2 1 'a'; 3 1 1 'b'")
	checkUpdate(t, "both, nulls", schema(0, impl.FkNull), db, 1, 1, "5 1 'c'", false, impl.EcOk, "1 null 1 null 7; 2 'a' 2 2 7; 3 null 3 1 7; 4 'a' 4 null 7; 5 null 5 null 1 / 1 5 1 'c'; 2 2 1 'a'; 3 1 1 'b'")
	checkUpdate(t, "none of the Key", schema(0, impl.FkRestrict), db, 1, 1, "1 9 'a'", false, impl.EcOk, "1 'a' 1 1 7; 2 'a' 2 2 7; 3 null 3 1 7; 4 'a' 4 null 7; 5 'a' 5 1 1 / 1 1 9 'a'; 2 2 1 'a'; 3 1 1 'b'")
	checkUpdate(t, "half a Key twice", schema(0, impl.FkCascade), db, 1, 1, "2 1 'b'", false, impl.EcOk, "1 'b' 1 2 7; 2 'a' 2 2 7; 3 null 3 1 7; 4 'a' 4 null 7; 5 'b' 5 2 1 / 1 2 1 'b'; 2 2 1 'a'; 3 1 1 'b'")
	checkUpdate(t, "a Key that is taken", schema(0, impl.FkCascade), db, 1, 1, "2 1 'a'", false, impl.EcUnique, "")
}

// refTable is a table of a Key and some references, each of one column of its own.
func refTable(name string, fks ...impl.Fk) impl.Table {
	t := impl.Table{Name: name, Cols: []impl.Col{notNull(intCol("k"))}, Key: []int64{0}}
	for i, fk := range fks {
		t.Cols = append(t.Cols, intCol("r"+strings.Repeat("r", i)))
		fk.Cols = []int64{int64(i + 1)}
		t.Fks = append(t.Fks, fk)
	}
	return t
}

// TestChildrenInOrder: by table, then by reference, then by Id, each as it is when its turn comes.
func TestChildrenInOrder(t *testing.T) {
	p := refTable("p")
	cascade := func(to string) impl.Fk {
		return impl.Fk{Table: to, OnDelete: impl.FkCascade, OnUpdate: impl.FkCascade}
	}
	restrict := func(to string) impl.Fk { return impl.Fk{Table: to} }
	// By table: d refers to c, which may not go as long as d is there.
	c, d := refTable("c", cascade("p")), refTable("d", cascade("p"), restrict("c"))
	checkDelete(t, "the table in the way is second", []impl.Table{p, c, d}, "1 1 / 1 5 1 / 1 7 1 5", 0, 1, impl.EcFk, "")
	checkDelete(t, "the table in the way is first", []impl.Table{p, d, c}, "1 1 / 1 7 1 5 / 1 5 1", 0, 1, impl.EcOk, "//")
	checkDelete(t, "tables ahead of it", []impl.Table{d, c, p}, "1 7 1 5 / 1 5 1 / 1 1", 2, 1, impl.EcOk, "//")
	// By reference: a row that is gone is in nobody's way.
	twice := func(first impl.Fk, second impl.Fk) []impl.Table {
		c := refTable("c", first, second)
		return []impl.Table{p, c}
	}
	checkDelete(t, "cascade, then restrict", twice(cascade("p"), restrict("p")), "1 1 / 1 5 1 1", 0, 1, impl.EcOk, "/")
	checkDelete(t, "restrict, then cascade", twice(restrict("p"), cascade("p")), "1 1 / 1 5 1 1", 0, 1, impl.EcFk, "")
	checkDelete(t, "cascade, then restrict of another row", twice(cascade("p"), restrict("p")), "1 1 / 1 5 1 1; 2 6 null 1", 0, 1, impl.EcFk, "")
	// By Id: the row that refers to another one must go first.
	own := refTable("c", cascade("p"), restrict("c"))
	checkDelete(t, "the row in the way is second", []impl.Table{p, own}, "1 1 / 1 5 1 null; 2 6 1 5", 0, 1, impl.EcFk, "")
	checkDelete(t, "the row in the way is first", []impl.Table{p, own}, "1 1 / 1 6 1 5; 2 5 1 null", 0, 1, impl.EcOk, "/")
	// A reference to another table is not looked at.
	other := refTable("c", restrict("q"), cascade("p"))
	checkDelete(t, "a reference to another table", []impl.Table{p, other, refTable("q")}, "1 1 / 1 5 1 1 / 1 1", 0, 1, impl.EcOk, "// 1 1")
}

// TestChildrenAsTheyAreThen: what followed for one child may make another one none.
func TestChildrenAsTheyAreThen(t *testing.T) {
	p := refTable("p")
	shared := func(first impl.Fk, second impl.Fk) []impl.Table {
		c := refTable("c", first)
		second.Cols = []int64{1}
		c.Fks = append(c.Fks, second)
		return []impl.Table{p, c}
	}
	all := func(action int64) impl.Fk { return impl.Fk{Table: "p", OnDelete: action, OnUpdate: action} }
	waits := func(fk impl.Fk) impl.Fk {
		fk.Deferred = true
		return fk
	}
	const db = "1 1 / 1 5 1; 2 6 1"
	checkDelete(t, "nulls, then cascade", shared(all(impl.FkNull), all(impl.FkCascade)), db, 0, 1, impl.EcOk, "/ 1 5 null; 2 6 null")
	checkDelete(t, "nulls, then restrict", shared(all(impl.FkNull), all(impl.FkRestrict)), db, 0, 1, impl.EcOk, "/ 1 5 null; 2 6 null")
	checkDelete(t, "cascade, then nulls", shared(all(impl.FkCascade), all(impl.FkNull)), db, 0, 1, impl.EcOk, "/")
	checkDelete(t, "restrict that waits, then nulls", shared(waits(all(impl.FkRestrict)), all(impl.FkNull)), db, 0, 1, impl.EcOk, "/ 1 5 null; 2 6 null")
	checkUpdate(t, "cascade, then nulls", shared(all(impl.FkCascade), all(impl.FkNull)), db, 0, 1, "2", false, impl.EcOk, "1 2 / 1 5 2; 2 6 2")
	checkUpdate(t, "cascade, then restrict", shared(all(impl.FkCascade), all(impl.FkRestrict)), db, 0, 1, "2", false, impl.EcOk, "1 2 / 1 5 2; 2 6 2")
	checkUpdate(t, "restrict, then cascade", shared(all(impl.FkRestrict), all(impl.FkCascade)), db, 0, 1, "2", false, impl.EcFk, "")
	checkUpdate(t, "nulls, then cascade", shared(all(impl.FkNull), all(impl.FkCascade)), db, 0, 1, "2", false, impl.EcOk, "1 2 / 1 5 null; 2 6 null")

	// One row of c refers to another one, and by way of it to p: (g, k) is the Key of c, g refers to p, (g, up) to c.
	group := func(fk impl.Fk) []impl.Table {
		return []impl.Table{p, {
			Name: "c", Cols: []impl.Col{intCol("g"), notNull(intCol("k")), notNull(intCol("h")), intCol("up")}, Key: []int64{2, 1},
			Fks: []impl.Fk{{Cols: []int64{0}, Table: "p", OnDelete: impl.FkCascade}, fk},
		}}
	}
	nulls := impl.Fk{Cols: []int64{0, 3}, Table: "c", OnDelete: impl.FkNull}
	checkDelete(t, "a child that is none any more", group(nulls), "1 1 / 1 1 5 1 null; 2 1 6 1 5", 0, 1, impl.EcOk, "/ 2 null 6 1 null")
	cascade := impl.Fk{Cols: []int64{0, 3}, Table: "c", OnDelete: impl.FkCascade}
	checkDelete(t, "a child that is gone", group(cascade), "1 1 / 1 1 5 1 null; 2 1 6 1 5", 0, 1, impl.EcOk, "/")

	// What the first child left in another column of the second one stays there.
	s := group(impl.Fk{Cols: []int64{2, 3}, Table: "c", OnUpdate: impl.FkCascade})
	s[1].Cols[0].NotNull, s[1].Cols[2].NotNull, s[1].Key = true, false, []int64{0, 1}
	s[1].Fks[0].OnUpdate, s[1].Fks[0].Deferred = impl.FkCascade, true
	checkUpdate(t, "a child with another new value", s, "1 1 / 1 1 5 null null; 2 1 6 1 5", 0, 1, "2", false, impl.EcOk, "1 2 / 1 2 5 null null; 2 2 6 2 5")
	s[1].Fks[0].Deferred = false
	checkUpdate(t, "a child that is lost in between", s, "1 1 / 1 1 5 null null; 2 1 6 1 5", 0, 1, "2", false, impl.EcFk, "")

	// So does what the children in another table left.
	c := refTable("c", impl.Fk{Table: "p", OnDelete: impl.FkNull, Deferred: true}, impl.Fk{Table: "d", OnDelete: impl.FkNull})
	d := refTable("d", impl.Fk{Table: "p", OnDelete: impl.FkCascade})
	checkDelete(t, "nulls from both sides", []impl.Table{p, d, c}, "1 1 / 1 7 1 / 1 5 1 7", 0, 1, impl.EcOk, "// 1 5 null null")
	checkDelete(t, "nulls from both sides, the other way", []impl.Table{p, c, d}, "1 1 / 1 5 1 7 / 1 7 1", 0, 1, impl.EcOk, "/ 1 5 null null /")
}

func TestRowsThatReferToThemselves(t *testing.T) {
	for _, deferred := range []bool{false, true} {
		for del := range int64(3) {
			s := tree(del, impl.FkRestrict, deferred)
			// The row is gone when its children are looked for.
			checkDelete(t, "to itself alone", s, "1 1 1; 2 2 2", 0, 1, impl.EcOk, "2 2 2")
		}
		// It has its values when its children are looked for: it is one of them as long as it refers to the old Key.
		cascade, nulls := tree(0, impl.FkCascade, deferred), tree(0, impl.FkNull, deferred)
		checkUpdate(t, "by cascade", cascade, "1 1 1", 0, 1, "2 1", false, impl.EcOk, "1 2 2")
		checkUpdate(t, "by cascade, another one too", cascade, "1 1 1; 2 5 1", 0, 1, "2 1", false, impl.EcOk, "1 2 2; 2 5 2")
		checkUpdate(t, "to nulls", nulls, "1 1 1", 0, 1, "2 1", false, impl.EcOk, "1 2 null")
		checkUpdate(t, "on its own", nulls, "1 1 1; 2 5 1", 0, 1, "2 2", false, impl.EcOk, "1 2 2; 2 5 null")
		checkUpdate(t, "to none", cascade, "1 1 1", 0, 1, "2 null", false, impl.EcOk, "1 2 null")
	}
	checkUpdate(t, "restrict", tree(0, impl.FkRestrict, false), "1 1 1", 0, 1, "2 1", false, impl.EcFk, "")
	checkUpdate(t, "restrict, on its own", tree(0, impl.FkRestrict, false), "1 1 1", 0, 1, "2 2", false, impl.EcOk, "1 2 2")
	checkUpdate(t, "restrict that waits", tree(0, impl.FkRestrict, true), "1 1 1", 0, 1, "2 1", false, impl.EcOk, "1 2 1")
	checkUpdate(t, "to the old Key of its own", tree(0, 0, false), "1 1 null", 0, 1, "2 1", false, impl.EcFk, "")
}

func TestReferencesInARing(t *testing.T) {
	for _, deferred := range []bool{false, true} {
		cascade, nulls := tree(impl.FkCascade, impl.FkCascade, deferred), tree(impl.FkNull, impl.FkNull, deferred)
		const ring = "1 1 3; 2 2 1; 3 3 2; 4 4 1; 5 5 null"
		checkDelete(t, "cascade", cascade, ring, 0, 2, impl.EcOk, "5 5 null")
		checkDelete(t, "nulls", nulls, ring, 0, 1, impl.EcOk, "2 2 null; 3 3 2; 4 4 null; 5 5 null")
		checkUpdate(t, "cascade, another Key", cascade, ring, 0, 1, "7 3", false, impl.EcOk, "1 7 3; 2 2 7; 3 3 2; 4 4 7; 5 5 null")
		checkUpdate(t, "nulls, another Key", nulls, ring, 0, 1, "7 3", false, impl.EcOk, "1 7 3; 2 2 null; 3 3 2; 4 4 null; 5 5 null")
	}
	restrict := tree(impl.FkRestrict, impl.FkRestrict, false)
	checkDelete(t, "restrict", restrict, "1 1 2; 2 2 1", 0, 1, impl.EcFk, "")
	checkDelete(t, "restrict that waits", tree(0, 0, true), "1 1 2; 2 2 1", 0, 1, impl.EcOk, "2 2 1")
	// Keys that refer to each other change all around.
	ring := func(deferred bool) []impl.Table {
		var s []impl.Table
		for i, name := range []string{"a", "b", "c"} {
			to := []string{"b", "c", "a"}[i]
			s = append(s, impl.Table{Name: name, Cols: []impl.Col{notNull(intCol("k"))}, Key: []int64{0}, Fks: []impl.Fk{{Cols: []int64{0}, Table: to, OnDelete: impl.FkCascade, OnUpdate: impl.FkCascade, Deferred: deferred}}})
		}
		return s
	}
	checkDelete(t, "three tables", ring(false), "1 1; 2 2 / 1 1; 2 2 / 1 1; 2 2", 1, 1, impl.EcOk, "2 2 / 2 2 / 2 2")
	checkUpdate(t, "three tables, another Key, that waits", ring(true), "1 1; 2 2 / 1 1; 2 2 / 1 1; 2 2", 1, 1, "5", false, impl.EcOk, "1 5; 2 2 / 1 5; 2 2 / 1 5; 2 2")
	// Each row is looked at when its own children have changed, and so the ring is closed by then.
	checkUpdate(t, "three tables, another Key", ring(false), "1 1; 2 2 / 1 1; 2 2 / 1 1; 2 2", 1, 1, "5", false, impl.EcOk, "1 5; 2 2 / 1 5; 2 2 / 1 5; 2 2")
	checkUpdate(t, "three tables, a Key that is taken", ring(false), "1 1; 2 2 / 1 1; 2 2 / 1 1; 2 2", 1, 1, "2", false, impl.EcUnique, "")
	checkUpdate(t, "three tables, in place of another Key", ring(false), "1 1; 2 2 / 1 1; 2 2 / 1 1; 2 2", 1, 1, "2", true, impl.EcOk, "1 2 / 1 2 / 1 2")
}

// line is a tree of so many rows, each of which refers to the one ahead of it.
func line(rows int) string {
	l := []string{"1 1 null"}
	for i := 2; i <= rows; i++ {
		l = append(l, strconv.Itoa(i)+" "+strconv.Itoa(i)+" "+strconv.Itoa(i-1))
	}
	return strings.Join(l, "; ")
}

func codeIf(ok bool, code int64) int64 {
	if ok {
		return impl.EcOk
	}
	return code
}

// TestDepthOfWhatGoes: the row is 0 deep, the last one of a line of n is n - 1 deep.
func TestDepthOfWhatGoes(t *testing.T) {
	s := tree(impl.FkCascade, impl.FkCascade, false)
	for rows := impl.MaxDepth - 1; rows <= impl.MaxDepth+4; rows++ {
		code := codeIf(rows <= impl.MaxDepth+1, impl.EcDepth)
		checkDelete(t, "a line", s, line(rows), 0, 1, code, "")
		checkDelete(t, "a line from its second row", s, line(rows+1), 0, 2, code, "1 1 null")
		// A rival is one deep itself.
		code = codeIf(rows <= impl.MaxDepth, impl.EcDepth)
		id := int64(rows+1) * codeIf(code != impl.EcOk, 1)
		checkInsert(t, "in place of a line", s, line(rows), 0, "1 null", true, code, id, strconv.Itoa(rows+1)+" 1 null")
		checkUpdate(t, "changed in place of a line", s, line(rows)+"; 99 99 null", 0, 99, "1 null", true, code, "99 1 null")
	}
	// Long tables are not deep.
	var wide []string
	for i := range impl.MaxRows {
		wide = append(wide, strconv.Itoa(i+1)+" "+strconv.Itoa(i)+" 0")
	}
	checkDelete(t, "all at once", s, strings.Join(wide, "; "), 0, 1, impl.EcOk, "")
}

// TestDepthAtTheEnd: a row that is too deep is told ahead of what is wrong with it, but nothing is done with one that is in the way.
func TestDepthAtTheEnd(t *testing.T) {
	for rows := impl.MaxDepth - 1; rows <= impl.MaxDepth+2; rows++ {
		last := strconv.Itoa(rows)
		fits := rows <= impl.MaxDepth
		for _, c := range []struct {
			what string
			fk   impl.Fk
			must bool
			code int64
			want string
		}{
			{"cascade", impl.Fk{OnDelete: impl.FkCascade}, false, codeIf(fits, impl.EcDepth), ""},
			{"nulls", impl.Fk{OnDelete: impl.FkNull}, false, codeIf(fits, impl.EcDepth), "1 7 null"},
			{"nulls that may not be", impl.Fk{OnDelete: impl.FkNull}, true, map[bool]int64{true: impl.EcNull, false: impl.EcDepth}[fits], ""},
			{"restrict", impl.Fk{}, false, impl.EcFk, ""},
			{"restrict that waits", impl.Fk{Deferred: true}, false, impl.EcOk, "1 7 " + last},
		} {
			c.fk.Table = "t"
			end := refTable("end", c.fk)
			end.Cols[1].NotNull = c.must
			s := append(tree(impl.FkCascade, 0, false), end)
			if rows > impl.MaxDepth+1 {
				c.code = impl.EcDepth
			}
			checkDelete(t, c.what+" behind "+last, s, line(rows)+"/ 1 7 "+last, 0, 1, c.code, "/"+c.want)
		}
	}
}

// TestDepthOfWhatChanges: the first column of the Key is handed on.
func TestDepthOfWhatChanges(t *testing.T) {
	s := []impl.Table{{
		Name: "t", Cols: []impl.Col{notNull(intCol("g")), notNull(intCol("k")), intCol("up")}, Key: []int64{0, 1},
		Fks: []impl.Fk{{Cols: []int64{0, 2}, Table: "t", OnUpdate: impl.FkCascade}},
	}}
	group := func(rows int, g string) string {
		l := strings.Split(line(rows), "; ")
		for i, row := range l {
			id, rest, _ := strings.Cut(row, " ")
			l[i] = id + " " + g + " " + rest
		}
		return strings.Join(l, "; ")
	}
	for rows := impl.MaxDepth - 1; rows <= impl.MaxDepth+4; rows++ {
		checkUpdate(t, "a line", s, group(rows, "1"), 0, 1, "2 1 null", false, codeIf(rows <= impl.MaxDepth+1, impl.EcDepth), group(rows, "2"))
	}
	checkUpdate(t, "not the Key of the others", s, group(40, "1"), 0, 40, "1 40 38", false, impl.EcOk, group(39, "1")+"; 40 1 40 38")
}

// TestDbsWithFlaws: what is wrong elsewhere does not matter, nor what is wrong with the row ahead of the change.
func TestDbsWithFlaws(t *testing.T) {
	s := shop(impl.FkCascade, impl.FkCascade, false)
	const bad = "1 1 10 'a'; 2 1 10 'a'; 3 null null 'a'; 4 null null 'a'; 5 20 30 null / 1 5 1; 2 6 7; 3 null null"
	checkInsert(t, "beside flaws", s, bad, 0, "2 20 'b'", false, impl.EcOk, 6, "1 1 10 'a'; 2 1 10 'a'; 3 null null 'a'; 4 null null 'a'; 5 20 30 null; 6 2 20 'b' / 1 5 1; 2 6 7; 3 null null")
	checkInsert(t, "in place of two of one Key", s, bad, 0, "1 50 'b'", true, impl.EcOk, 6, "3 null null 'a'; 4 null null 'a'; 5 20 30 null; 6 1 50 'b' / 2 6 7; 3 null null")
	// The children of a Key go with the first row that has it.
	checkDelete(t, "one of two of one Key", s, bad, 0, 2, impl.EcOk, "1 1 10 'a'; 3 null null 'a'; 4 null null 'a'; 5 20 30 null / 2 6 7; 3 null null")
	checkDelete(t, "a Key that is a null", s, bad, 0, 3, impl.EcOk, "1 1 10 'a'; 2 1 10 'a'; 4 null null 'a'; 5 20 30 null / 1 5 1; 2 6 7; 3 null null")
	checkUpdate(t, "a Key that was a null", s, bad, 0, 3, "3 3 null", false, impl.EcOk, "1 1 10 'a'; 2 1 10 'a'; 3 3 3 null; 4 null null 'a'; 5 20 30 null / 1 5 1; 2 6 7; 3 null null")
	checkUpdate(t, "a Key that is a null still", s, bad, 0, 3, "null 3 null", false, impl.EcNull, "")
	checkUpdate(t, "a check that was wrong", s, bad, 0, 5, "6 30 null", false, impl.EcOk, "1 1 10 'a'; 2 1 10 'a'; 3 null null 'a'; 4 null null 'a'; 5 6 30 null / 1 5 1; 2 6 7; 3 null null")
	checkUpdate(t, "a reference that was lost", s, bad, 1, 2, "6 null", false, impl.EcOk, "1 1 10 'a'; 2 1 10 'a'; 3 null null 'a'; 4 null null 'a'; 5 20 30 null / 1 5 1; 2 6 null; 3 null null")
	checkUpdate(t, "a reference that is lost still", s, bad, 1, 2, "7 7", false, impl.EcFk, "")
	checkUpdate(t, "one of two of one Key", s, bad, 0, 1, "1 40 'a'", false, impl.EcUnique, "")
	checkUpdate(t, "one of two of one Key, with replace", s, bad, 0, 1, "1 40 'a'", true, impl.EcOk, "1 1 40 'a'; 3 null null 'a'; 4 null null 'a'; 5 20 30 null / 2 6 7; 3 null null")
	checkDelete(t, "a null that refers", s, bad, 1, 3, impl.EcOk, "1 1 10 'a'; 2 1 10 'a'; 3 null null 'a'; 4 null null 'a'; 5 20 30 null / 1 5 1; 2 6 7")
	// A child with a flaw of its own may not change.
	checkUpdate(t, "a child with a null", s, "1 1 10 'a' / 1 null 1", 0, 1, "2 10 'a'", false, impl.EcNull, "")
	checkDelete(t, "a child with a null that goes", s, "1 1 10 'a' / 1 null 1", 0, 1, impl.EcOk, "/")
}

func TestChangesThatAreNotRight(t *testing.T) {
	s := shop(impl.FkCascade, impl.FkCascade, false)
	wrong := shop(0, 0, false)
	wrong[1].Fks[0].Table = "x"
	form := func(what string, s []impl.Table, db []impl.Data, table int64, vals []impl.Val) {
		t.Helper()
		for _, replace := range []bool{false, true} {
			got, id, code := impl.InsertRow(s, db, table, vals, replace)
			if !isForm(code) || len(got) != 0 || id != 0 {
				t.Errorf("%s: InsertRow is %v, %d, %d", what, got, id, code)
			}
			// Id 99 is in no table: EcForm is told ahead of EcNone.
			for _, id := range []int64{2, 99} {
				if got, code := impl.UpdateRow(s, db, table, id, vals, replace); !isForm(code) || len(got) != 0 {
					t.Errorf("%s: UpdateRow is %v, %d", what, got, code)
				}
			}
		}
	}
	deleteForm := func(what string, s []impl.Table, db []impl.Data, table int64) {
		t.Helper()
		for _, id := range []int64{2, 99} {
			if got, code := impl.DeleteRow(s, db, table, id); !isForm(code) || len(got) != 0 {
				t.Errorf("%s: DeleteRow is %v, %d", what, got, code)
			}
		}
	}
	right := valsOf("3 30 null")
	for _, table := range []int64{-1, 2, 3, math.MaxInt64, math.MinInt64, 1 << 32} {
		form("no such table", s, dbOf(shopDb), table, right)
		deleteForm("no such table", s, dbOf(shopDb), table)
	}
	for what, db := range map[string]string{"too few Data": "", "too many Data": "//", "Ids that do not rise": "4 1 10 'a'; 2 2 20 null /", "an Id of 0": "0 1 10 'a' /", "a row that does not fit": "/ 1 1"} {
		form(what, s, dbOf(db), 0, right)
		deleteForm(what, s, dbOf(db), 0)
	}
	form("a schema that is not right", wrong, dbOf(shopDb), 0, right)
	deleteForm("a schema that is not right", wrong, dbOf(shopDb), 0)
	form("nothing at all", nil, nil, 0, nil)
	deleteForm("nothing at all", nil, nil, 0)
	for _, vals := range [][]impl.Val{nil, valsOf("3"), valsOf("3 30"), valsOf("3 30 null null"), valsOf("3 30 30"), valsOf("'a' 30 null"), valsOf("3 'a' null"), nulls(1000)} {
		form("values that do not fit", s, dbOf(shopDb), 0, vals)
	}
	for _, v := range wrongVals() {
		form("a value that is not right", s, dbOf(shopDb), 0, []impl.Val{num(3), v, {}})
	}
	for _, id := range []int64{0, 1, 3, 5, -2, impl.MaxNum, math.MaxInt64, math.MinInt64, 2 + 1<<32} {
		checkDelete(t, "no such row", s, shopDb, 0, id, impl.EcNone, "")
		// EcNone is told ahead of what is wrong with the values.
		for _, row := range []string{"3 30 null", "null 30 null", "9 30 null", "1 10 null"} {
			checkUpdate(t, "no such row", s, shopDb, 0, id, row, false, impl.EcNone, "")
			checkUpdate(t, "no such row, with replace", s, shopDb, 0, id, row, true, impl.EcNone, "")
		}
	}
	checkDelete(t, "a row of another table", s, "1 1 1 null / 7 1 1", 0, 7, impl.EcNone, "")
}
