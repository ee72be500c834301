package tests

import (
	"math"
	"slices"
	"testing"

	"loop.example/g00570/impl"
)

func row(id int64, vals ...impl.Val) impl.Row { return impl.Row{Id: id, Vals: vals} }

// townDb is a sound database for town.
func townDb() []impl.Data {
	null := impl.Val{}
	return []impl.Data{
		{Rows: []impl.Row{row(2, text("x"), num(1), text("de")), row(3, null, num(2), text("de")), row(9, text("x"), num(1), text("fr"))}},
		{Rows: []impl.Row{
			row(1, num(10), text("ann"), num(10), text("de"), num(1), num(99)),
			row(2, num(11), null, num(10), text("fr"), num(1), null),
			row(5, num(12), null, null, null, num(7), null),
			row(impl.MaxNum, num(13), text(""), num(11), null, null, num(99)),
		}},
		{Rows: []impl.Row{row(1, num(11), num(10), text("de"), num(1)), row(2, num(11), null, text("fr"), num(1))}},
	}
}

// checked is a table of a number that may be a null, a text that may not, and the checks of these texts.
func checked(t *testing.T, checks ...string) impl.Table {
	table := impl.Table{Name: "t", Cols: []impl.Col{intCol("n"), notNull(textCol("s"))}, Key: []int64{1}}
	for _, c := range checks {
		table.Checks = append(table.Checks, impl.Check{Expr: read(t, c)})
	}
	return table
}

func TestRowsThatFit(t *testing.T) {
	table := checked(t)
	for _, a := range rising() {
		for _, b := range rising() {
			want := a.Kind != impl.VText && b.Kind == impl.VText
			if got := impl.RowOk(table, []impl.Val{a, b}); got != want {
				t.Errorf("RowOk of %#v, %#v is %v", a, b, got)
			}
		}
		for _, wrong := range wrongVals() {
			if impl.RowOk(table, []impl.Val{a, wrong}) || impl.RowOk(table, []impl.Val{wrong, a}) {
				t.Errorf("RowOk of %#v and %#v", a, wrong)
			}
		}
	}
	full := []impl.Val{num(1), text("a"), {}, num(1)}
	for n := range full {
		if got := impl.RowOk(table, full[:n]); got != (n == 2) {
			t.Errorf("RowOk of %d values is %v", n, got)
		}
	}
	if impl.RowOk(table, nil) || impl.RowOk(table, nulls(2)) || impl.RowOk(table, full) || impl.RowOk(table, nulls(1000)) {
		t.Error("rows that do not fit are right")
	}
}

func TestRowsAtTheMostColumns(t *testing.T) {
	for n := 1; n <= impl.MaxCols+1; n++ {
		vals := slices.Repeat([]impl.Val{num(1)}, n)
		if got := impl.RowOk(plain("t", n), vals); got != (n <= impl.MaxCols) {
			t.Errorf("%d columns: %v", n, got)
		}
		for i := range n {
			one := slices.Clone(vals)
			one[i] = impl.Val{}
			if impl.RowOk(plain("t", n), one) {
				t.Errorf("a null in column %d of %d", i, n)
			}
		}
	}
}

func TestRowsOfTablesThatAreNotRight(t *testing.T) {
	vals := []impl.Val{num(1), text("a")}
	for i, change := range []func(t *impl.Table){
		func(t *impl.Table) { t.Name = "" },
		func(t *impl.Table) { t.Key = nil },
		func(t *impl.Table) { t.Key = []int64{0} },
		func(t *impl.Table) { t.Cols[1].Name = "n" },
		func(t *impl.Table) { t.Cols[0].Default = text("a") },
		func(t *impl.Table) { t.Uniques = []impl.Unique{{}} },
		func(t *impl.Table) { t.Checks = []impl.Check{{}} },
		func(t *impl.Table) { t.Fks = []impl.Fk{{Cols: []int64{0}}} },
	} {
		table := checked(t)
		if !impl.RowOk(table, vals) {
			t.Fatal("a right row")
		}
		change(&table)
		if impl.RowOk(table, vals) {
			t.Errorf("change %d: a row of a table that is not right is right", i)
		}
	}
	// A table is right by itself, whether what it refers to is there or not.
	table := checked(t)
	table.Fks = []impl.Fk{{Cols: []int64{0}, Table: "gone"}}
	if !impl.RowOk(table, vals) || impl.RowOk(impl.Table{}, nil) {
		t.Error("a table that refers to one that is not there")
	}
}

func TestRowsAndChecks(t *testing.T) {
	for _, c := range []struct {
		check string
		n     impl.Val
		want  bool
	}{
		{"#0 5 <", num(4), true}, {"#0 5 <", num(5), false}, {"#0 5 <", impl.Val{}, true},
		{"#0", num(0), false}, {"#0", num(-1), true}, {"#0", impl.Val{}, true},
		{"0", num(1), false}, {"1", num(0), true}, {"null", num(0), true},
		// No truth: a text, a text that is added, a number that is too great.
		{"#1", num(1), false}, {"'a'", num(1), false}, {"#1 not", num(1), false}, {"#0 #1 +", num(1), false}, {"#0 #1 +", impl.Val{}, false},
		{"#0 1 + 0 <", num(impl.MaxNum), false}, {"#0 1 + 0 < not", num(impl.MaxNum), false}, {"#0 1 + 0 < not", num(impl.MaxNum - 1), true}, {"#0 1 + 0 <", impl.Val{}, true},
		{"#0 isnull", impl.Val{}, true}, {"#0 isnull", num(1), false}, {"#1 'a' =", num(1), true}, {"#1 'b' =", num(1), false},
	} {
		vals := []impl.Val{c.n, text("a")}
		for _, checks := range [][]string{{c.check}, {c.check, "1"}, {"1", c.check}, {"null", "1", c.check}} {
			if got := impl.RowOk(checked(t, checks...), vals); got != c.want {
				t.Errorf("checks %q of %s: %v, want %v", checks, impl.ValText(c.n), got, c.want)
			}
		}
	}
}

// TestARowAlone: a row is right just where a database with it alone has no flaw but what it refers to.
func TestARowAlone(t *testing.T) {
	some := []impl.Val{{}, num(0), num(1), num(impl.MaxNum), text(""), text("a"), {Kind: 3}, {N: 1}}
	for _, deferred := range []bool{false, true} {
		for _, c := range []string{"1", "0", "null", "#0", "#1", "#0 1 + 2 <", "#1 'a' =", "#0 isnull"} {
			table := checked(t, "1", c)
			table.Uniques = []impl.Unique{{Cols: []int64{0}}, {Cols: []int64{1, 0}}}
			table.Fks = []impl.Fk{{Cols: []int64{1}, Table: "t"}, {Cols: []int64{0}, Table: "o", Deferred: deferred}}
			s := []impl.Table{plain("o", 1), table}
			for _, a := range some {
				for _, b := range some {
					checkAlone(t, s, []impl.Val{a, b})
				}
				checkAlone(t, s, []impl.Val{a})
				checkAlone(t, s, []impl.Val{a, text("a"), a})
			}
			checkAlone(t, s, nil)
		}
	}
}

func checkAlone(t *testing.T, s []impl.Table, vals []impl.Val) {
	t.Helper()
	l, ok := impl.Flaws(s, []impl.Data{{}, {Rows: []impl.Row{row(7, vals...)}}})
	for _, f := range l {
		ok = ok && f.Kind == impl.FwFk
	}
	if got := impl.RowOk(s[1], vals); got != ok {
		t.Errorf("RowOk of %#v is %v, but alone it has %v", vals, got, l)
	}
}

func checkDb(t *testing.T, what string, s []impl.Table, db []impl.Data, want bool) {
	t.Helper()
	if got := impl.DbOk(s, db); got != want {
		t.Errorf("%s: DbOk is %v, want %v", what, got, want)
	}
	if l, ok := impl.Flaws(s, db); ok != want || !ok && len(l) != 0 {
		t.Errorf("%s: Flaws are %v, %v", what, l, ok)
	}
	if !want && (impl.Sound(s, db) || impl.SoundNow(s, db)) {
		t.Errorf("%s: sound", what)
	}
}

func TestDbsByTables(t *testing.T) {
	s := town()
	checkDb(t, "a right one", s, townDb(), true)
	checkDb(t, "no rows", s, make([]impl.Data, 3), true)
	checkDb(t, "nothing at all", nil, nil, true)
	checkDb(t, "one Data too few", s, townDb()[:2], false)
	checkDb(t, "one Data too many", s, append(townDb(), impl.Data{}), false)
	checkDb(t, "no Data", s, nil, false)
	checkDb(t, "no tables", nil, townDb(), false)
	checkDb(t, "no tables but an empty Data", nil, []impl.Data{{}}, false)
	db := townDb()
	db[0], db[1] = db[1], db[0]
	checkDb(t, "Data in another order", s, db, false)
	wrong := town()
	wrong[1].Fks[0].Table = "x"
	checkDb(t, "a schema that is not right", wrong, townDb(), false)
	checkDb(t, "a schema that is not right, without rows", wrong, make([]impl.Data, 3), false)
	same := []impl.Table{plain("t", 1), plain("t", 1)}
	checkDb(t, "tables of one name", same, make([]impl.Data, 2), false)
}

func TestDbsByRows(t *testing.T) {
	s := []impl.Table{plain("o", 1), plain("t", 1)}
	for n := impl.MaxRows - 1; n <= impl.MaxRows+1; n++ {
		db := make([]impl.Data, 2)
		for i := range n {
			db[1].Rows = append(db[1].Rows, row(int64(i+1), num(int64(i))))
		}
		checkDb(t, "some rows", s, db, n <= impl.MaxRows)
		if got := impl.Sound(s, db); got != (n <= impl.MaxRows) {
			t.Errorf("%d rows: sound is %v", n, got)
		}
	}
	full := make([]impl.Data, impl.MaxTables)
	var most []impl.Table
	for i := range full {
		most = append(most, plain("abcdefgh"[i:], 1))
		for k := range impl.MaxRows {
			full[i].Rows = append(full[i].Rows, row(int64(k+1), num(int64(k))))
		}
	}
	checkDb(t, "MaxTables with MaxRows each", most, full, true)
}

func TestDbsByIds(t *testing.T) {
	s := []impl.Table{plain("o", 1), plain("t", 1)}
	for _, c := range []struct {
		ids  []int64
		want bool
	}{
		{nil, true}, {[]int64{1}, true}, {[]int64{impl.MaxNum}, true}, {[]int64{1, impl.MaxNum}, true}, {[]int64{1, 2, 3}, true}, {[]int64{5, 70, 71}, true},
		{[]int64{0}, false}, {[]int64{-1}, false}, {[]int64{math.MinInt64}, false}, {[]int64{impl.MaxNum + 1}, false}, {[]int64{math.MaxInt64}, false},
		{[]int64{0, 1}, false}, {[]int64{1, impl.MaxNum + 1}, false}, {[]int64{-1, 1}, false},
		{[]int64{1, 1}, false}, {[]int64{2, 1}, false}, {[]int64{1, 3, 2}, false}, {[]int64{1, 2, 2}, false}, {[]int64{3, 1, 2}, false}, {[]int64{impl.MaxNum, impl.MaxNum}, false},
	} {
		var rows []impl.Row
		for i, id := range c.ids {
			rows = append(rows, row(id, num(int64(i))))
		}
		checkDb(t, "Ids in the first table", s, []impl.Data{{Rows: rows}, {}}, c.want)
		checkDb(t, "Ids in the last table", s, []impl.Data{{}, {Rows: rows}}, c.want)
		checkDb(t, "Ids in both tables", s, []impl.Data{{Rows: rows}, {Rows: rows}}, c.want)
	}
}

func TestDbsByValues(t *testing.T) {
	s := []impl.Table{checked(t, "#0 5 <")}
	check := func(vals []impl.Val, want bool) {
		for _, rows := range [][]impl.Row{{row(1, vals...)}, {row(1, vals...), row(2, num(1), text("b"))}, {row(1, num(1), text("b")), row(2, vals...)}} {
			checkDb(t, "values", s, []impl.Data{{Rows: rows}}, want)
		}
	}
	// What only fits is enough: nulls, checks and keys make flaws, not a database that is not right.
	for _, vals := range [][]impl.Val{{num(1), text("a")}, {num(9), text("a")}, nulls(2), {{}, text("b")}, {num(impl.MaxNum), text("123456789012")}} {
		check(vals, true)
	}
	for _, vals := range [][]impl.Val{nil, {num(1)}, {num(1), text("a"), {}}, {text("a"), text("a")}, {num(1), num(1)}, {text("a"), num(1)}, nulls(1), nulls(3)} {
		check(vals, false)
	}
	for _, wrong := range wrongVals() {
		check([]impl.Val{wrong, text("a")}, false)
		check([]impl.Val{num(1), wrong}, false)
	}
}

func TestDbNew(t *testing.T) {
	for _, s := range [][]impl.Table{nil, town()[:1], town()} {
		db, ok := impl.DbNew(s)
		if !ok || len(db) != len(s) || !impl.DbOk(s, db) || !impl.Sound(s, db) || !impl.SoundNow(s, db) {
			t.Errorf("DbNew of %d tables: %v, %v", len(s), db, ok)
		}
		for _, d := range db {
			if len(d.Rows) != 0 {
				t.Error("rows in a new database")
			}
		}
	}
	for _, s := range [][]impl.Table{town()[1:], {{}}, {plain("t", 1), plain("t", 1)}, slices.Repeat([]impl.Table{plain("t", 1)}, 6)} {
		if db, ok := impl.DbNew(s); ok || len(db) != 0 {
			t.Errorf("DbNew of what is not right: %v, %v", db, ok)
		}
	}
}

func TestKeyOf(t *testing.T) {
	vals := []impl.Val{num(7), {}, text("a"), num(0)}
	for _, c := range []struct {
		cols  []int64
		want  []impl.Val
		known bool
	}{
		{[]int64{0}, []impl.Val{num(7)}, true}, {[]int64{1}, []impl.Val{{}}, false}, {[]int64{3}, []impl.Val{num(0)}, true},
		{[]int64{2, 0}, []impl.Val{text("a"), num(7)}, true}, {[]int64{0, 2}, []impl.Val{num(7), text("a")}, true},
		{[]int64{0, 1}, []impl.Val{num(7), {}}, false}, {[]int64{1, 0}, []impl.Val{{}, num(7)}, false},
		{[]int64{3, 2, 1, 0}, []impl.Val{num(0), text("a"), {}, num(7)}, false}, {[]int64{3, 2, 0}, []impl.Val{num(0), text("a"), num(7)}, true},
		{[]int64{4}, nil, false}, {[]int64{-1}, nil, false}, {[]int64{0, 4}, nil, false}, {[]int64{4, 0}, nil, false}, {[]int64{0, -1}, nil, false},
		{[]int64{math.MaxInt64}, nil, false}, {[]int64{math.MinInt64}, nil, false}, {[]int64{1 << 32}, nil, false}, {[]int64{1, 4}, nil, false},
		// Each of these is a column of vals, so their values are told.
		{[]int64{0, 0}, []impl.Val{num(7), num(7)}, true}, {[]int64{1, 1}, nulls(2), false}, {nil, nil, true},
	} {
		got, known := impl.KeyOf(c.cols, vals)
		if !slices.Equal(got, c.want) || known != c.known {
			t.Errorf("KeyOf %v is %v, %v, want %v, %v", c.cols, got, known, c.want, c.known)
		}
	}
}

func TestKeyOfWrongValues(t *testing.T) {
	for n := range widest + 3 {
		vals := slices.Repeat([]impl.Val{num(5)}, n)
		for c := range int64(n) {
			got, known := impl.KeyOf([]int64{c}, vals)
			if known != (n <= widest) || known && !slices.Equal(got, vals[:1]) || !known && len(got) != 0 {
				t.Errorf("column %d of %d values: %v, %v", c, n, got, known)
			}
		}
		if got, known := impl.KeyOf([]int64{int64(n)}, vals); known || len(got) != 0 {
			t.Errorf("column %d of as many values: %v, %v", n, got, known)
		}
	}
	for _, wrong := range wrongVals() {
		for _, vals := range [][]impl.Val{{num(1), wrong}, {num(1), {}, wrong}} {
			// A value that is not asked for must be right as well.
			if got, known := impl.KeyOf([]int64{0}, vals); known || len(got) != 0 {
				t.Errorf("KeyOf beside %#v is %v, %v", wrong, got, known)
			}
			if got, known := impl.KeyOf([]int64{int64(len(vals)) - 1}, vals); known || len(got) != 0 {
				t.Errorf("KeyOf of %#v is %v, %v", wrong, got, known)
			}
		}
	}
}

func checkFound(t *testing.T, s []impl.Table, db []impl.Data, table int64, cols []int64, key []impl.Val, want ...int64) {
	t.Helper()
	if got := impl.FindRows(s, db, table, cols, key); !slices.Equal(got, want) {
		t.Errorf("FindRows in table %d of %v in %v is %v, want %v", table, key, cols, got, want)
	}
}

func TestFindRows(t *testing.T) {
	s, db := town(), townDb()
	one := func(v ...impl.Val) []impl.Val { return v }
	checkFound(t, s, db, 0, []int64{0}, one(text("x")), 2, 9)
	checkFound(t, s, db, 0, []int64{1}, one(num(1)), 2, 9)
	checkFound(t, s, db, 0, []int64{2, 1}, one(text("de"), num(1)), 2)
	checkFound(t, s, db, 0, []int64{1, 2}, one(num(1), text("de")), 2)
	checkFound(t, s, db, 0, []int64{1, 2, 0}, one(num(1), text("fr"), text("x")), 9)
	checkFound(t, s, db, 0, []int64{2, 1}, one(num(1), text("de")))
	checkFound(t, s, db, 0, []int64{2, 1}, one(text("fr"), num(2)))
	checkFound(t, s, db, 1, []int64{5}, one(num(99)), 1, impl.MaxNum)
	checkFound(t, s, db, 1, []int64{1}, one(text("")), impl.MaxNum)
	checkFound(t, s, db, 1, []int64{2}, one(num(10)), 1, 2)
	checkFound(t, s, db, 2, []int64{0}, one(num(11)), 1, 2)
	checkFound(t, s, db, 2, []int64{0}, one(num(12)))
	// Nulls are not found, alone or beside what is.
	checkFound(t, s, db, 0, []int64{0}, nulls(1))
	checkFound(t, s, db, 1, []int64{3, 4}, one(impl.Val{}, num(7)))
	checkFound(t, s, db, 1, []int64{4, 3}, one(num(7), impl.Val{}))
	checkFound(t, s, db, 1, []int64{3, 4}, nulls(2))
	checkFound(t, s, db, 1, []int64{4}, one(num(7)), 5)
	// A key that is none of these columns.
	checkFound(t, s, db, 0, []int64{0}, nil)
	checkFound(t, s, db, 0, []int64{0}, one(text("x"), num(1)))
	checkFound(t, s, db, 0, []int64{0, 1}, one(text("x")))
	checkFound(t, s, db, 0, []int64{1}, one(text("1")))
	checkFound(t, s, db, 0, []int64{1}, one(impl.Val{Kind: impl.VInt, N: 1, S: "x"}))
	checkFound(t, s, db, 0, []int64{0}, one(impl.Val{Kind: impl.VText, N: 1, S: "x"}))
	for _, wrong := range wrongVals() {
		checkFound(t, s, db, 0, []int64{0}, one(wrong))
		checkFound(t, s, db, 0, []int64{1}, one(wrong))
	}
}

func TestFindRowsOfWhatIsNotRight(t *testing.T) {
	s, db := town(), townDb()
	for _, table := range []int64{-1, 3, 4, math.MaxInt64, math.MinInt64, 1 << 32} {
		checkFound(t, s, db, table, []int64{1}, []impl.Val{num(1)})
	}
	for _, cols := range wrongColumns() {
		checkFound(t, s, db, 0, cols, slices.Repeat([]impl.Val{num(1)}, len(cols)))
	}
	checkFound(t, s, db, 0, []int64{1, 1}, []impl.Val{num(1), num(1)})
	checkFound(t, s, db, 0, nil, nil)
	checkFound(t, s, db[:2], 0, []int64{1}, []impl.Val{num(1)})
	checkFound(t, s, append(townDb(), impl.Data{}), 0, []int64{1}, []impl.Val{num(1)})
	checkFound(t, s[:1], db, 0, []int64{1}, []impl.Val{num(1)})
	checkFound(t, nil, nil, 0, []int64{0}, []impl.Val{num(1)})
	// A row that is not right in another table.
	wrong := townDb()
	wrong[2].Rows[1].Id = 1
	checkFound(t, s, wrong, 0, []int64{1}, []impl.Val{num(1)})
	wrong = townDb()
	wrong[0].Rows[2].Vals[0] = num(1)
	checkFound(t, s, wrong, 0, []int64{1}, []impl.Val{num(1)})
	// Flaws do not matter.
	db[2].Rows = append(db[2].Rows, row(4, num(11), num(77), text("de"), num(1)), row(6, num(50), num(77), text("yy"), num(1)))
	checkFound(t, s, db, 2, []int64{1}, []impl.Val{num(77)}, 4, 6)
	checkFound(t, s, db, 2, []int64{0, 2, 3}, []impl.Val{num(11), text("de"), num(1)}, 1, 4)
}

// TestFoundIsJustTheRows holds what is found against each row, for each list of columns and each key of some values.
func TestFoundIsJustTheRows(t *testing.T) {
	table := impl.Table{Name: "t", Cols: []impl.Col{intCol("a"), textCol("b"), notNull(intCol("c"))}, Key: []int64{2}}
	s := []impl.Table{plain("o", 1), table}
	some := []impl.Val{{}, num(0), num(1), text(""), text("0")}
	db := make([]impl.Data, 2)
	for _, a := range some[:3] {
		for _, b := range []impl.Val{some[0], some[3], some[4]} {
			for _, c := range some[:3] {
				id := int64(3*len(db[1].Rows) + 2)
				db[1].Rows = append(db[1].Rows, row(id, a, b, c))
			}
		}
	}
	var keys [][]impl.Val
	for _, a := range some {
		keys = append(keys, []impl.Val{a})
		for _, b := range some {
			keys = append(keys, []impl.Val{a, b})
			for _, c := range some {
				keys = append(keys, []impl.Val{a, b, c})
			}
		}
	}
	for _, cols := range someColumns() {
		for _, key := range keys {
			var want []int64
			for _, r := range db[1].Rows {
				if k, known := impl.KeyOf(cols, r.Vals); known && slices.Equal(k, key) {
					want = append(want, r.Id)
				}
			}
			checkFound(t, s, db, 1, cols, key, want...)
			checkFound(t, s, db, 0, []int64{0}, key)
		}
	}
}
