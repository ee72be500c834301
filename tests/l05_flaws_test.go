package tests

import (
	"slices"
	"testing"

	"loop.example/g00570/impl"
)

func flaw(kind int64, table int64, id int64) impl.Flaw {
	return impl.Flaw{Kind: kind, Table: table, Id: id}
}

// checkFlaws wants these flaws, and that sound is what has none.
func checkFlaws(t *testing.T, what string, s []impl.Table, db []impl.Data, want ...impl.Flaw) {
	t.Helper()
	got, ok := impl.Flaws(s, db)
	if !ok || !slices.Equal(got, want) {
		t.Errorf("%s: flaws are %v, %v, want %v", what, got, ok, want)
	}
	if sound := impl.Sound(s, db); sound != (len(want) == 0) {
		t.Errorf("%s: sound is %v with %v", what, sound, want)
	}
	if impl.Sound(s, db) && !impl.SoundNow(s, db) {
		t.Errorf("%s: sound, but not for now", what)
	}
}

// one is a database of one table with these rows, whose Ids are 1, 2 ..
func one(rows ...[]impl.Val) []impl.Data {
	var d impl.Data
	for i, vals := range rows {
		d.Rows = append(d.Rows, row(int64(i+1), vals...))
	}
	return []impl.Data{d}
}

func vals(v ...impl.Val) []impl.Val { return v }

func TestNoFlaws(t *testing.T) {
	checkFlaws(t, "nothing at all", nil, nil)
	checkFlaws(t, "no rows", town(), make([]impl.Data, 3))
	checkFlaws(t, "a town", town(), townDb())
	if !impl.SoundNow(town(), townDb()) {
		t.Error("a town is not sound for now")
	}
}

func TestNullsThatMayNotBe(t *testing.T) {
	null := impl.Val{}
	table := impl.Table{Name: "t", Cols: []impl.Col{notNull(intCol("k")), intCol("a"), notNull(textCol("b"))}, Key: []int64{0}}
	s := []impl.Table{table}
	checkFlaws(t, "nulls", s, one(vals(num(1), null, text("a")), vals(null, null, text("a")), vals(num(3), num(3), null), nulls(3)),
		flaw(impl.FwNull, 0, 2), flaw(impl.FwNull, 0, 3), flaw(impl.FwNull, 0, 4))
	// A default is no help where the null is there.
	s[0].Cols[2].Default = text("z")
	db := one(vals(num(1), null, null))
	checkFlaws(t, "a null with a default", s, db, flaw(impl.FwNull, 0, 1))
	if impl.SoundNow(s, db) {
		t.Error("a null that may not be is sound for now")
	}
}

func TestChecksThatFail(t *testing.T) {
	for _, c := range []struct {
		check string
		want  [4]bool
	}{
		// Of 0, 1, MaxNum and a null.
		{"#0", [4]bool{true, false, false, false}},
		{"#0 not", [4]bool{false, true, true, false}},
		{"#0 1 + 5 <", [4]bool{false, false, true, false}},
		{"#0 1 + 5 < not", [4]bool{true, true, true, false}},
		{"#0 isnull", [4]bool{true, true, true, false}},
		{"null", [4]bool{}}, {"1", [4]bool{}}, {"0", [4]bool{true, true, true, true}},
		{"#1", [4]bool{true, true, true, true}}, {"#0 'a' +", [4]bool{true, true, true, true}}, {"#1 isnull not", [4]bool{}},
	} {
		for _, checks := range [][]string{{c.check}, {"1", c.check}, {c.check, "null"}, {c.check, c.check, c.check}} {
			s := []impl.Table{checked(t, checks...)}
			db := one(vals(num(0), text("a")), vals(num(1), text("b")), vals(num(impl.MaxNum), text("c")), vals(impl.Val{}, text("d")))
			var want []impl.Flaw
			for i, fails := range c.want {
				if fails {
					want = append(want, flaw(impl.FwCheck, 0, int64(i+1)))
				}
			}
			checkFlaws(t, "check "+c.check, s, db, want...)
			if got := impl.SoundNow(s, db); got != (len(want) == 0) {
				t.Errorf("check %s: sound for now is %v", c.check, got)
			}
		}
	}
}

func TestKeysAndUniquesTwice(t *testing.T) {
	null := impl.Val{}
	table := impl.Table{Name: "t", Cols: []impl.Col{notNull(intCol("k")), notNull(textCol("l")), intCol("a"), intCol("b")}, Key: []int64{1, 0}, Uniques: []impl.Unique{{Cols: []int64{2, 3}}, {Cols: []int64{3}}}}
	s := []impl.Table{table}
	unique := func(ids ...int64) []impl.Flaw {
		var l []impl.Flaw
		for _, id := range ids {
			l = append(l, flaw(impl.FwUnique, 0, id))
		}
		return l
	}
	first := vals(num(1), text("a"), num(1), num(1))
	for what, c := range map[string]struct {
		rows [][]impl.Val
		want []impl.Flaw
	}{
		"one row alone":                  {[][]impl.Val{first}, nil},
		"half a Key":                     {[][]impl.Val{first, vals(num(1), text("b"), null, null), vals(num(2), text("a"), null, null)}, nil},
		"a Key":                          {[][]impl.Val{first, vals(num(2), text("a"), null, null), vals(num(1), text("a"), null, null)}, unique(1, 3)},
		"a Key three times":              {slices.Repeat([][]impl.Val{vals(num(1), text("a"), null, null)}, 3), unique(1, 2, 3)},
		"a Key and uniques":              {[][]impl.Val{first, first}, unique(1, 2)},
		"half a unique":                  {[][]impl.Val{first, vals(num(2), text("a"), num(1), num(2))}, nil},
		"a unique with a null":           {[][]impl.Val{vals(num(1), text("a"), num(1), null), vals(num(2), text("a"), num(1), null)}, nil},
		"uniques of nulls":               {[][]impl.Val{vals(num(1), text("a"), null, null), vals(num(2), text("a"), null, null)}, nil},
		"the last unique":                {[][]impl.Val{vals(num(1), text("a"), num(8), num(3)), vals(num(2), text("a"), null, num(3))}, unique(1, 2)},
		"one by Key, another by unique":  {[][]impl.Val{first, vals(num(1), text("a"), num(1), num(5)), vals(num(2), text("b"), num(5), num(5)), vals(num(9), text("a"), num(1), num(6))}, unique(1, 2, 3)},
		"columns of one row are alike":   {[][]impl.Val{vals(num(1), text("a"), num(7), num(7)), vals(num(2), text("a"), num(8), num(8))}, nil},
		"values change places":           {[][]impl.Val{vals(num(1), text("a"), num(7), num(8)), vals(num(2), text("a"), num(8), num(7))}, nil},
		"a value in another unique":      {[][]impl.Val{vals(num(1), text("a"), num(7), null), vals(num(2), text("a"), null, num(7))}, nil},
		"the first and the last of four": {[][]impl.Val{vals(num(1), text("a"), null, num(0)), vals(num(2), text("a"), null, num(1)), vals(num(3), text("a"), null, num(2)), vals(num(4), text("a"), null, num(0))}, unique(1, 4)},
	} {
		db := one(c.rows...)
		checkFlaws(t, what, s, db, c.want...)
		if got := impl.SoundNow(s, db); got != (len(c.want) == 0) {
			t.Errorf("%s: sound for now is %v", what, got)
		}
	}
	// A Key with a null is alike with none; the null is a flaw by itself.
	checkFlaws(t, "Keys with nulls", s, one(vals(null, text("a"), null, null), vals(null, text("a"), null, null), nulls(4), nulls(4)),
		flaw(impl.FwNull, 0, 1), flaw(impl.FwNull, 0, 2), flaw(impl.FwNull, 0, 3), flaw(impl.FwNull, 0, 4))
	// Rows of two tables are no rivals.
	two := []impl.Table{plain("a", 1), plain("b", 1)}
	checkFlaws(t, "two tables", two, []impl.Data{one(vals(num(1)))[0], one(vals(num(1)))[0]})
}

func TestReferencesToAnotherTable(t *testing.T) {
	null := impl.Val{}
	to := impl.Table{Name: "to", Cols: []impl.Col{textCol("x"), notNull(intCol("n")), notNull(textCol("s"))}, Key: []int64{2, 1}}
	from := impl.Table{Name: "from", Cols: []impl.Col{intCol("n"), notNull(intCol("k")), textCol("s")}, Key: []int64{1}, Fks: []impl.Fk{{Cols: []int64{2, 0}, Table: "to"}}}
	rows := one(vals(null, num(1), text("a")), vals(text("b"), num(2), text("b")))[0]
	for what, c := range map[string]struct {
		n, s impl.Val
		lost bool
	}{
		"the first": {num(1), text("a"), false}, "the last": {num(2), text("b"), false},
		"a mix of two": {num(1), text("b"), true}, "neither": {num(3), text("c"), true}, "half of it": {num(1), text("c"), true},
		"some nulls": {null, text("a"), false}, "the other null": {num(1), null, false}, "some nulls, not there": {null, text("z"), false}, "all nulls": {null, null, false},
	} {
		for _, deferred := range []bool{false, true} {
			from.Fks[0].Deferred = deferred
			mine := one(vals(c.n, num(1), c.s))[0]
			for place, s := range [][]impl.Table{{from, to}, {to, from}} {
				db := []impl.Data{mine, rows}
				if place == 1 {
					db = []impl.Data{rows, mine}
				}
				var want []impl.Flaw
				if c.lost {
					want = append(want, flaw(impl.FwFk, int64(place), 1))
				}
				checkFlaws(t, what, s, db, want...)
				if got := impl.SoundNow(s, db); got != (deferred || !c.lost) {
					t.Errorf("%s, deferred %v: sound for now is %v", what, deferred, got)
				}
			}
		}
	}
}

// TestReferencesToWhatIsNoKey: values that stand in another column, or in a Key that has a null, are not referred to.
func TestReferencesToWhatIsNoKey(t *testing.T) {
	to := impl.Table{Name: "to", Cols: []impl.Col{notNull(intCol("k")), intCol("u")}, Key: []int64{0}, Uniques: []impl.Unique{{Cols: []int64{1}}}}
	from := plain("from", 2)
	from.Fks = []impl.Fk{{Cols: []int64{1}, Table: "to"}}
	s := []impl.Table{to, from}
	mine := one(vals(num(1), num(5)))[0]
	checkFlaws(t, "a unique", s, []impl.Data{one(vals(num(4), num(5)))[0], mine}, flaw(impl.FwFk, 1, 1))
	checkFlaws(t, "an Id", s, []impl.Data{{Rows: []impl.Row{row(5, num(4), num(4))}}, mine}, flaw(impl.FwFk, 1, 1))
	checkFlaws(t, "a null", s, []impl.Data{one(vals(impl.Val{}, num(5)))[0], mine}, flaw(impl.FwNull, 0, 1), flaw(impl.FwFk, 1, 1))
	checkFlaws(t, "itself", s, []impl.Data{{}, one(vals(num(5), num(5)))[0]}, flaw(impl.FwFk, 1, 1))
	checkFlaws(t, "a row with flaws", s, []impl.Data{one(vals(num(5), num(1)), vals(num(5), num(2)))[0], mine}, flaw(impl.FwUnique, 0, 1), flaw(impl.FwUnique, 0, 2))
}

func TestRowsThatReferToTheirTable(t *testing.T) {
	null := impl.Val{}
	table := impl.Table{Name: "t", Cols: []impl.Col{notNull(intCol("k")), intCol("up"), intCol("on")}, Key: []int64{0}, Fks: []impl.Fk{{Cols: []int64{1}, Table: "t"}, {Cols: []int64{2}, Table: "t"}}}
	lost := func(ids ...int64) []impl.Flaw {
		var l []impl.Flaw
		for _, id := range ids {
			l = append(l, flaw(impl.FwFk, 0, id))
		}
		return l
	}
	for what, c := range map[string]struct {
		rows [][]impl.Val
		want []impl.Flaw
	}{
		"to itself":           {[][]impl.Val{vals(num(1), num(1), num(1))}, nil},
		"to nothing":          {[][]impl.Val{vals(num(1), null, null)}, nil},
		"to one that is lost": {[][]impl.Val{vals(num(1), num(2), null)}, lost(1)},
		"two that are lost":   {[][]impl.Val{vals(num(1), num(2), num(3))}, lost(1)},
		"the last is lost":    {[][]impl.Val{vals(num(1), num(1), num(3))}, lost(1)},
		"to the next row":     {[][]impl.Val{vals(num(1), num(2), null), vals(num(2), null, null)}, nil},
		"to the row ahead":    {[][]impl.Val{vals(num(1), null, null), vals(num(2), null, num(1))}, nil},
		"to each other":       {[][]impl.Val{vals(num(1), num(2), num(1)), vals(num(2), num(1), num(2))}, nil},
		"in a ring, one lost": {[][]impl.Val{vals(num(1), num(2), null), vals(num(2), num(3), null), vals(num(3), num(1), num(4))}, lost(3)},
	} {
		for deferred := range 4 {
			s := []impl.Table{table}
			s[0].Fks = slices.Clone(table.Fks)
			s[0].Fks[0].Deferred, s[0].Fks[1].Deferred = deferred&1 == 1, deferred&2 == 2
			checkFlaws(t, what, s, one(c.rows...), c.want...)
			if got := impl.SoundNow(s, one(c.rows...)); got != (len(flawsNow(s, one(c.rows...))) == 0) {
				t.Errorf("%s, deferred %d: sound for now is %v", what, deferred, got)
			}
		}
	}
}

// TestWaitingReferences: one that can wait does not excuse one that can not, nor any other flaw.
func TestWaitingReferences(t *testing.T) {
	table := impl.Table{Name: "t", Cols: []impl.Col{notNull(intCol("k")), intCol("a"), intCol("b")}, Key: []int64{0}, Fks: []impl.Fk{{Cols: []int64{1}, Table: "t", Deferred: true}, {Cols: []int64{2}, Table: "t"}}}
	s := []impl.Table{table}
	for what, c := range map[string]struct {
		row        []impl.Val
		sound, now bool
	}{
		"neither is lost":           {vals(num(1), num(1), num(1)), true, true},
		"the one that waits":        {vals(num(1), num(9), num(1)), false, true},
		"the one that does not":     {vals(num(1), num(1), num(9)), false, false},
		"both":                      {vals(num(1), num(9), num(9)), false, false},
		"the one that waits, nulls": {vals(num(1), num(9), impl.Val{}), false, true},
		"a null beside it":          {vals(impl.Val{}, num(9), impl.Val{}), false, false},
	} {
		if sound, now := impl.Sound(s, one(c.row)), impl.SoundNow(s, one(c.row)); sound != c.sound || now != c.now {
			t.Errorf("%s: %v, %v, want %v, %v", what, sound, now, c.sound, c.now)
		}
	}
	twice := one(vals(num(1), num(9), impl.Val{}), vals(num(1), impl.Val{}, impl.Val{}))
	checkFlaws(t, "a Key twice beside it", s, twice, flaw(impl.FwUnique, 0, 1), flaw(impl.FwFk, 0, 1), flaw(impl.FwUnique, 0, 2))
	if impl.SoundNow(s, twice) {
		t.Error("a Key twice is sound for now")
	}
	s[0].Checks = []impl.Check{{Expr: []impl.Tok{constant(num(0))}}}
	if impl.SoundNow(s, one(vals(num(1), num(9), impl.Val{}))) {
		t.Error("a check that fails is sound for now")
	}
}

// TestFlawsInOrder: table by table, row by row, kind by kind, each of them once.
func TestFlawsInOrder(t *testing.T) {
	null := impl.Val{}
	a := impl.Table{
		Name:    "a",
		Cols:    []impl.Col{notNull(intCol("k")), notNull(intCol("m")), intCol("u"), intCol("f")},
		Key:     []int64{0},
		Uniques: []impl.Unique{{Cols: []int64{2}}, {Cols: []int64{2}}},
		Checks:  []impl.Check{{Expr: []impl.Tok{constant(num(0))}}, {Expr: []impl.Tok{constant(num(0))}}},
		Fks:     []impl.Fk{{Cols: []int64{3}, Table: "b"}, {Cols: []int64{3}, Table: "b"}},
	}
	b := a
	b.Name = "b"
	s := []impl.Table{a, b}
	all := func(table int64, id int64) []impl.Flaw {
		return []impl.Flaw{flaw(impl.FwNull, table, id), flaw(impl.FwCheck, table, id), flaw(impl.FwUnique, table, id), flaw(impl.FwFk, table, id)}
	}
	rows := []impl.Row{row(3, null, null, num(1), num(9)), row(7, null, null, num(1), num(9))}
	checkFlaws(t, "all of them", s, []impl.Data{{Rows: rows}, {Rows: rows}}, slices.Concat(all(0, 3), all(0, 7), all(1, 3), all(1, 7))...)
	checkFlaws(t, "the last table alone", s, []impl.Data{{}, {Rows: rows}}, slices.Concat(all(1, 3), all(1, 7))...)
}

func TestDbsThatAreNotRightHaveNoFlaws(t *testing.T) {
	for i, change := range []func(s []impl.Table, db []impl.Data){
		func(s []impl.Table, db []impl.Data) { s[0].Name = "" },
		func(s []impl.Table, db []impl.Data) { s[2].Fks[0].Table = "x" },
		func(s []impl.Table, db []impl.Data) { db[0].Rows[0].Id = 0 },
		func(s []impl.Table, db []impl.Data) { db[0].Rows[1].Id = 2 },
		func(s []impl.Table, db []impl.Data) { db[1].Rows[3].Id++ },
		func(s []impl.Table, db []impl.Data) { db[2].Rows[1].Vals = nil },
		func(s []impl.Table, db []impl.Data) { db[2].Rows[1].Vals[0] = text("1") },
		func(s []impl.Table, db []impl.Data) { db[2].Rows[1].Vals[0] = num(impl.MaxNum + 1) },
		func(s []impl.Table, db []impl.Data) { db[0].Rows[0].Vals = append(db[0].Rows[0].Vals, impl.Val{}) },
	} {
		s, db := town(), townDb()
		db[1].Rows[0].Vals[5] = num(100)
		if l, ok := impl.Flaws(s, db); !ok || len(l) != 1 {
			t.Fatal("one flaw:", l, ok)
		}
		change(s, db)
		if l, ok := impl.Flaws(s, db); ok || len(l) != 0 || impl.Sound(s, db) || impl.SoundNow(s, db) {
			t.Errorf("change %d: %v, %v", i, l, ok)
		}
	}
}

// allFlaws is what the chapter says of a right database, told here once more, with the references that wait or without.
func allFlaws(s []impl.Table, db []impl.Data, waiting bool) []impl.Flaw {
	var l []impl.Flaw
	known := func(vals []impl.Val, cols []int64) ([]impl.Val, bool) {
		var out []impl.Val
		for _, c := range cols {
			if vals[c].Kind == impl.VNull {
				return nil, false
			}
			out = append(out, vals[c])
		}
		return out, true
	}
	count := func(rows []impl.Row, cols []int64, key []impl.Val) int {
		n := 0
		for _, r := range rows {
			if k, ok := known(r.Vals, cols); ok && slices.Equal(k, key) {
				n++
			}
		}
		return n
	}
	for i, d := range db {
		for _, r := range d.Rows {
			var has [5]bool
			for c, v := range r.Vals {
				has[impl.FwNull] = has[impl.FwNull] || s[i].Cols[c].NotNull && v.Kind == impl.VNull
			}
			for _, c := range s[i].Checks {
				truth := impl.Truth(c.Expr, r.Vals)
				has[impl.FwCheck] = has[impl.FwCheck] || truth == impl.TruNot || truth == -1
			}
			for _, u := range append([]impl.Unique{{Cols: s[i].Key}}, s[i].Uniques...) {
				key, ok := known(r.Vals, u.Cols)
				has[impl.FwUnique] = has[impl.FwUnique] || ok && count(d.Rows, u.Cols, key) > 1
			}
			for _, fk := range s[i].Fks {
				key, ok := known(r.Vals, fk.Cols)
				to := slices.IndexFunc(s, func(t impl.Table) bool { return t.Name == fk.Table })
				has[impl.FwFk] = has[impl.FwFk] || ok && (waiting || !fk.Deferred) && count(db[to].Rows, s[to].Key, key) == 0
			}
			for kind := int64(impl.FwNull); kind <= impl.FwFk; kind++ {
				if has[kind] {
					l = append(l, flaw(kind, int64(i), r.Id))
				}
			}
		}
	}
	return l
}

func flawsNow(s []impl.Table, db []impl.Data) []impl.Flaw { return allFlaws(s, db, false) }

// TestFlawsOfManyDbs holds the flaws of many small databases against the chapter.
func TestFlawsOfManyDbs(t *testing.T) {
	a := impl.Table{
		Name: "a", Cols: []impl.Col{notNull(intCol("k")), intCol("u"), intCol("f")}, Key: []int64{0},
		Uniques: []impl.Unique{{Cols: []int64{1, 2}}},
		Checks:  []impl.Check{{Expr: read(t, "#1 2 <")}, {Expr: read(t, "#2 1 = not")}},
		Fks:     []impl.Fk{{Cols: []int64{2}, Table: "a"}, {Cols: []int64{1}, Table: "b", Deferred: true}},
	}
	b := impl.Table{
		Name: "b", Cols: []impl.Col{notNull(intCol("k")), intCol("f")}, Key: []int64{0},
		Fks: []impl.Fk{{Cols: []int64{1}, Table: "a", Deferred: true}, {Cols: []int64{0}, Table: "a"}},
	}
	s := []impl.Table{a, b}
	state := uint32(1)
	some := func() impl.Val {
		state = state*1664525 + 1013904223
		if n := int64(state>>24) % 5; n < 4 {
			return num(n)
		}
		return impl.Val{}
	}
	met := map[impl.Flaw]bool{}
	sound, now := 0, 0
	for range 40000 {
		db := make([]impl.Data, 2)
		for id := range int64(some().N + 1) {
			db[0].Rows = append(db[0].Rows, row(2*id+1, some(), some(), some()))
		}
		for id := range int64(some().N) {
			db[1].Rows = append(db[1].Rows, row(id+1, some(), some()))
		}
		want := allFlaws(s, db, true)
		checkFlaws(t, "some database", s, db, want...)
		if got := impl.SoundNow(s, db); got != (len(flawsNow(s, db)) == 0) {
			t.Fatalf("%v: sound for now is %v", db, got)
		}
		for _, f := range want {
			met[f] = true
		}
		if len(want) == 0 {
			sound++
		} else if impl.SoundNow(s, db) {
			now++
		}
	}
	if sound == 0 || now == 0 || len(met) < 20 {
		t.Errorf("too few cases: %d sound, %d sound for now, %d flaws", sound, now, len(met))
	}
}

func TestFlawsOfTheGreatestDb(t *testing.T) {
	s := make([]impl.Table, impl.MaxTables)
	db := make([]impl.Data, impl.MaxTables)
	key := []int64{0, 1, 2, 3, 4, 5, 6, 7}
	for i := range s {
		s[i] = plain("abcdefgh"[i:], impl.MaxCols)
		s[i].Key = key
		s[i].Uniques = slices.Repeat([]impl.Unique{{Cols: key}}, 3)
		s[i].Checks = slices.Repeat([]impl.Check{{Expr: chain(impl.MaxToks)}}, 3)
		s[i].Fks = slices.Repeat([]impl.Fk{{Cols: key, Table: "abcdefgh"}}, 3)
		for n := range impl.MaxRows {
			r := row(int64(n+1), slices.Repeat([]impl.Val{num(1)}, impl.MaxCols)...)
			r.Vals[impl.MaxCols-1] = num(int64(n))
			db[i].Rows = append(db[i].Rows, r)
		}
	}
	checkFlaws(t, "the greatest", s, db)
	db[4].Rows[59].Vals[7] = num(0)
	checkFlaws(t, "the greatest, with a Key twice", s, db, flaw(impl.FwUnique, 4, 1), flaw(impl.FwUnique, 4, 60))
	db[4].Rows[59].Vals[7] = num(60)
	checkFlaws(t, "the greatest, with one lost", s, db, flaw(impl.FwFk, 4, 60))
}
