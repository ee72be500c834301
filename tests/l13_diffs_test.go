package tests

import (
	"fmt"
	"math"
	"slices"
	"strings"
	"testing"

	"loop.example/g00570/impl"
)

// changed is a change of values that valsOf reads.
func changed(table int64, id int64, old string, now string) impl.Change {
	return impl.Change{Table: table, Id: id, Old: valsOf(old), Now: valsOf(now)}
}

// changesText has a line for each.
func changesText(l []impl.Change) string {
	var out strings.Builder
	for _, c := range l {
		fmt.Fprintf(&out, "%d %d: %s -> %s\n", c.Table, c.Id, strings.Join(wordsOf(c.Old), " "), strings.Join(wordsOf(c.Now), " "))
	}
	return out.String()
}

// checkDiff holds the diff of two databases against what it should be, and leads from one to the other and back.
func checkDiff(t *testing.T, what string, s []impl.Table, a []impl.Data, b []impl.Data, want ...impl.Change) {
	t.Helper()
	got, ok := impl.DiffOf(s, a, b)
	if !ok || changesText(got) != changesText(want) {
		t.Errorf("%s: the diff is\n%s%v, want\n%s", what, changesText(got), ok, changesText(want))
	}
	checkApplied(t, what, s, a, got, true, b)
	checkApplied(t, what+", turned round", s, b, impl.Inverse(got), true, a)
	back, ok := impl.DiffOf(s, b, a)
	if !ok || len(back) != len(want) {
		t.Errorf("%s: the diff from behind is\n%s%v", what, changesText(back), ok)
	}
	checkApplied(t, what+", from behind", s, b, back, true, a)
}

// checkApplied wants no database when it is not to be done.
func checkApplied(t *testing.T, what string, s []impl.Table, db []impl.Data, l []impl.Change, wantOk bool, want []impl.Data) {
	t.Helper()
	got, ok := impl.Applied(s, db, l)
	if !wantOk {
		want = nil
	}
	if ok != wantOk || !same(got, want) {
		t.Errorf("%s: %q by\n%sis %v, %q, want %v, %q", what, dbText(db), changesText(l), ok, dbText(got), wantOk, dbText(want))
	}
}

// checkMade is for changes that can be made of what dbOf reads.
func checkMade(t *testing.T, what string, s []impl.Table, db string, want string, l ...impl.Change) {
	t.Helper()
	checkApplied(t, what, s, dbOf(db), l, true, dbOf(want))
	checkApplied(t, what+", turned round", s, dbOf(want), impl.Inverse(l), true, dbOf(db))
}

// checkNotMade puts what can be made ahead of and behind the changes, too.
func checkNotMade(t *testing.T, what string, s []impl.Table, db string, l ...impl.Change) {
	t.Helper()
	first, last := changed(2, 50, "", "1"), changed(2, 51, "", "1")
	checkApplied(t, what, s, dbOf(db), l, false, nil)
	checkApplied(t, what+", behind a good one", s, dbOf(db), append([]impl.Change{first}, l...), false, nil)
	checkApplied(t, what+", ahead of a good one", s, dbOf(db), append(slices.Clone(l), last), false, nil)
}

func TestDiffs(t *testing.T) {
	s := stall()
	check := func(what string, a string, b string, want ...impl.Change) {
		t.Helper()
		checkDiff(t, what, s, dbOf(a), dbOf(b), want...)
	}
	check("itself", stallDb, stallDb)
	check("no rows", "/ / /", "/ / /")
	check("a row more", "/ / /", "/ 5 7 / /", changed(1, 5, "", "7"))
	check("a row less", "/ 5 7 / /", "/ / /", changed(1, 5, "7", ""))
	check("a row that is another one", "/ 5 7 / /", "/ 5 8 / /", changed(1, 5, "7", "8"))
	check("one table that is emptied, one that is filled", "1 4 'b' 7; 2 3 'a' null / / /", "/ 1 4; 2 3 / /", changed(0, 1, "4 'b' 7", ""), changed(0, 2, "3 'a' null", ""), changed(1, 1, "", "4"), changed(1, 2, "", "3"))
	check("the same values under another Id", "/ 5 7 / /", "/ 6 7 / /", changed(1, 5, "7", ""), changed(1, 6, "", "7"))
	check("under an Id ahead", "/ 6 7 / /", "/ 5 7 / /", changed(1, 5, "", "7"), changed(1, 6, "7", ""))
	check("in another table", "/ 5 7 / /", "/ / 5 7 /", changed(1, 5, "7", ""), changed(2, 5, "", "7"))
	check("two changed about", "/ 5 7; 6 8 / /", "/ 5 8; 6 7 / /", changed(1, 5, "7", "8"), changed(1, 6, "8", "7"))
	check("one value of many", "1 4 'b' 7; 2 3 'a' null; 9 1 null null / / /", "1 4 'b' 7; 2 3 'a' 0; 9 1 null null / / /", changed(0, 2, "3 'a' null", "3 'a' 0"))
	check("each value", "1 1 'a' 1; 2 1 'a' 1; 3 1 'a' 1 / / /", "1 2 'a' 1; 2 1 '' 1; 3 1 'a' null / / /", changed(0, 1, "1 'a' 1", "2 'a' 1"), changed(0, 2, "1 'a' 1", "1 '' 1"), changed(0, 3, "1 'a' 1", "1 'a' null"))
	check("ahead, between and behind", "/ 2 1; 4 1; 6 1 / /", "/ 1 1; 2 1; 3 1; 4 1; 5 1; 6 1; 7 1 / /", changed(1, 1, "", "1"), changed(1, 3, "", "1"), changed(1, 5, "", "1"), changed(1, 7, "", "1"))
	check("the first and the last", "/ 1 1; 5 5; 1000000000 2 / /", "/ 5 5 / /", changed(1, 1, "1", ""), changed(1, impl.MaxNum, "2", ""))
	check("other rows in turn", "/ 1 1; 3 3; 5 5 / /", "/ 2 2; 4 4; 6 6 / /", changed(1, 1, "1", ""), changed(1, 2, "", "2"), changed(1, 3, "3", ""), changed(1, 4, "", "4"), changed(1, 5, "5", ""), changed(1, 6, "", "6"))
	check("nulls, and what has flaws", "/ 1 null; 2 null / /", "/ 1 1; 2 null; 3 null / /", changed(1, 1, "null", "1"), changed(1, 3, "", "null"))
	check("each table", "1 1 'a' 1 / 1 1 / 1 1 / 1 1 2 3 4 5 6 7 8", "1 1 'b' 1 / / 2 1 / 1 1 2 3 4 5 6 7 9", changed(0, 1, "1 'a' 1", "1 'b' 1"), changed(1, 1, "1", ""), changed(2, 1, "1", ""), changed(2, 2, "", "1"), changed(3, 1, "1 2 3 4 5 6 7 8", "1 2 3 4 5 6 7 9"))
	checkDiff(t, "no tables", nil, nil, nil)
}

func TestDiffsOfFullTables(t *testing.T) {
	s := stall()
	some := func(from int64, step int64) []impl.Data {
		db := make([]impl.Data, 4)
		for i := range int64(impl.MaxRows) {
			db[1].Rows = append(db[1].Rows, row(from+i*step, num(i)))
		}
		return db
	}
	none := make([]impl.Data, 4)
	for what, pair := range map[string][2][]impl.Data{
		"emptied": {some(1, 1), none}, "others behind": {some(1, 1), some(61, 1)}, "others ahead": {some(2000, 1), some(61, 1)}, "others between": {some(1, 2), some(2, 2)}, "half of them": {some(1, 1), some(31, 1)}, "the same": {some(7, 3), some(7, 3)}, "others at the end": {some(1, 1), some(impl.MaxNum-impl.MaxRows+1, 1)},
	} {
		l, ok := impl.DiffOf(s, pair[0], pair[1])
		if !ok || !slices.IsSortedFunc(l, func(a impl.Change, b impl.Change) int { return int(a.Id - b.Id) }) {
			t.Errorf("%s: %v, %s", what, ok, changesText(l))
		}
		checkApplied(t, what, s, pair[0], l, true, pair[1])
		checkApplied(t, what+", turned round", s, pair[1], impl.Inverse(l), true, pair[0])
	}
}

func TestDiffsOfDbsThatAreNotRight(t *testing.T) {
	check := func(what string, s []impl.Table, a []impl.Data, b []impl.Data) {
		t.Helper()
		if l, ok := impl.DiffOf(s, a, b); ok || len(l) != 0 {
			t.Errorf("%s: %v, %s", what, ok, changesText(l))
		}
	}
	s, right := stall(), dbOf(stallDb)
	for i, wrong := range wrongStalls() {
		what := fmt.Sprint("database ", i)
		check(what+" behind a right one", s, right, wrong)
		check(what+" ahead of a right one", s, wrong, right)
		check(what+" and itself", s, wrong, wrong)
		checkApplied(t, what, s, wrong, nil, false, nil)
		checkApplied(t, what, s, wrong, []impl.Change{changed(2, 50, "", "1")}, false, nil)
	}
	// What comes of it would be right, but what it comes of is not.
	long := dbOf(stallDb)
	long[2].Rows = nil
	for i := range int64(impl.MaxRows + 1) {
		long[2].Rows = append(long[2].Rows, row(i+1, num(1)))
	}
	checkApplied(t, "a row too many, taken out", s, long, []impl.Change{changed(2, 5, "1", "")}, false, nil)
	wrong := stall()
	wrong[3].Key = nil
	check("a schema that is not right", wrong, right, right)
	checkApplied(t, "a schema that is not right", wrong, right, nil, false, nil)
	check("no tables, but Data", nil, right, right)
	check("no Data", s, nil, nil)
}

func TestAppliedChanges(t *testing.T) {
	s := stall()
	const db = "1 4 'b' 7; 3 2 'b' 5 / 5 7; 8 7 / /"
	checkMade(t, "none", s, db, db)
	checkMade(t, "a row is put in ahead", s, db, "1 4 'b' 7; 3 2 'b' 5 / 1 9; 5 7; 8 7 / /", changed(1, 1, "", "9"))
	checkMade(t, "a row is put in between", s, db, "1 4 'b' 7; 3 2 'b' 5 / 5 7; 6 9; 8 7 / /", changed(1, 6, "", "9"))
	checkMade(t, "a row is put in behind", s, db, "1 4 'b' 7; 3 2 'b' 5 / 5 7; 8 7; 1000000000 9 / /", changed(1, impl.MaxNum, "", "9"))
	checkMade(t, "a row of an empty table", s, db, "1 4 'b' 7; 3 2 'b' 5 / 5 7; 8 7 / 2 1 / 3 1 2 3 4 5 6 7 8", changed(3, 3, "", "1 2 3 4 5 6 7 8"), changed(2, 2, "", "1"))
	checkMade(t, "the first row is taken out", s, db, "1 4 'b' 7; 3 2 'b' 5 / 8 7 / /", changed(1, 5, "7", ""))
	checkMade(t, "all rows are taken out", s, db, "/ / /", changed(1, 8, "7", ""), changed(0, 1, "4 'b' 7", ""), changed(1, 5, "7", ""), changed(0, 3, "2 'b' 5", ""))
	checkMade(t, "a row is changed", s, db, "1 4 'b' 7; 3 2 'b' null / 5 7; 8 7 / /", changed(0, 3, "2 'b' 5", "2 'b' null"))
	checkMade(t, "a row is changed twice", s, db, "1 4 'b' 7; 3 2 'b' 5 / 5 9; 8 7 / /", changed(1, 5, "7", "8"), changed(1, 5, "8", "9"))
	checkMade(t, "a row is changed and changed back", s, db, db, changed(1, 5, "7", "8"), changed(1, 5, "8", "7"))
	checkMade(t, "a row is taken out and put in", s, db, "1 4 'b' 7; 3 2 'b' 5 / 5 8; 8 7 / /", changed(1, 5, "7", ""), changed(1, 5, "", "8"))
	checkMade(t, "a row is put in and taken out", s, db, db, changed(1, 6, "", "8"), changed(1, 6, "8", ""))
	checkMade(t, "a row is put in, changed and changed", s, db, "1 4 'b' 7; 3 2 'b' 5 / 5 7; 6 null; 8 7 / /", changed(1, 6, "", "8"), changed(1, 6, "8", "9"), changed(1, 6, "9", "null"))
	checkMade(t, "one is put in thrice", s, db, "1 4 'b' 7; 3 2 'b' 5 / 5 7; 6 3; 8 7 / /", changed(1, 6, "", "1"), changed(1, 6, "1", ""), changed(1, 6, "", "2"), changed(1, 6, "2", ""), changed(1, 6, "", "3"))
	checkMade(t, "the same Id in two tables", s, db, "1 4 'b' 7; 3 2 'b' 5; 5 1 null null / 8 7 / /", changed(0, 5, "", "1 null null"), changed(1, 5, "7", ""))
	checkMade(t, "Ids that fall", s, db, "1 4 'b' 7; 3 2 'b' 5 / 1 1; 2 1; 3 1; 5 7; 8 7 / /", changed(1, 3, "", "1"), changed(1, 2, "", "1"), changed(1, 1, "", "1"))
	// What has flaws is right: a null and a Key twice.
	checkMade(t, "flaws", s, db, "1 4 'b' 7; 3 2 'b' 5; 4 null null null / 5 8; 8 7; 9 8 / /", changed(0, 4, "", "null null null"), changed(1, 9, "", "8"), changed(1, 5, "7", "8"))
}

func TestChangesThatCanNotBeMade(t *testing.T) {
	s := stall()
	const db = "1 4 'b' 7; 3 2 'b' 5 / 5 7; 8 7 / /"
	for what, l := range map[string][]impl.Change{
		"another Old": {changed(1, 5, "8", "9")}, "the Old of another row": {changed(0, 1, "2 'b' 5", "2 'b' 6")}, "an Old of a row that is not there": {changed(1, 6, "7", "9")}, "an Old in an empty table": {changed(2, 5, "7", "9")}, "the Old of another table": {changed(2, 5, "7", "")},
		"no Old of a row that is there": {changed(1, 5, "", "9")}, "no Old, the same values": {changed(1, 5, "", "7")}, "another first value": {changed(0, 1, "5 'b' 7", "1 'b' 7")}, "another value between": {changed(0, 1, "4 'a' 7", "4 'c' 7")}, "another last value": {changed(0, 1, "4 'b' null", "4 'b' 8")},
		"taken out by another Old": {changed(1, 5, "8", "")}, "taken out where none is": {changed(1, 6, "7", "")},
		"alike": {changed(1, 5, "7", "7")}, "alike, of more values": {changed(0, 1, "4 'b' 7", "4 'b' 7")}, "both empty": {changed(1, 6, "", "")}, "both empty, of a row that is there": {changed(1, 5, "", "")}, "alike, and not what is there": {changed(1, 5, "9", "9")},
		"too few values": {changed(0, 1, "4 'b' 7", "4 'b'")}, "too many values": {changed(0, 1, "4 'b' 7", "4 'b' 7 8")}, "a text for a number": {changed(1, 5, "7", "'a'")}, "a number for a text": {changed(0, 1, "4 'b' 7", "4 5 7")}, "too many values of a new row": {changed(1, 6, "", "1 2")}, "a text in a new row": {changed(0, 6, "", "'a' 'b' 1")},
		"too few values of Old": {changed(0, 1, "4 'b'", "4 'b' 8")}, "too many values of Old": {changed(0, 1, "4 'b' 7 8", "4 'b' 8")}, "a text in Old": {changed(1, 5, "'a'", "8")}, "a text in Old, taken out": {changed(1, 6, "'a'", "")},
		"the second one of a row": {changed(1, 5, "7", "8"), changed(1, 5, "7", "9")}, "the same twice": {changed(1, 5, "7", "8"), changed(1, 5, "7", "8")}, "put in twice": {changed(1, 6, "", "8"), changed(1, 6, "", "8")}, "put in twice, unlike": {changed(1, 6, "", "8"), changed(1, 6, "", "9")}, "taken out twice": {changed(1, 5, "7", ""), changed(1, 5, "7", "")}, "changed behind its going": {changed(1, 5, "7", ""), changed(1, 5, "7", "8")},
		"in the wrong order": {changed(1, 6, "8", "9"), changed(1, 6, "", "8")}, "in another table, twice": {changed(2, 6, "", "8"), changed(1, 6, "8", "")},
	} {
		checkNotMade(t, what, s, db, l...)
	}
	for _, id := range []int64{0, -1, impl.MaxNum + 1, math.MaxInt64, math.MinInt64, 1<<32 + 5} {
		for _, c := range []impl.Change{changed(1, id, "7", "8"), changed(1, id, "7", ""), changed(1, id, "", "7"), changed(1, id, "", "")} {
			checkNotMade(t, fmt.Sprint("Id ", id), s, db, c)
		}
		checkNotMade(t, fmt.Sprint("put in and taken out, Id ", id), s, db, changed(1, id, "", "7"), changed(1, id, "7", ""))
	}
	for _, table := range []int64{-1, 4, 5, math.MaxInt64, math.MinInt64, 1 << 32, 1<<32 + 1} {
		for _, c := range []impl.Change{changed(table, 5, "7", "8"), changed(table, 5, "7", ""), changed(table, 6, "", "7"), changed(table, 6, "", "")} {
			checkNotMade(t, fmt.Sprint("table ", table), s, db, c)
		}
	}
	checkApplied(t, "no tables", nil, nil, []impl.Change{{Id: 1, Now: valsOf("1")}}, false, nil)
	checkApplied(t, "no tables and no changes", nil, nil, nil, true, nil)
	for _, wrong := range wrongVals() {
		with := func(old []impl.Val, now []impl.Val) impl.Change {
			return impl.Change{Table: 1, Id: 5, Old: old, Now: now}
		}
		one := []impl.Val{wrong}
		checkNotMade(t, "a value that is not right", s, db, with(valsOf("7"), one))
		checkNotMade(t, "an old value that is not right", s, db, with(one, valsOf("8")))
		checkNotMade(t, "an old value that is not right, taken out", s, db, with(one, nil))
		checkNotMade(t, "a new row that is not right", s, "/ / /", with(nil, one))
		checkNotMade(t, "one that is gone at the end", s, "/ / /", with(nil, one), with(one, nil))
		checkNotMade(t, "one that is another at the end", s, "/ / /", with(nil, one), with(one, valsOf("8")))
	}
}

// TestChangesAndFullTables goes to MaxRows, one beyond, and back again.
func TestChangesAndFullTables(t *testing.T) {
	s := stall()
	for _, there := range []int{0, 1, impl.MaxRows - 1, impl.MaxRows} {
		db := make([]impl.Data, 4)
		for i := range there {
			db[1].Rows = append(db[1].Rows, row(int64(10*i+10), num(1)))
		}
		var l []impl.Change
		want := cloned(db)
		for more := range impl.MaxRows + 3 {
			checkApplied(t, fmt.Sprintf("%d rows and %d more", there, more), s, db, l, there+more <= impl.MaxRows, want)
			id := int64(10*more + 1)
			l = append(l, changed(1, id, "", "2"))
			want[1].Rows = append(want[1].Rows, row(id, num(2)))
			slices.SortFunc(want[1].Rows, func(a impl.Row, b impl.Row) int { return int(a.Id - b.Id) })
		}
		checkApplied(t, "all go again, from the last one", s, db, append(slices.Clone(l), impl.Inverse(l)...), true, db)
		for _, c := range l {
			l = append(l, changed(1, c.Id, "2", "3"), changed(1, c.Id, "3", ""))
		}
		checkApplied(t, "all go again, from the first one", s, db, l, true, db)
		if there == impl.MaxRows {
			checkApplied(t, "one goes behind one more", s, db, []impl.Change{changed(1, 7, "", "2"), changed(1, 10, "1", "")}, true, append(slices.Clone(db[:1]), append([]impl.Data{{Rows: append([]impl.Row{row(7, num(2))}, db[1].Rows[1:]...)}}, db[2:]...)...))
			checkApplied(t, "one of another table goes", s, db, []impl.Change{changed(2, 7, "", "2"), changed(1, 7, "", "2"), changed(2, 7, "2", "")}, false, nil)
		}
	}
}

func TestInverse(t *testing.T) {
	check := func(what string, l []impl.Change, want ...impl.Change) {
		t.Helper()
		got := impl.Inverse(l)
		if !same(got, want) {
			t.Errorf("%s:\n%swant\n%s", what, changesText(got), changesText(want))
		}
		if again := impl.Inverse(got); !same(again, l) {
			t.Errorf("%s: turned round twice:\n%s", what, changesText(again))
		}
	}
	check("none", nil)
	check("an empty list", []impl.Change{})
	check("one", []impl.Change{changed(1, 5, "7", "8")}, changed(1, 5, "8", "7"))
	check("some", []impl.Change{changed(1, 5, "7", "8"), changed(0, 9, "", "1 'a' null"), changed(2, 1, "3", "")}, changed(2, 1, "", "3"), changed(0, 9, "1 'a' null", ""), changed(1, 5, "8", "7"))
	// Nothing is asked of the changes.
	check("alike, empty, of no table", []impl.Change{{}, changed(-7, math.MinInt64, "1", "1"), changed(math.MaxInt64, 0, "1 2 3 4 5 6 7 8 9", "'a'")}, changed(math.MaxInt64, 0, "'a'", "1 2 3 4 5 6 7 8 9"), changed(-7, math.MinInt64, "1", "1"), impl.Change{})
	wrong := impl.Change{Id: 1, Old: wrongVals(), Now: nulls(1000)}
	check("values that are not right", []impl.Change{wrong, wrong}, impl.Change{Id: 1, Old: wrong.Now, Now: wrong.Old}, impl.Change{Id: 1, Old: wrong.Now, Now: wrong.Old})
	var long, round []impl.Change
	for i := range int64(10000) {
		long = append(long, impl.Change{Table: i, Id: -i, Old: []impl.Val{num(i)}})
		round = append(round, impl.Change{Table: 9999 - i, Id: i - 9999, Now: []impl.Val{num(9999 - i)}})
	}
	check("many", long, round...)
}

// diffOf is what the chapter says of a diff, told here once more: a database as a list of its rows.
func (m *model) diffOf(b []impl.Data) []impl.Change {
	var l []impl.Change
	for table := range m.s {
		other := model{m.s, b}
		var ids []int64
		for _, r := range slices.Concat(m.db[table].Rows, b[table].Rows) {
			ids = append(ids, r.Id)
		}
		slices.Sort(ids)
		for _, id := range slices.Compact(ids) {
			if old, now := m.vals(table, id), other.vals(table, id); !slices.Equal(old, now) {
				l = append(l, impl.Change{Table: int64(table), Id: id, Old: old, Now: now})
			}
		}
	}
	return l
}

// applied makes the changes, each of which is of a table that there is, and tells whether they can be made.
func (m *model) applied(l []impl.Change) bool {
	for _, c := range l {
		table, i := int(c.Table), m.at(int(c.Table), c.Id)
		db := model{m.s, make([]impl.Data, len(m.s))}
		for _, vals := range [][]impl.Val{c.Old, c.Now} {
			if len(vals) > 0 {
				db.db[table].Rows = []impl.Row{row(1, vals...)}
			}
			if !impl.DbOk(m.s, db.db) {
				return false
			}
		}
		if c.Id < 1 || c.Id > impl.MaxNum || slices.Equal(c.Old, c.Now) || !slices.Equal(m.vals(table, c.Id), c.Old) {
			return false
		}
		rows := m.db[table].Rows
		if i >= 0 {
			rows = slices.Delete(rows, i, i+1)
		}
		if len(c.Now) > 0 {
			rows = append(rows, row(c.Id, c.Now...))
		}
		slices.SortFunc(rows, func(a impl.Row, b impl.Row) int { return int(a.Id - b.Id) })
		m.db[table].Rows = rows
	}
	return impl.DbOk(m.s, m.db)
}

// someChange is of a row that is there, mostly one that can be made.
func (d *dice) someChange(s []impl.Table, db []impl.Data) impl.Change {
	table := d.below(len(s))
	m := model{s, db}
	c := impl.Change{Table: int64(table), Id: d.someId(db[table])}
	if c.Old = slices.Clone(m.vals(table, c.Id)); d.below(12) == 0 {
		c.Old = d.row(s, db, table)
	}
	if d.below(3) > 0 {
		c.Now = d.row(s, db, table)
	}
	if d.below(20) == 0 && len(c.Now) > 0 {
		c.Now[d.below(len(c.Now))] = text("a")
	}
	return c
}

// TestDiffsAgainstTheModel has diffs of many pairs, and changes that lead on from many databases.
func TestDiffsAgainstTheModel(t *testing.T) {
	d := dice(61)
	met := map[bool]int{}
	for i := range 4000 {
		s := d.schema()
		a, b := d.anyDb(s), d.anyDb(s)
		if d.below(3) == 0 {
			b = cloned(a)
		}
		for range d.below(4) {
			x := d.stmt(t, s, b)
			b, _, _ = impl.Exec(s, b, x)
		}
		m := model{s, cloned(a)}
		checkDiff(t, fmt.Sprint("pair ", i), s, a, b, m.diffOf(b)...)
		var l []impl.Change
		on := cloned(a)
		for range d.below(6) {
			c := d.someChange(s, on)
			l = append(l, c)
			if next, ok := impl.Applied(s, on, []impl.Change{c}); ok {
				on = next
			}
		}
		can := m.applied(l)
		checkApplied(t, fmt.Sprint("changes ", i), s, a, l, can, m.db)
		met[can]++
		if can {
			checkApplied(t, fmt.Sprint("changes turned round ", i), s, m.db, impl.Inverse(l), true, a)
		}
		if t.Failed() {
			return
		}
	}
	if met[true] < 500 || met[false] < 500 {
		t.Errorf("changes that can be made %d times, others %d times", met[true], met[false])
	}
}
