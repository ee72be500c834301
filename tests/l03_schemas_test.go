package tests

import (
	"math"
	"slices"
	"strings"
	"testing"

	"loop.example/g00570/impl"
)

func intCol(name string) impl.Col { return impl.Col{Name: name, Kind: impl.VInt} }

func textCol(name string) impl.Col { return impl.Col{Name: name, Kind: impl.VText} }

func notNull(c impl.Col) impl.Col {
	c.NotNull = true
	return c
}

// plain is a right table with as many columns of numbers, all NotNull, the first one its Key.
func plain(name string, cols int) impl.Table {
	t := impl.Table{Name: name, Key: []int64{0}}
	for i := range cols {
		t.Cols = append(t.Cols, notNull(intCol(strings.Repeat("c", i%8+1)+strings.Repeat("d", i/8))))
	}
	return t
}

// town has a Key of two kinds, people who refer to a town and to each other, and visits that refer to all.
func town() []impl.Table {
	return []impl.Table{
		{
			Name: "town",
			Cols: []impl.Col{textCol("name"), notNull(intCol("nr")), notNull(textCol("land"))},
			Key:  []int64{2, 1},
		},
		{
			Name:    "person",
			Cols:    []impl.Col{notNull(intCol("id")), textCol("name"), intCol("boss"), textCol("land"), intCol("nr"), intCol("age")},
			Key:     []int64{0},
			Uniques: []impl.Unique{{Cols: []int64{1}}, {Cols: []int64{5, 3}}},
			Checks:  []impl.Check{{Expr: []impl.Tok{col(5), constant(num(100)), opTok(impl.EtLess)}}},
			Fks: []impl.Fk{
				{Cols: []int64{2}, Table: "person", OnDelete: impl.FkNull, OnUpdate: impl.FkCascade},
				{Cols: []int64{3, 4}, Table: "town", Deferred: true},
			},
		},
		{
			Name: "visit",
			Cols: []impl.Col{notNull(intCol("who")), intCol("whom"), notNull(textCol("land")), notNull(intCol("nr"))},
			Key:  []int64{0, 2, 3},
			Fks: []impl.Fk{
				{Cols: []int64{0}, Table: "person"},
				{Cols: []int64{2, 3}, Table: "town", OnDelete: impl.FkCascade},
				{Cols: []int64{1}, Table: "person", OnDelete: impl.FkNull},
			},
		},
	}
}

// checkTable asks TableOk, and SchemaOk of the table alone where its references do not matter.
func checkTable(t *testing.T, what string, table impl.Table, want bool) {
	t.Helper()
	if got := impl.TableOk(table); got != want {
		t.Errorf("%s: TableOk is %v, want %v", what, got, want)
	}
	if len(table.Fks) > 0 {
		return
	}
	if got := impl.SchemaOk([]impl.Table{table}); got != want {
		t.Errorf("%s: SchemaOk is %v, want %v", what, got, want)
	}
}

func rightNames() []string {
	names := []string{"ab", "abcdefgh", "zzzzzzzz", "aaaaaaaa", "null", "table"}
	for c := 'a'; c <= 'z'; c++ {
		names = append(names, string(c))
	}
	return names
}

func wrongNames() []string {
	names := []string{"", "abcdefghi", "aaaaaaaaa", strings.Repeat("a", 100000), "a b", " a", "a ", "a\x00", "\u00e9", "a\xff", "Name", "naMe", "namE", "a_b", "a1", "1a"}
	for c := range 256 {
		if c < 'a' || c > 'z' {
			names = append(names, string([]byte{byte(c)}), string([]byte{'a', byte(c)}), string([]byte{byte(c), 'a'}))
		}
	}
	return names
}

func TestNames(t *testing.T) {
	check := func(name string, want bool) {
		table, column, fk := plain("t", 2), plain("t", 2), plain("t", 2)
		table.Name = name
		checkTable(t, "table "+name, table, want)
		column.Cols[1].Name = name
		checkTable(t, "column "+name, column, want)
		fk.Fks = []impl.Fk{{Cols: []int64{1}, Table: name}}
		checkTable(t, "reference "+name, fk, want)
	}
	for _, name := range rightNames() {
		// The first column has this name already.
		if name != "c" {
			check(name, true)
		}
	}
	for _, name := range wrongNames() {
		check(name, false)
	}
}

func TestNumberOfColumns(t *testing.T) {
	for n := 1; n <= impl.MaxCols; n++ {
		checkTable(t, "some columns", plain("t", n), true)
	}
	checkTable(t, "MaxCols and one more", plain("t", impl.MaxCols+1), false)
	checkTable(t, "100 columns", plain("t", 100), false)
	checkTable(t, "no columns", impl.Table{Name: "t", Key: []int64{0}}, false)
	checkTable(t, "no columns and no Key", impl.Table{Name: "t"}, false)
	checkTable(t, "the zero value", impl.Table{}, false)
	for i := range impl.MaxCols {
		for k := range impl.MaxCols {
			table := plain("t", impl.MaxCols)
			table.Cols[i].Name = table.Cols[k].Name
			checkTable(t, "columns of one name", table, i == k)
		}
	}
}

func TestKindsAndDefaults(t *testing.T) {
	for _, kind := range []int64{impl.VNull, 3, -1, math.MaxInt64, math.MinInt64, 1<<32 + 1} {
		table := plain("t", 2)
		table.Cols[1].Kind = kind
		checkTable(t, "a kind that is none", table, false)
		table.Cols[1].Default = impl.Val{Kind: kind}
		checkTable(t, "a kind that is none, with a default", table, false)
	}
	for _, kind := range []int64{impl.VInt, impl.VText} {
		for _, must := range []bool{false, true} {
			table := plain("t", 2)
			for _, v := range rising() {
				table.Cols[1] = impl.Col{Name: "x", Kind: kind, NotNull: must, Default: v}
				checkTable(t, "a default "+impl.ValText(v), table, v.Kind == kind || v.Kind == impl.VNull)
			}
			for _, v := range wrongVals() {
				table.Cols[1] = impl.Col{Name: "x", Kind: kind, NotNull: must, Default: v}
				checkTable(t, "a default that is not right", table, false)
			}
		}
	}
}

// someColumns has lists that are columns of a table of three, wrongColumns such that are none.
func someColumns() [][]int64 {
	return [][]int64{{0}, {1}, {2}, {0, 1}, {1, 0}, {2, 0}, {0, 1, 2}, {2, 1, 0}, {1, 2, 0}}
}

func wrongColumns() [][]int64 {
	return [][]int64{
		nil, {}, {3}, {-1}, {0, 3}, {3, 0}, {0, -1}, {0, 0}, {2, 2}, {0, 1, 0}, {1, 0, 0}, {0, 1, 2, 0}, {0, 1, 2, 3}, {2, 2, 2, 2},
		{math.MaxInt64}, {math.MinInt64}, {1 << 32}, make([]int64, 1000),
	}
}

func TestColumnsOfLists(t *testing.T) {
	check := func(cols []int64, want bool) {
		key, first, last, fk := plain("t", 3), plain("t", 3), plain("t", 3), plain("t", 3)
		key.Key = cols
		checkTable(t, "Key", key, want)
		first.Uniques = []impl.Unique{{Cols: cols}, {Cols: []int64{0}}}
		checkTable(t, "the first unique", first, want)
		last.Uniques = []impl.Unique{{Cols: []int64{0}}, {Cols: cols}}
		checkTable(t, "the last unique", last, want)
		fk.Fks = []impl.Fk{{Cols: []int64{0}, Table: "t"}, {Cols: cols, Table: "t"}}
		checkTable(t, "a reference", fk, want)
	}
	for _, cols := range someColumns() {
		check(cols, true)
	}
	for _, cols := range wrongColumns() {
		check(cols, false)
	}
}

func TestKeyIsNotNull(t *testing.T) {
	for _, cols := range someColumns() {
		for i := range 3 {
			table := plain("t", 3)
			table.Key = cols
			table.Cols[i].NotNull = false
			checkTable(t, "a column that may be a null", table, !slices.Contains(cols, int64(i)))
		}
	}
	table := plain("t", 2)
	table.Cols[1].NotNull = false
	table.Uniques = []impl.Unique{{Cols: []int64{1}}}
	table.Fks = []impl.Fk{{Cols: []int64{1}, Table: "t"}}
	checkTable(t, "nulls in uniques and references", table, true)
}

func TestMostUniquesChecksAndReferences(t *testing.T) {
	for n := range 6 {
		uniques, checks, fks, all := plain("t", 2), plain("t", 2), plain("t", 2), plain("t", 2)
		for range n {
			uniques.Uniques = append(uniques.Uniques, impl.Unique{Cols: []int64{1}})
			checks.Checks = append(checks.Checks, impl.Check{Expr: []impl.Tok{col(1)}})
			fks.Fks = append(fks.Fks, impl.Fk{Cols: []int64{1}, Table: "t"})
		}
		all.Uniques, all.Checks, all.Fks = uniques.Uniques, checks.Checks, fks.Fks
		checkTable(t, "uniques", uniques, n <= 3)
		checkTable(t, "checks", checks, n <= 3)
		checkTable(t, "references", fks, n <= 3)
		checkTable(t, "all of them", all, n <= 3)
	}
}

func TestChecksOfATable(t *testing.T) {
	for cols := 1; cols <= impl.MaxCols; cols++ {
		for n := int64(-1); n <= widest; n++ {
			for place := range 3 {
				table := plain("t", cols)
				table.Checks = slices.Repeat([]impl.Check{{Expr: []impl.Tok{col(0)}}}, 3)
				table.Checks[place] = impl.Check{Expr: []impl.Tok{col(n)}}
				checkTable(t, "a check of a column", table, n >= 0 && n < int64(cols))
			}
		}
	}
	for what, e := range map[string][]impl.Tok{
		"none": nil, "empty": {}, "two values": {col(0), col(1)}, "an op alone": {opTok(impl.EtNot)}, "too long": chain(impl.MaxToks + 1), "a wrong value": {constant(num(impl.MaxNum + 1))},
	} {
		table := plain("t", 2)
		table.Checks = []impl.Check{{Expr: e}}
		checkTable(t, "a check that is "+what, table, false)
	}
	// Whether it has a truth is asked of rows, not of the table.
	for what, e := range map[string][]impl.Tok{
		"longest": chain(impl.MaxToks), "a text": {constant(text("a"))}, "never true": {constant(num(0))}, "a sum with a text": {col(0), constant(text("a")), opTok(impl.EtAdd)},
	} {
		table := plain("t", 2)
		table.Checks = []impl.Check{{Expr: e}}
		checkTable(t, "a check that is "+what, table, true)
	}
}

func TestWhatReferencesDo(t *testing.T) {
	for _, a := range []int64{impl.FkRestrict, impl.FkCascade, impl.FkNull, 3, -1, 4, math.MaxInt64, math.MinInt64, 1 << 32} {
		for _, b := range []int64{impl.FkRestrict, impl.FkCascade, impl.FkNull, 3, -1, math.MaxInt64} {
			table := plain("t", 2)
			for _, deferred := range []bool{false, true} {
				table.Fks = []impl.Fk{{Cols: []int64{1}, Table: "t", OnDelete: a, OnUpdate: b, Deferred: deferred}}
				want := a >= 0 && a <= 2 && b >= 0 && b <= 2
				checkTable(t, "a reference", table, want)
				if got := impl.SchemaOk([]impl.Table{table}); got != want {
					t.Errorf("a reference with %d and %d: SchemaOk is %v", a, b, got)
				}
			}
		}
	}
}

func TestSchemas(t *testing.T) {
	if !impl.SchemaOk(nil) || !impl.SchemaOk([]impl.Table{}) || !impl.SchemaOk(town()) {
		t.Error("right schemas are refused")
	}
	var s []impl.Table
	for n := 1; n <= impl.MaxTables+2; n++ {
		s = append(s, plain(strings.Repeat("t", n), 1))
		if got := impl.SchemaOk(s); got != (n <= impl.MaxTables) {
			t.Errorf("%d tables: %v", n, got)
		}
	}
	s = s[:impl.MaxTables]
	for i := range s {
		for k := range s {
			same := slices.Clone(s)
			same[i].Name = same[k].Name
			if got := impl.SchemaOk(same); got != (i == k) {
				t.Errorf("tables %d and %d of one name: %v", i, k, got)
			}
		}
		wrong := slices.Clone(s)
		wrong[i].Key = nil
		if impl.SchemaOk(wrong) {
			t.Errorf("table %d is not right, but the schema is", i)
		}
	}
}

func TestReferencesLeadToKeys(t *testing.T) {
	to := impl.Table{Name: "to", Cols: []impl.Col{notNull(intCol("a")), notNull(textCol("b")), intCol("c"), textCol("d")}}
	from := impl.Table{Name: "from", Cols: []impl.Col{notNull(intCol("k")), textCol("l"), intCol("m"), textCol("n")}, Key: []int64{0}}
	for _, c := range []struct {
		key, cols []int64
		want      bool
	}{
		{[]int64{0}, []int64{0}, true}, {[]int64{0}, []int64{2}, true}, {[]int64{1}, []int64{1}, true}, {[]int64{1}, []int64{3}, true},
		{[]int64{0}, []int64{1}, false}, {[]int64{1}, []int64{0}, false},
		{[]int64{0}, []int64{0, 2}, false}, {[]int64{0, 1}, []int64{0}, false}, {[]int64{0, 1}, []int64{0, 1, 2}, false},
		{[]int64{0, 1}, []int64{0, 1}, true}, {[]int64{0, 1}, []int64{2, 3}, true}, {[]int64{1, 0}, []int64{3, 0}, true},
		{[]int64{0, 1}, []int64{1, 0}, false}, {[]int64{1, 0}, []int64{0, 1}, false}, {[]int64{0, 1}, []int64{0, 2}, false}, {[]int64{0, 1}, []int64{1, 3}, false},
	} {
		to.Key = c.key
		for place := range 3 {
			from.Fks = slices.Repeat([]impl.Fk{{Cols: []int64{2}, Table: "from"}}, 3)
			from.Fks[place] = impl.Fk{Cols: c.cols, Table: "to"}
			for _, s := range [][]impl.Table{{to, from}, {from, to}, {plain("x", 1), from, plain("y", 2), to}} {
				if got := impl.SchemaOk(s); got != c.want {
					t.Errorf("columns %v to a Key %v: %v, want %v", c.cols, c.key, got, c.want)
				}
			}
			if !impl.TableOk(from) || impl.SchemaOk([]impl.Table{from}) {
				t.Error("a reference to a table that there is not")
			}
		}
	}
}

func TestATableThatRefersToItself(t *testing.T) {
	self := plain("t", 3)
	self.Fks = []impl.Fk{{Cols: []int64{1}, Table: "t"}, {Cols: []int64{0}, Table: "t"}}
	if !impl.SchemaOk([]impl.Table{self}) || !slices.Equal(impl.Refers([]impl.Table{self}, "t"), []int64{0}) {
		t.Error("a table that refers to itself")
	}
	self.Key = []int64{0, 1}
	if impl.SchemaOk([]impl.Table{self}) || len(impl.Refers([]impl.Table{self}, "t")) != 0 {
		t.Error("a table that refers to itself with too few columns")
	}
}

func TestFoundByName(t *testing.T) {
	s := town()
	for i, table := range s {
		if got := impl.TableAt(s, table.Name); got != int64(i) {
			t.Errorf("TableAt %q is %d", table.Name, got)
		}
		for k, c := range table.Cols {
			if got := impl.ColAt(table, c.Name); got != int64(k) {
				t.Errorf("ColAt %q of %q is %d", c.Name, table.Name, got)
			}
		}
	}
	for _, name := range append(wrongNames(), "tow", "towns", "to", "Town", "town ", "zzz") {
		if got := impl.TableAt(s, name); got != -1 {
			t.Errorf("TableAt %q is %d", name, got)
		}
		if got := impl.ColAt(s[0], name); got != -1 {
			t.Errorf("ColAt %q is %d", name, got)
		}
	}
	// A table's name is no column's, and the other way round.
	if impl.TableAt(s, "land") != -1 || impl.ColAt(s[0], "town") != -1 || impl.TableAt(nil, "") != -1 || impl.ColAt(impl.Table{}, "") != -1 {
		t.Error("a name that there is not")
	}
}

// TestFoundWhereNothingIsRight: TableAt and ColAt ask nothing of what they are given.
func TestFoundWhereNothingIsRight(t *testing.T) {
	names := []string{"b", "a", "b", "", "A 1", "", "longer than eight", "a"}
	for len(names) < 300 {
		names = append(names, strings.Repeat("x", len(names)))
	}
	var s []impl.Table
	var table impl.Table
	for _, name := range names {
		s = append(s, impl.Table{Name: name})
		table.Cols = append(table.Cols, impl.Col{Name: name, Kind: 9})
	}
	for _, name := range append(names, "c", "longer", "\x00", strings.Repeat("x", 300)) {
		want := int64(slices.Index(names, name))
		if got := impl.TableAt(s, name); got != want {
			t.Errorf("TableAt %q is %d, want %d", name, got, want)
		}
		if got := impl.ColAt(table, name); got != want {
			t.Errorf("ColAt %q is %d, want %d", name, got, want)
		}
	}
}

func TestRefers(t *testing.T) {
	s := town()
	for name, want := range map[string][]int64{"town": {1, 2}, "person": {1, 2}, "visit": nil, "": nil, "x": nil, "Town": nil} {
		if got := impl.Refers(s, name); !slices.Equal(got, want) {
			t.Errorf("Refers %q is %v, want %v", name, got, want)
		}
	}
	if len(impl.Refers(nil, "town")) != 0 || len(impl.Refers(s[:1], "town")) != 0 {
		t.Error("what no one refers to")
	}
	slices.Reverse(s)
	if got := impl.Refers(s, "town"); !slices.Equal(got, []int64{0, 1}) {
		t.Error("the other way round:", got)
	}
	for what, change := range map[string]func(s []impl.Table){
		"a name":       func(s []impl.Table) { s[0].Name = "Visit" },
		"names":        func(s []impl.Table) { s[0].Name = "town" },
		"a Key":        func(s []impl.Table) { s[0].Key = nil },
		"a reference":  func(s []impl.Table) { s[1].Fks[0].Table = "x" },
		"a kind":       func(s []impl.Table) { s[1].Cols[4].Kind = impl.VText },
		"the order":    func(s []impl.Table) { s[1].Fks[1].Cols = []int64{4, 3} },
		"the Key's":    func(s []impl.Table) { s[2].Key = []int64{1} },
		"a reference'": func(s []impl.Table) { s[0].Fks[2].OnUpdate = -1 },
	} {
		s := town()
		slices.Reverse(s)
		change(s)
		if impl.SchemaOk(s) || len(impl.Refers(s, "town")) != 0 || len(impl.Refers(s, "person")) != 0 {
			t.Error(what, "is not right, but who refers is told")
		}
	}
}

// TestRefersByEachReference tries each way in which three tables may refer to each other.
func TestRefersByEachReference(t *testing.T) {
	names := []string{"a", "b", "c"}
	for bits := range 1 << 9 {
		var s []impl.Table
		want := map[string][]int64{}
		for i, name := range names {
			table := plain(name, 2)
			for k, to := range names {
				if bits>>(3*i+k)&1 == 1 {
					table.Fks = append(table.Fks, impl.Fk{Cols: []int64{1}, Table: to})
					want[to] = append(want[to], int64(i))
				}
			}
			// Twice the same one is told once, too.
			if len(table.Fks) > 0 && len(table.Fks) < 3 {
				table.Fks = append(table.Fks, table.Fks[0])
			}
			s = append(s, table)
		}
		for _, name := range names {
			if got := impl.Refers(s, name); !slices.Equal(got, want[name]) {
				t.Fatalf("references %b: Refers %q is %v, want %v", bits, name, got, want[name])
			}
		}
	}
}
