package tests

import (
	"fmt"
	"math"
	"reflect"
	"slices"
	"strconv"
	"strings"
	"testing"

	"loop.example/g00570/impl"
)

// wordsOf has the texts of values.
func wordsOf(l []impl.Val) []string {
	var words []string
	for _, v := range l {
		words = append(words, impl.ValText(v))
	}
	return words
}

// recordOf is what the chapter says of the text of right values, told here once more.
func recordOf(l []impl.Val) string {
	return strings.Join(append([]string{fmt.Sprint(len(l))}, wordsOf(l)...), ",")
}

// dbLines is what the chapter says of the text of a right database.
func dbLines(s []impl.Table, db []impl.Data) string {
	out := ""
	for i, d := range db {
		out += fmt.Sprintf("table %s\n", s[i].Name)
		for _, r := range d.Rows {
			out += fmt.Sprintf("%d %s\n", r.Id, recordOf(r.Vals))
		}
	}
	return out
}

// stmtWords is what the chapter says of the text of a right statement.
func stmtWords(x impl.Stmt) string {
	policy := []string{"abort", "fail", "ignore", "replace", "rollback"}[x.Policy]
	out := fmt.Sprintf("%s %s %s", []string{"", "insert", "update", "delete"}[x.Kind], policy, x.Table)
	for _, r := range x.Rows {
		out += " " + recordOf(r.Vals)
	}
	for _, set := range x.Sets {
		out += fmt.Sprintf(" set %d %s", set.Col, impl.ExprText(set.Expr))
	}
	if x.Kind != impl.StInsert {
		out += " where " + impl.ExprText(x.Where)
	}
	return out
}

// same takes an empty list and nil for the same.
func same(a any, b any) bool { return areSame([]any{a}, []any{b}) }

// A tongue has the two calls for one kind of thing.
type tongue[T any] struct {
	text func(x T) string
	read func(s string) (T, bool)
}

var records = tongue[[]impl.Val]{impl.RecordText, impl.ReadRecord}

var stmts = tongue[impl.Stmt]{impl.StmtText, impl.ReadStmt}

func dbsOf(s []impl.Table) tongue[[]impl.Data] {
	return tongue[[]impl.Data]{
		func(db []impl.Data) string { return impl.DbText(s, db) },
		func(text string) ([]impl.Data, bool) { return impl.ReadDb(s, text) },
	}
}

// says is for an x that is right.
func (l tongue[T]) says(t *testing.T, x T, want string) {
	t.Helper()
	if got := l.text(x); got != want {
		t.Errorf("the text of %+v is %q, want %q", x, got, want)
	}
	if got, ok := l.read(want); !ok || !same(got, x) {
		t.Errorf("%q is read as %+v, %v, want %+v", want, got, ok, x)
	}
}

// saysNothing is for an x that is not right.
func (l tongue[T]) saysNothing(t *testing.T, what string, x T) {
	t.Helper()
	if got := l.text(x); got != "" {
		t.Errorf("%s: the text of %+v is %q", what, x, got)
	}
}

// refuses is for what is no text.
func (l tongue[T]) refuses(t *testing.T, what string, s string) {
	t.Helper()
	var none T
	if got, ok := l.read(s); ok || !reflect.DeepEqual(got, none) {
		t.Errorf("%s: %.200q is read as %+v, %v", what, s, got, ok)
	}
}

// reads is for any bytes: what is read has just these as its text. It tells whether something was.
func (l tongue[T]) reads(t *testing.T, s string) bool {
	t.Helper()
	got, ok := l.read(s)
	if !ok {
		l.refuses(t, "no text", s)
	} else if again := l.text(got); again != s {
		t.Errorf("%q is read as %+v, the text of which is %q", s, got, again)
	}
	return ok
}

// misspelt has texts that are like s: without each byte, with each one twice, with others in its place and ahead of it.
func misspelt(s string) []string {
	l := []string{s + " ", s + ",", s + "\n", " " + s, "\n" + s, s + "\x00", s + s, s + " " + s, s + "\n" + s}
	for i := range len(s) {
		l = append(l, s[:i]+s[i+1:], s[:i]+s[i:i+1]+s[i:], s[:i], s[i:])
		for _, c := range []string{" ", ",", "\n", "\t", "0", "1", "9", "-", "+", "#", "'", "%", "a", "A", "\x00", "\xff"} {
			l = append(l, s[:i]+c+s[i+1:], s[:i]+c+s[i:])
		}
	}
	return l
}

// reworded has texts of the pieces of s between marks: without each piece, with each one twice, with two changed about, with others in its place.
func reworded(s string, mark string, others ...string) []string {
	var l []string
	pieces := strings.Split(s, mark)
	add := func(pieces []string) { l = append(l, strings.Join(pieces, mark)) }
	for i := range pieces {
		add(slices.Delete(slices.Clone(pieces), i, i+1))
		add(slices.Insert(slices.Clone(pieces), i, pieces[i]))
		for k := range i {
			about := slices.Clone(pieces)
			about[i], about[k] = about[k], about[i]
			add(about)
		}
		for _, other := range others {
			in := slices.Clone(pieces)
			in[i] = other
			add(in)
			add(slices.Insert(slices.Clone(pieces), i, other))
		}
	}
	return l
}

func TestRecords(t *testing.T) {
	for want, l := range map[string][]impl.Val{
		"0": nil, "1,null": nulls(1), "1,0": {num(0)}, "1,''": {text("")}, "2,null,null": nulls(2), "1,-1000000000": {num(-impl.MaxNum)}, "1,1000000000": {num(impl.MaxNum)},
		"3,3,null,'a%2cb'": {num(3), {}, text("a,b")}, "2,'0','null'": {text("0"), text("null")}, "2,'%27%25','%20%0a'": {text("'%"), text(" \n")}, "1,'%00%ff%7f~!'": {text("\x00\xff\x7f~!")},
		"1,'123456789012'": {text("123456789012")}, "1,'%2c%2c%2c%2c%2c%2c%2c%2c%2c%2c%2c%2c'": {text(strings.Repeat(",", 12))},
		"4,7,7,7,7": slices.Repeat([]impl.Val{num(7)}, 4),
	} {
		records.says(t, l, want)
	}
	records.says(t, []impl.Val{}, "0")
	all := rising()
	for i, v := range all {
		records.says(t, []impl.Val{v}, "1,"+impl.ValText(v))
		for n := range widest + 1 {
			l := append(slices.Clone(all[i:]), all...)[:n]
			records.says(t, l, recordOf(l))
		}
	}
}

func TestRecordsThatAreTooLong(t *testing.T) {
	for n := range widest + 4 {
		l := slices.Repeat([]impl.Val{num(1)}, n)
		s := strconv.Itoa(n) + strings.Repeat(",1", n)
		if n <= widest {
			records.says(t, l, s)
			continue
		}
		records.saysNothing(t, "too many values", l)
		records.refuses(t, "too many values", s)
	}
	records.saysNothing(t, "very many values", nulls(100000))
	records.refuses(t, "very many values", "100000"+strings.Repeat(",1", 100000))
	records.refuses(t, "very many commas", strings.Repeat(",", 100000))
	records.refuses(t, "a long number", strings.Repeat("1", 100000))
	records.refuses(t, "a long text", "1,'"+strings.Repeat("a", 100000)+"'")
}

func TestRecordsOfWrongValues(t *testing.T) {
	for _, wrong := range wrongVals() {
		for n := 1; n <= widest; n++ {
			for _, at := range []int{0, n / 2, n - 1} {
				l := nulls(n)
				l[at] = wrong
				records.saysNothing(t, "a value that is not right", l)
			}
		}
	}
}

func TestWhatIsNoRecord(t *testing.T) {
	for _, s := range []string{
		"", ",", "1", "1,", "2,1", "1,1,2", "01,1", "00", "0,", "0,1", "0,null", "-0", "-1", "-1,1", "+1,1", "1 ,1", " 1,1", "1, 1", "1,1 ", "1,1,", ",1,1", "1,,1", "2,1,", "2,,1", "2,,", "1,,",
		"null", "null,1", "'1',1", "1,nul", "1,NULL", "1,a", "1,'a", "1,a'", "1,'a'b", "1,'%2C'", "1,'%61'", "1,'a b'", "1,'a,b'", "2,'a,b'", "1,01", "1,-0", "1,+1", "1,1000000001", "1,-1000000001", "1,'1234567890123'",
		"1.0,1", "1e0,1", "0x1,1", "one,1", "1,1\n", "1\n,1", "1;1", "1 1", "17" + strings.Repeat(",1", 17), "16" + strings.Repeat(",1", 15), "16" + strings.Repeat(",1", 17), "9999999999,1", "10000000000,1", "18446744073709551617,1", "4294967297,1",
	} {
		records.refuses(t, "no record", s)
	}
	for _, s := range []string{"0", "1,null", "2,-10,'a%2cb'", "3,0,'',null", "16,1,2,3,4,5,6,7,8,9,0,1,2,3,4,5,6"} {
		for _, other := range append(misspelt(s), reworded(s, ",", "", "0", "1", "2", "null", "''", " ")...) {
			records.reads(t, other)
		}
	}
}

// shelf has names that are words of the texts themselves.
func shelf() []impl.Table {
	return []impl.Table{
		{Name: "table", Cols: []impl.Col{notNull(intCol("k")), textCol("t")}, Key: []int64{0}},
		{Name: "where", Cols: []impl.Col{notNull(intCol("k"))}, Key: []int64{0}},
		plain("set", impl.MaxCols),
	}
}

const shelfText = "table table\n1 2,7,'x'\n4 2,-8,null\ntable where\n2 1,null\n1000000000 1,5\ntable set\n"

func TestDbTexts(t *testing.T) {
	s := shelf()
	for want, db := range map[string]string{
		shelfText:                               "1 7 'x'; 4 -8 null / 2 null; 1000000000 5 /",
		"table table\ntable where\ntable set\n": "/ /",
		"table table\n1 2,null,'%0a'\n1000000000 2,1,''\ntable where\ntable set\n":             "1 null '%0a'; 1000000000 1 '' / /",
		"table table\ntable where\n1 1,1\n2 1,1\n3 1,1\ntable set\n":                           "/ 1 1; 2 1; 3 1 /",
		"table table\ntable where\ntable set\n1 8,1,2,3,4,5,6,7,8\n2 8,1,1,1,1,1,1,1,null\n":   "/ / 1 1 2 3 4 5 6 7 8; 2 1 1 1 1 1 1 1 null",
		"table table\n1000000000 2,1000000000,null\ntable where\n1 1,-1000000000\ntable set\n": "1000000000 1000000000 null / 1 -1000000000 /",
	} {
		dbsOf(s).says(t, dbOf(db), want)
	}
	dbsOf(s[:1]).says(t, dbOf("1 7 'x'"), "table table\n1 2,7,'x'\n")
	dbsOf(nil).says(t, nil, "")
	dbsOf([]impl.Table{}).says(t, []impl.Data{}, "")
	dbsOf(town()).says(t, townDb(), dbLines(town(), townDb()))
	dbsOf(stall()).says(t, dbOf(stallDb), dbLines(stall(), dbOf(stallDb)))
	// A database may be right and have flaws: nulls where none may be, a Key twice, what refers to nothing.
	flawed := dbOf("2 null 10 null; 4 null 10 'a' / 1 5 99")
	dbsOf(shop(impl.FkNull, impl.FkNull, false)).says(t, flawed, "table p\n2 3,null,10,null\n4 3,null,10,'a'\ntable c\n1 2,5,99\n")
}

// fullDb has MaxRows rows in each of so many tables of MaxCols columns, with the longest Ids and values.
func fullDb(tables int) ([]impl.Table, []impl.Data) {
	var s []impl.Table
	db := make([]impl.Data, tables)
	for i := range db {
		wide := plain("abcdefgh"[:8-i], impl.MaxCols)
		for c := range wide.Cols {
			wide.Cols[c].Kind = impl.VText
		}
		s = append(s, wide)
		for k := range impl.MaxRows {
			vals := slices.Repeat([]impl.Val{text(strings.Repeat("\x7f", impl.MaxText))}, impl.MaxCols)
			db[i].Rows = append(db[i].Rows, row(int64(impl.MaxNum-impl.MaxRows+1+k), vals...))
		}
	}
	return s, db
}

func TestTextsOfFullDbs(t *testing.T) {
	for tables := 1; tables <= impl.MaxTables; tables++ {
		s, db := fullDb(tables)
		dbsOf(s).says(t, db, dbLines(s, db))
		last := &db[tables-1]
		last.Rows = append(last.Rows, row(impl.MaxNum+1, last.Rows[0].Vals...))
		dbsOf(s).refuses(t, "one row more", dbLines(s, db))
		dbsOf(s).saysNothing(t, "one row more", db)
		for i := range last.Rows {
			last.Rows[i].Id = int64(i + 1)
		}
		dbsOf(s).refuses(t, "one row more, with small Ids", dbLines(s, db))
		dbsOf(s).saysNothing(t, "one row more, with small Ids", db)
	}
}

// TestLongTextsOfDbs has texts of about as many bytes as are looked at, which none that is right has.
func TestLongTextsOfDbs(t *testing.T) {
	s, db := fullDb(impl.MaxTables)
	right := impl.DbText(s, db)
	if len(right) <= 97000 || len(right) > 100000 {
		t.Errorf("the longest text has %d bytes", len(right))
	}
	for n := 99999; n <= 100001; n++ {
		for _, more := range []string{"\n", " ", "a", "table abcdefgh\n", "1 1,1\n"} {
			rest := strings.Repeat(more, n)[:n-len(right)]
			dbsOf(s).refuses(t, "a long text", right+rest)
			dbsOf(s).refuses(t, "a long text, with the right one behind", rest+right)
		}
	}
	dbsOf(s).refuses(t, "a very long text", strings.Repeat(right, 20))
	dbsOf(nil).refuses(t, "many lines", strings.Repeat("\n", 100000))
}

func TestDbsWithoutText(t *testing.T) {
	s := stall()
	for i, wrong := range wrongStalls() {
		dbsOf(s).saysNothing(t, fmt.Sprint("database ", i), wrong)
	}
	for i, change := range []func(s []impl.Table){
		func(s []impl.Table) { s[3].Key = nil },
		func(s []impl.Table) { s[0].Name = "c" },
		func(s []impl.Table) { s[1].Name = "" },
		func(s []impl.Table) { s[2].Fks = []impl.Fk{{Cols: []int64{0}, Table: "x"}} },
	} {
		wrong := stall()
		right := dbLines(wrong, dbOf(stallDb))
		change(wrong)
		dbsOf(wrong).saysNothing(t, fmt.Sprint("schema ", i), dbOf(stallDb))
		dbsOf(wrong).refuses(t, fmt.Sprint("schema ", i), right)
		dbsOf(wrong).refuses(t, fmt.Sprint("schema ", i), dbLines(wrong, dbOf(stallDb)))
		dbsOf(wrong).refuses(t, fmt.Sprint("schema, no lines ", i), "")
	}
	dbsOf(nil).saysNothing(t, "no tables but Data", []impl.Data{{}})
	dbsOf(make([]impl.Table, 1)).refuses(t, "a table without a name", "table \n")
	six := []impl.Table{plain("a", 1), plain("b", 1), plain("d", 1), plain("e", 1), plain("f", 1), plain("g", 1)}
	dbsOf(six).refuses(t, "more than MaxTables", dbLines(six, make([]impl.Data, 6)))
	dbsOf(six[:5]).says(t, make([]impl.Data, 5), "table a\ntable b\ntable d\ntable e\ntable f\n")
}

func TestWhatIsNoTextOfADb(t *testing.T) {
	s := shelf()
	head, tail := "table table\n", "table where\ntable set\n"
	dbsOf(s).says(t, make([]impl.Data, 3), head+tail)
	for what, text := range map[string]string{
		"nothing": "", "an empty line": "\n", "one table too few": "table table\ntable where\n", "the first one too few": tail, "the middle one too few": "table table\ntable set\n",
		"tables out of order": "table where\ntable table\ntable set\n", "one twice": "table table\ntable table\ntable where\ntable set\n", "the last one twice": head + tail + "table set\n", "one more": head + tail + "table x\n",
		"another one": head + "table where\ntable x\n", "an empty name": head + "table where\ntable \n", "no name": head + "table where\ntable\n", "a longer name": head + "table where\ntable sets\n", "a great letter": head + "table where\ntable Set\n",
		"a row ahead of the first table": "1 2,1,null\n" + head + tail, "only a row": "1 2,1,null\n", "a row of the table behind": head + "1 1,1\n" + tail, "a row of the table ahead": head + "table where\n1 2,1,null\ntable set\n",
		"rows out of order": head + "4 2,1,null\n1 2,1,null\n" + tail, "an Id twice": head + "4 2,1,null\n4 2,1,null\n" + tail, "rows apart": head + "1 2,1,null\n" + "table where\n" + "2 2,1,null\n" + "table set\n",
		"no end of the last line": strings.TrimSuffix(head+tail, "\n"), "no end of a last row": head + tail + "1 8,1,2,3,4,5,6,7,8", "an end too many": head + tail + "\n", "an empty line first": "\n" + head + tail,
		"an empty line behind a table": head + "\n" + tail, "an empty line behind a row": head + "1 2,1,null\n\n" + tail, "other ends": strings.ReplaceAll(head+tail, "\n", "\r\n"), "other marks": strings.ReplaceAll(head+tail, "\n", "\r"),
		"Id 0": head + "0 2,1,null\n" + tail, "an Id below 0": head + "-1 2,1,null\n" + tail, "more than MaxNum": head + "1000000001 2,1,null\n" + tail, "eleven digits": head + "10000000000 2,1,null\n" + tail, "eleven digits, wrapped": head + "18446744073709551617 2,1,null\n" + tail,
		"noughts ahead": head + "01 2,1,null\n" + tail, "a plus": head + "+1 2,1,null\n" + tail, "no Id": head + " 2,1,null\n" + tail, "no Id and no blank": head + "2,1,null\n" + tail, "no record": head + "1 \n" + tail, "no blank": head + "1\n" + tail,
		"two blanks": head + "1  2,1,null\n" + tail, "a blank ahead": head + " 1 2,1,null\n" + tail, "a blank behind": head + "1 2,1,null \n" + tail, "a tab": head + "1\t2,1,null\n" + tail, "a blank in a record": head + "1 2, 1,null\n" + tail,
		"two blanks in a table line": "table  table\n" + tail, "a blank behind a table line": "table table \n" + tail, "a blank ahead of a table line": " table table\n" + tail, "a word more": "table table table\n" + tail, "great letters": "TABLE table\n" + tail,
		"too few values": head + "1 1,1\n" + tail, "too many values": head + "1 3,1,null,1\n" + tail, "no values": head + "1 0\n" + tail, "another kind": head + "1 2,'a',null\n" + tail, "another kind behind": head + "1 2,1,1\n" + tail,
		"a number that is too great": head + "1 2,1000000001,null\n" + tail, "a record that is none": head + "1 2,1\n" + tail, "values without their number": head + "1 1,null\n" + tail, "a comma too many": head + "1 2,1,null,\n" + tail,
		"a zero byte": head + tail + "\x00", "no lines but blanks": " ", "a statement": "insert abort p 1,1", "a row line of words": head + "x y\n" + tail, "lists of values": head + "1 2,1,null 2,1,null\n" + tail,
	} {
		dbsOf(s).refuses(t, what, text)
	}
	for _, text := range append(misspelt(shelfText), reworded(shelfText, "\n", "", "1 2,7,'x'", "3 2,1,null", "3 1,4", "table set", "table x", "table")...) {
		dbsOf(s).reads(t, text)
	}
	// The text of a database by another schema.
	dbsOf(s[:2]).refuses(t, "fewer tables", shelfText)
	dbsOf([]impl.Table{s[1], s[0], s[2]}).refuses(t, "other tables", shelfText)
	dbsOf(nil).refuses(t, "no tables", shelfText)
}

func set(t *testing.T, col int64, e string) impl.Set { return impl.Set{Col: col, Expr: read(t, e)} }

func TestStmtTexts(t *testing.T) {
	for want, x := range map[string]impl.Stmt{
		"insert abort p 2,1,'a' 2,2,null":                   inserting(impl.PoAbort, "p", "1 'a'", "2 null"),
		"insert fail p":                                     inserting(impl.PoFail, "p"),
		"insert ignore p 0":                                 inserting(impl.PoIgnore, "p", ""),
		"insert replace p 0 1,7 0":                          inserting(impl.PoReplace, "p", "", "7", ""),
		"insert rollback p 1,'%20'":                         inserting(impl.PoRollback, "p", "'%20'"),
		"update abort p where ":                             updating(t, impl.PoAbort, "p", ""),
		"update fail p set 1 'a' set 0 #0 1 + where #0 3 <": updating(t, impl.PoFail, "p", "#0 3 <", "1='a'", "0=#0 1 +"),
		"update ignore p set 7 null where ":                 updating(t, impl.PoIgnore, "p", "", "7=null"),
		"update replace p where 1":                          updating(t, impl.PoReplace, "p", "1"),
		"update rollback p set 0 #15 set 0 #15 where #15":   updating(t, impl.PoRollback, "p", "#15", "0=#15", "0=#15"),
		"delete abort p where #0 isnull not":                deleting(t, impl.PoAbort, "p", "#0 isnull not"),
		"delete fail p where ":                              deleting(t, impl.PoFail, "p", ""),
		"delete ignore p where 'where'":                     deleting(t, impl.PoIgnore, "p", "'where'"),
		"delete replace p where 'set' 'set' =":              deleting(t, impl.PoReplace, "p", "'set' 'set' ="),
		"delete rollback p where null":                      deleting(t, impl.PoRollback, "p", "null"),
	} {
		stmts.says(t, x, want)
	}
	for _, name := range append(rightNames(), "set", "where", "insert", "update", "delete", "abort", "fail", "ignore", "replace", "rollback", "not", "and") {
		for _, policy := range policies {
			for _, x := range []impl.Stmt{
				inserting(policy, name), inserting(policy, name, "1", "null 'a'"), deleting(t, policy, name, ""), deleting(t, policy, name, "#0 #1 <"),
				updating(t, policy, name, ""), updating(t, policy, name, "1"), updating(t, policy, name, "", "0=1"), updating(t, policy, name, "#15 not", "5='set'", "4=#15 'where' ="),
			} {
				stmts.says(t, x, stmtWords(x))
			}
		}
	}
}

func TestStmtsOfAllPolicies(t *testing.T) {
	for _, x := range rightStmts(t) {
		for policy := int64(-3); policy < 8; policy++ {
			x.Policy = policy
			if slices.Contains(policies, policy) {
				stmts.says(t, x, stmtWords(x))
			} else {
				stmts.saysNothing(t, "a policy that is none", x)
			}
		}
		for _, policy := range []int64{math.MaxInt64, math.MinInt64, 1 << 32} {
			x.Policy = policy
			stmts.saysNothing(t, "a policy that is none", x)
		}
		x.Policy = impl.PoAbort
		for _, kind := range []int64{-1, 0, 4, 5, math.MaxInt64, math.MinInt64, 1 << 32, 1<<32 + 1} {
			y := x
			y.Kind = kind
			stmts.saysNothing(t, "a kind that is none", y)
			y.Rows, y.Where, y.Sets = nil, nil, nil
			stmts.saysNothing(t, "a kind that is none, and nothing else", y)
		}
		for _, name := range wrongNames() {
			y := x
			y.Table = name
			stmts.saysNothing(t, "a name that is none", y)
			stmts.refuses(t, "a name that is none", stmtWords(y))
		}
	}
	stmts.saysNothing(t, "nothing", impl.Stmt{})
}

// TestStmtsWithWhatTheirKindHasNot goes by the kinds: an insert has rows, the others may have a condition, an update sets.
func TestStmtsWithWhatTheirKindHasNot(t *testing.T) {
	l := rightStmts(t)
	for i, x := range l {
		rows, where, sets := x, x, x
		rows.Rows, where.Where, sets.Sets = l[0].Rows, l[2].Where, l[1].Sets
		for k, y := range []impl.Stmt{rows, where, sets} {
			if [3][3]bool{{true, false, false}, {false, true, true}, {false, true, false}}[i][k] {
				stmts.says(t, y, stmtWords(y))
			} else {
				stmts.saysNothing(t, "what its kind has not", y)
			}
		}
	}
	for _, s := range []string{
		"insert abort p where ", "insert abort p where 1", "insert abort p 1,1 where ", "insert abort p set 0 1", "insert abort p set 0 1 where ", "insert abort p 1,1 set 0 1 where 1",
		"delete abort p set 0 1 where ", "delete abort p set 0 1 where 1", "delete abort p 1,1 where ", "delete abort p 1,1", "delete abort p where 1 set 0 1", "delete abort p where  set 0 1",
		"update abort p 1,1 where ", "update abort p 1,1 set 0 1 where ", "update abort p set 0 1 1,1 where ", "update abort p where 1 set 0 1", "update abort p where set 0 1", "update abort p where  1,1",
	} {
		stmts.refuses(t, "what its kind has not", s)
	}
}

func TestRowsInStmtTexts(t *testing.T) {
	for n := range 12 {
		for wide := range widest + 3 {
			x := impl.Stmt{Kind: impl.StInsert, Table: "p", Rows: slices.Repeat([]impl.Row{{Vals: nulls(wide)}}, n)}
			if n <= 8 && (wide <= widest || n == 0) {
				stmts.says(t, x, stmtWords(x))
				continue
			}
			stmts.saysNothing(t, "too many rows or values", x)
			stmts.refuses(t, "too many rows or values", stmtWords(x))
		}
	}
	for n := 1; n <= 8; n++ {
		for at := range n {
			x := impl.Stmt{Kind: impl.StInsert, Table: "p"}
			for i := range n {
				x.Rows = append(x.Rows, impl.Row{Vals: valsOf("1 null 'a'")[:1+i%3]})
			}
			stmts.says(t, x, stmtWords(x))
			for _, id := range []int64{1, -1, impl.MaxNum, math.MinInt64, 1 << 32} {
				x.Rows[at].Id = id
				stmts.saysNothing(t, "a row with an Id", x)
			}
			x.Rows[at].Id = 0
			for _, wrong := range wrongVals() {
				x.Rows[at].Vals = []impl.Val{num(1), wrong}
				stmts.saysNothing(t, "a value that is not right", x)
			}
		}
	}
}

func TestSetsInStmtTexts(t *testing.T) {
	for n := range impl.MaxCols + 3 {
		x := updating(t, impl.PoAbort, "p", "#0")
		for i := range n {
			x.Sets = append(x.Sets, set(t, int64(n-1-i)%impl.MaxCols, "#15 1 +"))
		}
		if n <= impl.MaxCols {
			stmts.says(t, x, stmtWords(x))
		} else {
			stmts.saysNothing(t, "too many sets", x)
			stmts.refuses(t, "too many sets", stmtWords(x))
		}
	}
	for _, col := range []int64{-2, -1, 0, 1, impl.MaxCols - 1, impl.MaxCols, widest - 1, impl.MaxNum, 1 << 32, math.MaxInt64, math.MinInt64} {
		for at := range 3 {
			x := updating(t, impl.PoFail, "p", "", "0=1", "0=2", "0=3")
			x.Sets[at].Col = col
			if col >= 0 && col < impl.MaxCols {
				stmts.says(t, x, stmtWords(x))
			} else {
				stmts.saysNothing(t, "a column that is none", x)
				stmts.refuses(t, "a column that is none", stmtWords(x))
			}
		}
	}
}

// nowhereRight has expressions that are not right, not even for twice MaxCols columns.
func nowhereRight() [][]impl.Tok {
	l := append(wrongExprs(), []impl.Tok{col(widest)}, []impl.Tok{col(0), col(widest), opTok(impl.EtAnd)})
	return slices.DeleteFunc(l, func(e []impl.Tok) bool { return impl.ExprOk(e, widest) })
}

func TestExprsInStmtTexts(t *testing.T) {
	for _, e := range [][]impl.Tok{{col(0)}, {col(impl.MaxCols)}, {col(widest - 1)}, {constant(text("a"))}, {constant(impl.Val{})}, chain(impl.MaxToks), {col(15), col(14), opTok(impl.EtSub)}} {
		for _, x := range []impl.Stmt{
			{Kind: impl.StUpdate, Table: "p", Where: e}, {Kind: impl.StDelete, Table: "p", Where: e}, {Kind: impl.StUpdate, Table: "p", Sets: []impl.Set{{Col: 1, Expr: e}}},
			{Kind: impl.StUpdate, Table: "p", Where: e, Sets: []impl.Set{{Col: 1, Expr: e}, {Expr: e}}, Policy: impl.PoReplace},
		} {
			stmts.says(t, x, stmtWords(x))
		}
	}
	for _, e := range nowhereRight() {
		right := impl.Set{Expr: []impl.Tok{col(0)}}
		for _, x := range []impl.Stmt{
			{Kind: impl.StUpdate, Table: "p", Where: e}, {Kind: impl.StDelete, Table: "p", Where: e}, {Kind: impl.StUpdate, Table: "p", Sets: []impl.Set{{Col: 1, Expr: e}}},
			{Kind: impl.StUpdate, Table: "p", Sets: []impl.Set{right, {Col: 1, Expr: e}}}, {Kind: impl.StUpdate, Table: "p", Sets: []impl.Set{{Col: 1, Expr: e}, right}},
		} {
			stmts.saysNothing(t, "an expression that is not right", x)
		}
	}
	for _, none := range [][]impl.Tok{nil, {}} {
		stmts.saysNothing(t, "a set without an expression", impl.Stmt{Kind: impl.StUpdate, Table: "p", Sets: []impl.Set{{Expr: none}}})
		stmts.says(t, impl.Stmt{Kind: impl.StDelete, Table: "p", Where: none}, "delete abort p where ")
	}
	for _, e := range []string{"#16", "#0 #16 and", "#-1", "#00", "# 0", "=", "#0 =", "#0 #1", "1 not not2", "1  not", "1 not ", " 1", "#0 #1 AND", "where", "set", "1 set", "1 where", "''' ", "'a b'", "1000000001", strings.Repeat("1 ", 24) + "1", "1" + strings.Repeat(" not", 24)} {
		stmts.refuses(t, "no expression", "update abort p where "+e)
		stmts.refuses(t, "no expression", "delete abort p where "+e)
		stmts.refuses(t, "no expression", "update abort p set 0 "+e+" where ")
		stmts.refuses(t, "no expression", "update abort p set 0 1 set 1 "+e+" where 1")
	}
}

func TestWhatIsNoStmt(t *testing.T) {
	for _, s := range []string{
		"", " ", "  ", "insert", "insert ", "insert abort", "insert abort ", "insert  p", "insert p", "insert p 1,1", "abort p 1,1", "insert abort p ", "insert abort p 1,1 ", "insert abort p  1,1", "insert  abort p", "insert abort  p", " insert abort p", "insert\tabort p", "insert abort p\n", "insert abort p 1,1\n",
		"insert none p 1,1", "insert ABORT p", "Insert abort p", "insert abort P 1,1", "insert abort p 1", "insert abort p 1,", "insert abort p 01,1", "insert abort p 1,1,1", "insert abort p 1,1 1", "insert abort p 1, 1", "insert abort p 1,1,2,1", "insert abort p q", "insert 0 p", "1 0 p", "1 abort p", "insert abort p null",
		"update", "update abort", "update abort p", "update abort p ", "update abort p where", "update abort p  where ", "update abort p where  ", "update abort p where 1 ", "update abort p where  1", "update abort p where where ", "update abort where ", "update p where ", "update abort p 1", "update abort p Where ",
		"update abort p set", "update abort p set ", "update abort p set 0", "update abort p set 0 ", "update abort p set 0 1", "update abort p set 0 1 ", "update abort p set 0 1 where", "update abort p set 0 where ", "update abort p set where ", "update abort p set  1 where ", "update abort p set 0  where ", "update abort p set 0 1  where ",
		"update abort p set a 1 where ", "update abort p set -1 1 where ", "update abort p set 00 1 where ", "update abort p set +0 1 where ", "update abort p set #0 1 where ", "update abort p set 8 1 where ", "update abort p set 0 1 set where ", "update abort p set 0 1 set 1 where ", "update abort p set 0 1 1 1 where ", "update abort p set 0 = 1 where ", "update abort p set 0 1, set 1 1 where ",
		"update abort p set 0 1 set 1", "update abort p set 0 set 1 1 where ", "update abort p set set 0 1 where ", "update abort p set 18446744073709551616 1 where ", "update abort p set 4294967296 1 where ",
		"delete", "delete abort", "delete abort p", "delete abort p where", "delete abort p where #0 =", "delete abort p where 1 ", "delete abort p where 1 where ", "delete abort p where  ", "delete abort p  where ", "delete abort where ", "delete abort p 1", "delete none p where ", "delete abort p WHERE ",
		"select abort p", "select abort p where ", " abort p", " abort p where ", "insert  p 1,1", "replace abort p", "begin", "rollback", "table p", "null", "0",
	} {
		stmts.refuses(t, "no statement", s)
	}
	others := []string{"", "insert", "update", "delete", "abort", "rollback", "set", "where", "0", "1", "7", "8", "#0", "#16", "1,1", "2,1", "not", "null", "p"}
	for _, s := range []string{"insert fail p 2,1,'a' 0 1,null", "insert abort set", "update ignore p set 1 'a' set 0 #0 1 + where #0 3 <", "update abort where set 7 null where ", "delete replace c where #0 isnull not", "delete rollback set where "} {
		if !stmts.reads(t, s) {
			t.Errorf("%q is not read", s)
		}
		for _, other := range append(misspelt(s), reworded(s, " ", others...)...) {
			stmts.reads(t, other)
		}
	}
}

// TestLongTextsOfStmts has the longest ones that are right, and texts of about as many bytes as are looked at, which none that is right has.
func TestLongTextsOfStmts(t *testing.T) {
	most := text(strings.Repeat("\x7f", impl.MaxText))
	long := slices.Repeat([]impl.Tok{constant(most)}, impl.MaxToks/2)
	for len(long) < impl.MaxToks-1 {
		long = append(long, opTok(impl.EtAnd))
	}
	long = append(long, opTok(impl.EtNull))
	rows := impl.Stmt{Kind: impl.StInsert, Table: "abcdefgh", Rows: slices.Repeat([]impl.Row{{Vals: slices.Repeat([]impl.Val{most}, widest)}}, 8), Policy: impl.PoRollback}
	sets := impl.Stmt{Kind: impl.StUpdate, Table: "abcdefgh", Where: long, Sets: slices.Repeat([]impl.Set{{Col: 7, Expr: long}}, impl.MaxCols), Policy: impl.PoRollback}
	for _, x := range []impl.Stmt{rows, sets, {Kind: impl.StDelete, Table: "abcdefgh", Where: long, Policy: impl.PoRollback}} {
		right := stmtWords(x)
		stmts.says(t, x, right)
		for n := 9999; n <= 10001; n++ {
			for _, more := range []string{" ", " 0", "a", " not", " set 0 1", " where "} {
				rest := strings.Repeat(more, n)[:n-len(right)]
				stmts.refuses(t, "a long text", right+rest)
				stmts.refuses(t, "a long text, with the right one behind", rest+right)
			}
		}
	}
	for _, n := range []int{9999, 10000, 10001, 1000000} {
		for _, piece := range []string{" ", "a", "insert", "insert abort p", "1,1 ", "set 0 1 "} {
			s := strings.Repeat(piece, n)[:n]
			stmts.refuses(t, "a long text", s)
			stmts.refuses(t, "a long text", ("insert abort p " + s)[:n])
			stmts.refuses(t, "a long text", ("update abort p " + s)[:n])
			stmts.refuses(t, "a long text", ("delete abort p where " + s)[:n])
		}
	}
}

// anyVal is of all kinds.
func (d *dice) anyVal() impl.Val { return oneOf(d, rising()) }

// anyExpr is right for twice MaxCols columns.
func (d *dice) anyExpr() []impl.Tok {
	var e []impl.Tok
	for left := 0; left != 1 || d.below(3) > 0 && len(e) < 12; {
		switch n := d.below(4); {
		case left > 1 && n < 2:
			e = append(e, opTok(oneOf(d, []int64{impl.EtEq, impl.EtLess, impl.EtAnd, impl.EtOr, impl.EtAdd, impl.EtSub})))
			left--
		case left > 0 && n == 2:
			e = append(e, opTok(oneOf(d, []int64{impl.EtNot, impl.EtNull})))
		case left < 3:
			e = append(e, oneOf(d, []impl.Tok{col(int64(d.below(widest))), constant(d.anyVal())}))
			left++
		}
	}
	if !impl.ExprOk(e, widest) {
		return chain(3)
	}
	return e
}

// anyStmt is sayable, of a table that need not be there.
func (d *dice) anyStmt() impl.Stmt {
	x := impl.Stmt{Kind: int64(1 + d.below(3)), Table: oneOf(d, rightNames()), Policy: int64(d.below(5))}
	if x.Kind == impl.StInsert {
		for range d.below(9) {
			x.Rows = append(x.Rows, impl.Row{Vals: d.anyVals()})
		}
		return x
	}
	if x.Kind == impl.StUpdate {
		for range d.below(impl.MaxCols + 1) {
			x.Sets = append(x.Sets, impl.Set{Col: int64(d.below(impl.MaxCols)), Expr: d.anyExpr()})
		}
	}
	if d.below(3) > 0 {
		x.Where = d.anyExpr()
	}
	return x
}

func (d *dice) anyVals() []impl.Val {
	var l []impl.Val
	for range d.below(widest + 1) {
		l = append(l, d.anyVal())
	}
	return l
}

// TestTextsOfManyThings has each come back from its text, and reads it with a byte changed.
func TestTextsOfManyThings(t *testing.T) {
	d := dice(51)
	change := func(s string) string {
		if s == "" {
			return s
		}
		i, k := d.below(len(s)), d.below(len(s)+1)
		return s[:i] + oneOf(&d, []string{"", " ", ",", "0", "1", "'", "\n", "#", s[min(i, k):max(i, k)]}) + s[min(i+d.below(2), len(s)):]
	}
	read := 0
	for range 3000 {
		l, x := d.anyVals(), d.anyStmt()
		records.says(t, l, recordOf(l))
		stmts.says(t, x, stmtWords(x))
		s := d.schema()
		db := d.anyDb(s)
		dbsOf(s).says(t, db, dbLines(s, db))
		for range 5 {
			for _, ok := range []bool{records.reads(t, change(recordOf(l))), stmts.reads(t, change(stmtWords(x))), dbsOf(s).reads(t, change(dbLines(s, db)))} {
				if ok {
					read++
				}
			}
		}
		if t.Failed() {
			return
		}
	}
	if read < 1000 {
		t.Errorf("of the changed texts only %d are texts", read)
	}
}

// TestTextsOfStmtsBySchema: what is right for a schema has a text, whatever the schema.
func TestTextsOfStmtsBySchema(t *testing.T) {
	d := dice(53)
	for range 2000 {
		s := d.schema()
		x := d.stmt(t, s, d.anyDb(s))
		if !impl.StmtOk(s, x) {
			t.Fatalf("%+v is not right", x)
		}
		stmts.says(t, x, stmtWords(x))
	}
}
