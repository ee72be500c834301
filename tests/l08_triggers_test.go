package tests

import (
	"math"
	"slices"
	"strconv"
	"strings"
	"testing"

	"loop.example/g00570/impl"
)

var events = []int64{impl.EvInsert, impl.EvUpdate, impl.EvDelete}

// trigger has a condition, or none, and a term for each text.
func trigger(t *testing.T, table string, event int64, when string, into string, terms ...string) impl.Trigger {
	t.Helper()
	l := impl.Trigger{Table: table, Event: event, When: condition(t, when), Into: into}
	for _, term := range terms {
		l.Terms = append(l.Terms, impl.Term{Expr: read(t, term)})
	}
	return l
}

// checkFired is checkExec with triggers, which are right.
func checkFired(t *testing.T, what string, s []impl.Table, l []impl.Trigger, db string, x impl.Stmt, wantCode int64, wantDone int64, want string) {
	t.Helper()
	if !impl.StmtOk(s, x) || !impl.TriggersOk(s, l) {
		t.Errorf("%s: the statement or the triggers are not right", what)
	}
	if want == asItWas {
		want = db
	}
	got, code, done := impl.ExecFired(s, l, dbOf(db), x)
	if code != wantCode || done != wantDone || dbText(got) != dbText(dbOf(want)) {
		t.Errorf("%s: code %d, %d rows, %q, want %d, %d, %q", what, code, done, dbText(got), wantCode, wantDone, dbText(dbOf(want)))
	}
	if impl.SoundNow(s, dbOf(db)) && !impl.SoundNow(s, got) {
		t.Errorf("%s: %q is not sound for now", what, dbText(got))
	}
}

// checkTriggers asks TriggersOk; with triggers that are not right nothing is fired, and no statement is done.
func checkTriggers(t *testing.T, what string, s []impl.Table, l []impl.Trigger, want bool) {
	t.Helper()
	if got := impl.TriggersOk(s, l); got != want {
		t.Errorf("%s: TriggersOk is %v, want %v", what, got, want)
	}
	db, _ := impl.DbNew(s)
	got, code, done := impl.ExecFired(s, l, db, impl.Stmt{Kind: impl.StDelete, Table: "t"})
	if want && (code != impl.EcOk || len(got) != len(s)) || !want && (!isForm(code) || len(got) != 0) || done != 0 {
		t.Errorf("%s: ExecFired is %v, %d, %d", what, got, code, done)
	}
	for table := range s {
		for _, event := range events {
			if f := impl.Fires(s, l, int64(table), event, nil, nil); !want && len(f) != 0 {
				t.Errorf("%s: %v are fired", what, f)
			}
		}
	}
}

// firing is a table t of a Key and two columns, u of a Key alone, v of a text, and the widest one, w.
func firing() []impl.Table {
	texts := impl.Table{Name: "v", Cols: []impl.Col{notNull(textCol("k"))}, Key: []int64{0}}
	s := []impl.Table{{Name: "t", Cols: []impl.Col{notNull(intCol("k")), intCol("n"), textCol("s")}, Key: []int64{0}}, plain("u", 1), texts, plain("w", impl.MaxCols)}
	return s
}

func TestTriggersOk(t *testing.T) {
	s := firing()
	one := trigger(t, "t", impl.EvInsert, "#3 5 <", "u", "#3 1 +")
	for n := range 10 {
		checkTriggers(t, strconv.Itoa(n)+" triggers", s, slices.Repeat([]impl.Trigger{one}, n), n <= 6)
	}
	wide := strings.Split(strings.Repeat("#15 ", impl.MaxCols), " ")[:impl.MaxCols]
	for what, right := range map[string]impl.Trigger{
		"an insert": one, "an update": trigger(t, "t", impl.EvUpdate, "#0 #3 = not", "u", "#0"), "a delete": trigger(t, "t", impl.EvDelete, "", "u", "#5"),
		"into its own table": trigger(t, "t", impl.EvInsert, "", "t", "#3 1 +", "#4", "#5"), "three terms": trigger(t, "u", impl.EvInsert, "#1", "t", "#0", "#1", "'a'"),
		"the last column": trigger(t, "t", impl.EvInsert, "#5", "u", "#5"), "the last column of a narrow table": trigger(t, "u", impl.EvInsert, "#1", "t", "#1", "#1", "#1"),
		"the widest table": trigger(t, "w", impl.EvDelete, "#15", "w", wide...), "a text for a number": trigger(t, "t", impl.EvInsert, "'a'", "u", "'a'"),
		"nulls": trigger(t, "t", impl.EvInsert, "null", "u", "null"),
	} {
		checkTriggers(t, what, s, []impl.Trigger{right}, true)
	}
	long := one
	long.When, long.Terms = chain(impl.MaxToks), []impl.Term{{Expr: chain(impl.MaxToks)}}
	checkTriggers(t, "the longest expressions", s, []impl.Trigger{long}, true)
	empty := one
	empty.When = []impl.Tok{}
	checkTriggers(t, "an empty list for a condition", s, []impl.Trigger{empty}, true)
	checkTriggers(t, "no triggers", s, []impl.Trigger{}, true)
}

func TestTriggersThatAreNotRight(t *testing.T) {
	s := firing()
	one := func() impl.Trigger { return trigger(t, "t", impl.EvInsert, "#3 5 <", "t", "#3 1 +", "#4", "#5") }
	changes := map[string]func(x *impl.Trigger){
		"no terms":      func(x *impl.Trigger) { x.Terms = nil },
		"a term less":   func(x *impl.Trigger) { x.Terms = x.Terms[:2] },
		"a term more":   func(x *impl.Trigger) { x.Terms = append(x.Terms, x.Terms[0]) },
		"another table": func(x *impl.Trigger) { x.Table = "u" },
		"another into":  func(x *impl.Trigger) { x.Into = "u" },
	}
	for _, name := range []string{"", "x", "T", "tt", "k", "t ", "t\x00"} {
		changes["table "+name] = func(x *impl.Trigger) { x.Table = name }
		changes["into "+name] = func(x *impl.Trigger) { x.Into = name }
	}
	for _, event := range []int64{0, 4, -1, 5, math.MaxInt64, math.MinInt64, 1<<32 + 1} {
		changes["event "+strconv.FormatInt(event, 10)] = func(x *impl.Trigger) { x.Event = event }
	}
	wrong := append(wrongExprs(), []impl.Tok{col(6)}, []impl.Tok{col(0), col(6), opTok(impl.EtEq)}, chain(impl.MaxToks+1))
	for i, e := range wrong {
		// What is too wide for one row is not too wide for two.
		if impl.ExprOk(e, 6) {
			continue
		}
		changes["condition "+strconv.Itoa(i)] = func(x *impl.Trigger) { x.When = e }
		for k := range 3 {
			changes["term "+strconv.Itoa(k)+", expression "+strconv.Itoa(i)] = func(x *impl.Trigger) { x.Terms[k].Expr = e }
		}
	}
	for k := range 3 {
		changes["an empty term "+strconv.Itoa(k)] = func(x *impl.Trigger) { x.Terms[k].Expr = nil }
	}
	for what, change := range changes {
		x := one()
		change(&x)
		checkTriggers(t, what, s, []impl.Trigger{x}, false)
		checkTriggers(t, what+", first", s, []impl.Trigger{x, one()}, false)
		checkTriggers(t, what+", last", s, []impl.Trigger{one(), one(), one(), one(), one(), x}, false)
	}
}

func TestTriggersOfSchemas(t *testing.T) {
	one := []impl.Trigger{trigger(t, "t", impl.EvInsert, "#3 5 <", "u", "#3 1 +")}
	for _, change := range []func(s []impl.Table){
		func(s []impl.Table) { s[0].Name = "" },
		func(s []impl.Table) { s[3].Name = "u" },
		func(s []impl.Table) { s[2].Key = nil },
		func(s []impl.Table) { s[2].Fks = []impl.Fk{{Cols: []int64{0}, Table: "x"}} },
	} {
		s := firing()
		change(s)
		checkTriggers(t, "a schema that is not right", s, one, false)
		checkTriggers(t, "a schema that is not right, no triggers", s, nil, false)
	}
	checkTriggers(t, "no tables", nil, one, false)
	if !impl.TriggersOk(nil, nil) || impl.TriggersOk(make([]impl.Table, 1), nil) {
		t.Error("no triggers of no tables")
	}
	// The columns are those of Table, twice, as many terms as Into has columns.
	s := firing()
	for i := range s {
		for k := range s {
			for n := range impl.MaxCols + 2 {
				last := int64(2*len(s[i].Cols) - 1)
				x := impl.Trigger{Table: s[i].Name, Event: impl.EvUpdate, When: []impl.Tok{col(last)}, Into: s[k].Name}
				x.Terms = slices.Repeat([]impl.Term{{Expr: []impl.Tok{col(last)}}}, n)
				checkTriggers(t, "as many terms as columns", s, []impl.Trigger{x}, n == len(s[k].Cols))
				x.When = []impl.Tok{col(last + 1)}
				checkTriggers(t, "a column too many", s, []impl.Trigger{x}, false)
			}
		}
	}
}

// TestExecFiredOfWhatIsNotRight: the database and the statement as with Exec.
func TestExecFiredOfWhatIsNotRight(t *testing.T) {
	s := firing()
	l := []impl.Trigger{trigger(t, "t", impl.EvInsert, "", "u", "#3")}
	row := "1 null 'a'"
	for what, x := range map[string]impl.Stmt{
		"no such table": inserting(0, "x", row), "no such kind": {Kind: 4, Table: "t"}, "a row that does not fit": inserting(0, "t", "1 1"), "no policy": inserting(5, "t", row), "a condition": {Kind: impl.StDelete, Table: "t", Where: []impl.Tok{col(3)}},
	} {
		if got, code, done := impl.ExecFired(s, l, dbOf("///"), x); !isForm(code) || len(got) != 0 || done != 0 {
			t.Errorf("%s: %v, %d, %d", what, got, code, done)
		}
	}
	for _, db := range []string{"", "//", "////", "0 1 null 'a' ///", "2 1 null 'a'; 2 2 null 'a' ///", "1 1 1 ///", "///1 1"} {
		if got, code, done := impl.ExecFired(s, l, dbOf(db), inserting(0, "t", row)); !isForm(code) || len(got) != 0 || done != 0 {
			t.Errorf("%q: %v, %d, %d", db, got, code, done)
		}
	}
	for _, policy := range policies {
		checkFired(t, "no truth", s, l, "1 1 null 'a'///", deleting(t, policy, "t", "#2"), impl.EcEval, 0, asItWas)
	}
}

func checkFires(t *testing.T, what string, s []impl.Table, l []impl.Trigger, table int64, event int64, old string, now string, want ...int64) {
	t.Helper()
	if got := impl.Fires(s, l, table, event, valsOf(old), valsOf(now)); !slices.Equal(got, want) {
		t.Errorf("%s: event %d of %q, %q fires %v, want %v", what, event, old, now, got, want)
	}
}

// TestFiresByCondition: no condition, or one that is true of the row as it was and as it is.
func TestFiresByCondition(t *testing.T) {
	s := firing()
	const a, b = "1 5 'a'", "2 null 'b'"
	for when, want := range map[string][4]bool{
		// Of a and b, of b and a, of none and a, of a and none.
		"": {true, true, true, true}, "1": {true, true, true, true}, "-3": {true, true, true, true}, "0": {}, "null": {}, "'a'": {},
		"#0 1 =": {true, false, false, true}, "#3 1 =": {false, true, true, false}, "#0 #3 <": {true, false, false, false}, "#1 isnull": {false, true, true, false}, "#4 isnull": {true, false, false, true},
		"#0 isnull": {false, false, true, false}, "#3 isnull": {false, false, false, true}, "#0 #3 = not": {true, true, false, false}, "#2 'a' =": {true, false, false, true}, "#5 'a' =": {false, true, true, false},
		"#1": {true, false, false, true}, "#4 5 - not": {false, true, true, false}, "#2": {}, "#5 not": {}, "#2 isnull": {false, false, true, false},
		// No truth of one row is none of the whole.
		"#1 1000000000 + isnull": {false, true, true, false}, "#3 1 = #2 or": {false, false, true, false},
	} {
		l := []impl.Trigger{trigger(t, "t", 0, when, "u", "#0")}
		for _, event := range events {
			l[0].Event = event
			for i, rows := range [4][2]string{{a, b}, {b, a}, {"", a}, {a, ""}} {
				var fired []int64
				if want[i] {
					fired = []int64{0}
				}
				checkFires(t, "when "+when, s, l, 0, event, rows[0], rows[1], fired...)
			}
		}
	}
}

// TestFiresWhatItIsAskedFor: those of the table and of the event, in order.
func TestFiresWhatItIsAskedFor(t *testing.T) {
	s := firing()
	l := []impl.Trigger{
		trigger(t, "t", impl.EvInsert, "", "u", "#3"),
		trigger(t, "u", impl.EvInsert, "", "t", "#1", "#1", "'a'"),
		trigger(t, "t", impl.EvUpdate, "#3 #0 <", "u", "#3"),
		trigger(t, "t", impl.EvInsert, "#4 isnull", "t", "#3", "#4", "#5"),
		trigger(t, "t", impl.EvDelete, "", "u", "#3"),
		trigger(t, "t", impl.EvInsert, "#3 3 <", "u", "#3"),
	}
	checkFires(t, "all", s, l, 0, impl.EvInsert, "", "1 null 'a'", 0, 3, 5)
	checkFires(t, "two", s, l, 0, impl.EvInsert, "", "1 1 'a'", 0, 5)
	checkFires(t, "two others", s, l, 0, impl.EvInsert, "", "3 null 'a'", 0, 3)
	checkFires(t, "one", s, l, 0, impl.EvInsert, "", "3 1 'a'", 0)
	checkFires(t, "another table", s, l, 1, impl.EvInsert, "", "3", 1)
	checkFires(t, "no trigger", s, l, 1, impl.EvUpdate, "3", "3")
	checkFires(t, "no trigger of the table", s, l, 2, impl.EvInsert, "", "'a'")
	checkFires(t, "an update", s, l, 0, impl.EvUpdate, "2 1 'a'", "1 1 'a'", 2)
	checkFires(t, "an update to more", s, l, 0, impl.EvUpdate, "1 1 'a'", "2 1 'a'")
	checkFires(t, "an update of none", s, l, 0, impl.EvUpdate, "", "2 1 'a'")
	checkFires(t, "a delete", s, l, 0, impl.EvDelete, "2 1 'a'", "", 4)
	// No row is there, and all is a null.
	checkFires(t, "no rows, insert", s, l, 0, impl.EvInsert, "", "", 0, 3)
	checkFires(t, "no rows, delete", s, l, 0, impl.EvDelete, "", "", 4)
	checkFires(t, "no rows, update", s, l, 0, impl.EvUpdate, "", "")
	for _, event := range []int64{0, 4, -1, math.MaxInt64, math.MinInt64, 1<<32 + 1} {
		checkFires(t, "no such event", s, l, 0, event, "2 1 'a'", "1 1 'a'")
	}
	for _, table := range []int64{-1, 4, math.MaxInt64, math.MinInt64, 1 << 32} {
		for _, event := range events {
			checkFires(t, "no such table", s, l, table, event, "", "")
			checkFires(t, "no such table, a row", s, l, table, event, "1 1 'a'", "1 1 'a'")
		}
	}
	six := slices.Repeat(l[:1], 6)
	checkFires(t, "six", s, six, 0, impl.EvInsert, "", "1 1 'a'", 0, 1, 2, 3, 4, 5)
	checkFires(t, "seven", s, append(six, l[0]), 0, impl.EvInsert, "", "1 1 'a'")
	l[1].Into = "x"
	checkFires(t, "one that is not right", s, l, 0, impl.EvInsert, "", "1 1 'a'")
	checkFires(t, "no triggers", s, nil, 0, impl.EvInsert, "", "1 1 'a'")
	if got := impl.Fires(nil, nil, 0, impl.EvInsert, nil, nil); len(got) != 0 {
		t.Error("nothing at all fires", got)
	}
}

// TestFiresOfRowsThatDoNotFit: a row that is there fits, whatever the condition asks.
func TestFiresOfRowsThatDoNotFit(t *testing.T) {
	s := firing()
	s[0].Checks = []impl.Check{{Expr: read(t, "#0 5 <")}}
	for _, event := range events {
		l := []impl.Trigger{trigger(t, "t", event, "", "u", "#3")}
		for _, wrong := range []string{"1", "1 1", "1 1 'a' 1", "'a' 1 'a'", "1 'a' 'a'", "1 1 1", "1 1 'a' 1 1 'a'"} {
			checkFires(t, "as it was", s, l, 0, event, wrong, "1 1 'a'")
			checkFires(t, "as it is", s, l, 0, event, "1 1 'a'", wrong)
			checkFires(t, "as it was, alone", s, l, 0, event, wrong, "")
			checkFires(t, "as it is, alone", s, l, 0, event, "", wrong)
		}
		for _, v := range wrongVals() {
			bad := []impl.Val{num(1), v, text("a")}
			if f := append(impl.Fires(s, l, 0, event, bad, nil), impl.Fires(s, l, 0, event, nil, bad)...); len(f) != 0 {
				t.Errorf("%#v fires %v", v, f)
			}
		}
		// What fits may still break a rule.
		checkFires(t, "a null in the Key", s, l, 0, event, "null null null", "null 1 'a'", 0)
		checkFires(t, "a check", s, l, 0, event, "9 1 'a'", "9 1 'a'", 0)
	}
}

// diary is a table p, and q, in which the triggers write down what they see: p as it was and as it is.
func diary(t *testing.T) ([]impl.Table, []impl.Trigger) {
	p := impl.Table{Name: "p", Cols: []impl.Col{notNull(intCol("k")), intCol("n")}, Key: []int64{0}}
	q := impl.Table{Name: "q", Cols: []impl.Col{notNull(intCol("k")), intCol("a"), intCol("b"), intCol("c"), intCol("d")}, Key: []int64{0}}
	var l []impl.Trigger
	for i, key := range []string{"#2 100 +", "#0 200 +", "#0 300 +"} {
		l = append(l, trigger(t, "p", events[i], "", "q", key, "#0", "#1", "#2", "#3"))
	}
	return []impl.Table{p, q}, l
}

// TestWhatTriggersSee: the row as it was, then as it is.
func TestWhatTriggersSee(t *testing.T) {
	s, l := diary(t)
	const db = "1 1 10; 2 2 null; 5 3 30 / 7 7 null null null null"
	for _, policy := range policies {
		checkFired(t, "inserts", s, l, db, inserting(policy, "p", "4 40", "5 null"), impl.EcOk, 2,
			"1 1 10; 2 2 null; 5 3 30; 6 4 40; 7 5 null / 7 7 null null null null; 8 104 null null 4 40; 9 105 null null 5 null")
		checkFired(t, "updates", s, l, db, updating(t, policy, "p", "#0 3 <", "1=#0 50 +"), impl.EcOk, 2,
			"1 1 51; 2 2 52; 5 3 30 / 7 7 null null null null; 8 201 1 10 1 51; 9 202 2 null 2 52")
		checkFired(t, "updates of a Key", s, l, db, updating(t, policy, "p", "#0 1 = not", "0=#0 60 +"), impl.EcOk, 2,
			"1 1 10; 2 62 null; 5 63 30 / 7 7 null null null null; 8 202 2 null 62 null; 9 203 3 30 63 30")
		checkFired(t, "updates that change nothing", s, l, db, updating(t, policy, "p", "#0 3 <"), impl.EcOk, 2,
			"1 1 10; 2 2 null; 5 3 30 / 7 7 null null null null; 8 201 1 10 1 10; 9 202 2 null 2 null")
		checkFired(t, "deletes", s, l, db, deleting(t, policy, "p", "#0 2 = not"), impl.EcOk, 2,
			"2 2 null / 7 7 null null null null; 8 301 1 10 null null; 9 303 3 30 null null")
		checkFired(t, "no rows", s, l, db, deleting(t, policy, "p", "0"), impl.EcOk, 0, asItWas)
		checkFired(t, "none to insert", s, l, db, inserting(policy, "p"), impl.EcOk, 0, asItWas)
		checkFired(t, "a table without triggers", s, l, db, deleting(t, policy, "q", ""), impl.EcOk, 1, "1 1 10; 2 2 null; 5 3 30 /")
	}
	// What is refused itself fires nothing.
	checkFired(t, "one is passed over", s, l, db, inserting(impl.PoIgnore, "p", "4 40", "2 2", "5 50"), impl.EcOk, 2,
		"1 1 10; 2 2 null; 5 3 30; 6 4 40; 7 5 50 / 7 7 null null null null; 8 104 null null 4 40; 9 105 null null 5 50")
	checkFired(t, "one ends it", s, l, db, inserting(impl.PoFail, "p", "4 40", "2 2", "5 50"), impl.EcUnique, 1,
		"1 1 10; 2 2 null; 5 3 30; 6 4 40 / 7 7 null null null null; 8 104 null null 4 40")
}

// TestConditionsOfTriggers: each row is asked for itself.
func TestConditionsOfTriggers(t *testing.T) {
	s, l := diary(t)
	for when, want := range map[string]string{
		"": "1 101; 2 102; 3 103", "1": "1 101; 2 102; 3 103", "0": "", "null": "", "'a'": "", "#3": "1 101", "#3 not": "1 102", "#3 isnull": "1 103", "#0 isnull": "1 101; 2 102; 3 103",
		"#2 2 <": "1 101", "#3 1000000000 +": "1 102", "#3 isnull #2 1 = or": "1 101; 2 103", "#0 1 =": "", "#2 #3 =": "1 101",
	} {
		l[0].When = condition(t, when)
		for _, k := range l[0].Terms[1:] {
			k.Expr[0] = impl.Tok{Kind: impl.EtConst}
		}
		want = strings.ReplaceAll(want, ";", " null null null null;")
		if want != "" {
			want += " null null null null"
		}
		checkFired(t, "when "+when, s, l, "/", inserting(impl.PoAbort, "p", "1 1", "2 0", "3 null"), impl.EcOk, 3, "1 1 1; 2 2 0; 3 3 null /"+want)
	}
}

// TestTriggersSeeTheRowAsItIs: with Defaults, and with what followed from the change.
func TestTriggersSeeTheRowAsItIs(t *testing.T) {
	s, l := diary(t)
	s[0].Cols[1].NotNull, s[0].Cols[1].Default = true, num(77)
	checkFired(t, "a Default", s, l, "/", inserting(impl.PoReplace, "p", "4 null"), impl.EcOk, 1, "1 4 77 / 1 104 null null 4 77")
	checkFired(t, "a Default, update", s, l, "1 4 5 /", updating(t, impl.PoReplace, "p", "", "1=null"), impl.EcOk, 1, "1 4 77 / 1 204 4 5 4 77")
	// The row refers to itself, and follows its own Key.
	s, l = diary(t)
	s[0].Fks = []impl.Fk{{Cols: []int64{1}, Table: "p", OnUpdate: impl.FkCascade}}
	checkFired(t, "a row that follows itself", s, l, "1 4 4 /", updating(t, impl.PoAbort, "p", "", "0=5"), impl.EcOk, 1, "1 5 5 / 1 204 4 4 5 5")
	s[0].Fks[0].OnUpdate = impl.FkNull
	checkFired(t, "a row that loses itself", s, l, "1 4 4 /", updating(t, impl.PoAbort, "p", "", "0=5"), impl.EcOk, 1, "1 5 null / 1 204 4 4 5 null")
	// A rival takes what the row refers to away, but it was there as the row was.
	s[0].Fks[0].OnDelete = impl.FkNull
	checkFired(t, "a row that loses its rival", s, l, "1 4 null; 2 5 4 /", updating(t, impl.PoReplace, "p", "#0 5 =", "0=4", "1=null"), impl.EcOk, 1, "2 4 null / 1 205 5 4 4 null")
	checkFired(t, "as the row ahead left it", s, l, "1 4 null; 2 5 4 /", updating(t, impl.PoAbort, "p", "", "0=#0 10 +"), impl.EcOk, 2, "1 14 null; 2 15 null / 1 204 4 null 14 null; 2 205 5 null 15 null")
}

// TestRowsThatFollowFireNothing: rivals and children, whatever becomes of them.
func TestRowsThatFollowFireNothing(t *testing.T) {
	for _, action := range []int64{impl.FkCascade, impl.FkNull} {
		s := append(shop(action, action, false), plain("q", 2))
		l := []impl.Trigger{trigger(t, "p", impl.EvDelete, "", "q", "#0", "1"), trigger(t, "c", impl.EvDelete, "", "q", "#0", "2"), trigger(t, "c", impl.EvUpdate, "", "q", "#0", "3"), trigger(t, "p", impl.EvUpdate, "", "q", "#0", "4")}
		gone, changed := "2 6 2", "1 5 3; 2 6 2; 7 7 3"
		if action == impl.FkNull {
			gone, changed = "1 5 null; 2 6 2; 7 7 null", "1 5 null; 2 6 2; 7 7 null"
		}
		const db = shopDb + "/"
		checkFired(t, "children of one that goes", s, l, db, deleting(t, 0, "p", "#0 1 ="), impl.EcOk, 1, "4 2 20 null /"+gone+"/ 1 1 1")
		checkFired(t, "children of one that changes", s, l, db, updating(t, 0, "p", "#0 1 =", "0=3"), impl.EcOk, 1, "2 3 10 'a'; 4 2 20 null /"+changed+"/ 1 1 4")
		checkFired(t, "a rival of one that comes, and its children", s, l, db, inserting(impl.PoReplace, "p", "1 30 'b'"), impl.EcOk, 1, "4 2 20 null; 5 1 30 'b' /"+gone+"/")
		checkFired(t, "a rival of one that changes, and its children", s, l, db, updating(t, impl.PoReplace, "p", "#0 2 =", "1=10"), impl.EcOk, 1, "4 2 10 null /"+gone+"/ 1 2 4")
		checkFired(t, "children that are done themselves", s, l, db, deleting(t, 0, "c", "#1 1 ="), impl.EcOk, 2, "2 1 10 'a'; 4 2 20 null / 2 6 2 / 1 5 2; 2 7 2")
	}
	// A row that goes with the one ahead of it is not done.
	s := append(tree(impl.FkCascade, impl.FkCascade, false), plain("q", 1))
	l := []impl.Trigger{trigger(t, "t", impl.EvDelete, "", "q", "#0")}
	checkFired(t, "all, from the first", s, l, "1 1 null; 2 2 1; 3 3 2; 4 4 null /", deleting(t, 0, "t", ""), impl.EcOk, 2, "/ 1 1; 2 4")
	checkFired(t, "all, from the last", s, l, "1 1 2; 2 2 3; 3 3 null /", deleting(t, 0, "t", ""), impl.EcOk, 3, "/ 1 1; 2 2; 3 3")
}

// TestTriggersInOrder: what a row fires is done with all that it fires, one behind the other.
func TestTriggersInOrder(t *testing.T) {
	s := []impl.Table{plain("p", 1), plain("q", 1), plain("r", 1)}
	l := []impl.Trigger{
		trigger(t, "p", impl.EvInsert, "", "q", "#1 10 +"), trigger(t, "q", impl.EvInsert, "#1 100 <", "q", "#1 100 +"), trigger(t, "p", impl.EvInsert, "", "q", "#1 20 +"),
		trigger(t, "q", impl.EvInsert, "", "r", "#1 1000 +"), trigger(t, "p", impl.EvInsert, "#1 2 =", "q", "#1 30 +"), trigger(t, "q", impl.EvInsert, "#1 100 <", "r", "#1"),
	}
	checkFired(t, "one row", s, l, "//", inserting(0, "p", "1"), impl.EcOk, 1, "1 1 / 1 11; 2 111; 3 21; 4 121 / 1 1111; 2 1011; 3 11; 4 1121; 5 1021; 6 21")
	checkFired(t, "two rows", s, l, "//", inserting(0, "p", "1", "2"), impl.EcOk, 2,
		"1 1; 2 2 / 1 11; 2 111; 3 21; 4 121; 5 12; 6 112; 7 22; 8 122; 9 32; 10 132 / 1 1111; 2 1011; 3 11; 4 1121; 5 1021; 6 21; 7 1112; 8 1012; 9 12; 10 1122; 11 1022; 12 22; 13 1132; 14 1032; 15 32")
	checkFired(t, "a table in the middle", s, l, "//", inserting(0, "q", "5"), impl.EcOk, 1, "/ 1 5; 2 105 / 1 1105; 2 1005; 3 5")
	checkFired(t, "the last table", s, l, "//", inserting(0, "r", "5"), impl.EcOk, 1, "// 1 5")
	slices.Reverse(l)
	checkFired(t, "in another order", s, l, "//", inserting(0, "p", "2"), impl.EcOk, 1, "1 2 / 1 32; 2 132; 3 22; 4 122; 5 12; 6 112 / 1 32; 2 1032; 3 1132; 4 22; 5 1022; 6 1122; 7 12; 8 1012; 9 1112")
	// A trigger fires by insert alone, whatever fired it.
	l = []impl.Trigger{trigger(t, "p", impl.EvDelete, "", "q", "#0"), trigger(t, "q", impl.EvDelete, "", "r", "#0"), trigger(t, "q", impl.EvInsert, "#0 isnull", "r", "#1 50 +"), trigger(t, "q", impl.EvUpdate, "", "r", "#1")}
	checkFired(t, "an insert behind a delete", s, l, "1 1; 2 2 //", deleting(t, 0, "p", ""), impl.EcOk, 2, "/ 1 1; 2 2 / 1 51; 2 52")
}

// TestIdsBehindTriggers: a row that was put in has one more than the last one, which a trigger may have put in.
func TestIdsBehindTriggers(t *testing.T) {
	s := []impl.Table{plain("p", 1)}
	l := []impl.Trigger{trigger(t, "p", impl.EvInsert, "#1 100 <", "p", "#1 100 +")}
	checkFired(t, "inserts", s, l, "7 7", inserting(0, "p", "1", "2", "200", "3"), impl.EcOk, 4, "7 7; 8 1; 9 101; 10 2; 11 102; 12 200; 13 3; 14 103")
	l = []impl.Trigger{trigger(t, "p", impl.EvInsert, "#1 100 <", "p", "#1 100 +"), trigger(t, "p", impl.EvInsert, "#1 100 <", "p", "#1 200 +")}
	checkFired(t, "two of each", s, l, "7 7", inserting(0, "p", "1", "2"), impl.EcOk, 2, "7 7; 8 1; 9 101; 10 201; 11 2; 12 102; 13 202")
	checkFired(t, "a rival that was the last one", s, l, "7 7; 9 1", inserting(impl.PoReplace, "p", "1"), impl.EcOk, 1, "7 7; 10 1; 11 101; 12 201")
	checkFired(t, "a rival that a trigger put in", s, l, "7 7", inserting(impl.PoReplace, "p", "1", "201"), impl.EcOk, 2, "7 7; 8 1; 9 101; 11 201")
	checkFired(t, "the last Id", s, l, "999999997 7", inserting(0, "p", "1"), impl.EcOk, 1, "999999997 7; 999999998 1; 999999999 101; 1000000000 201")
	checkFired(t, "one more than the last Id", s, l, "999999998 7", inserting(0, "p", "1"), impl.EcFull, 0, asItWas)
}

// TestRowsThatMatchedBeforeTriggers: those that match are found ahead of all, and a trigger puts none of them in; which of them are there yet is told by their Ids.
func TestRowsThatMatchedBeforeTriggers(t *testing.T) {
	s := tree(impl.FkCascade, impl.FkCascade, false)
	for _, policy := range policies {
		up := []impl.Trigger{trigger(t, "t", impl.EvUpdate, "", "t", "#0 50 +", "null")}
		checkFired(t, "update all", s, up, "1 1 null; 2 2 null", updating(t, policy, "t", "", "0=#0 10 +"), impl.EcOk, 2, "1 11 null; 2 12 null; 3 51 null; 4 52 null")
		down := []impl.Trigger{trigger(t, "t", impl.EvDelete, "", "t", "#0 10 +", "null")}
		checkFired(t, "delete all", s, down, "1 1 null; 2 2 null", deleting(t, policy, "t", ""), impl.EcOk, 2, "3 11 null; 4 12 null")
		// The last row goes, and its trigger's row has its Id.
		checkFired(t, "delete the last", s, down, "1 1 null; 2 2 null", deleting(t, policy, "t", "#0 2 ="), impl.EcOk, 1, "1 1 null; 2 12 null")
		checkFired(t, "delete the only one", s, down, "9 1 null", deleting(t, policy, "t", ""), impl.EcOk, 1, "1 11 null")
		// It comes back just as it was.
		same := []impl.Trigger{trigger(t, "t", impl.EvDelete, "", "t", "#0", "#1")}
		checkFired(t, "come back", s, same, "1 1 null; 2 2 1", deleting(t, policy, "t", "#0 2 ="), impl.EcOk, 1, asItWas)
		checkFired(t, "come back with another Id", s, same, "1 1 null; 2 2 null", deleting(t, policy, "t", "#0 1 ="), impl.EcOk, 1, "2 2 null; 3 1 null")
		// Row 2 goes with row 1, and one that a trigger puts in has its Id when its turn comes.
		two := append(down, trigger(t, "t", impl.EvDelete, "", "t", "#0 20 +", "null"))
		checkFired(t, "an Id that is there again", s, two, "1 1 null; 2 2 1", deleting(t, policy, "t", ""), impl.EcOk, 2, "1 11 null; 2 31 null; 3 41 null")
		checkFired(t, "an Id that is not there", s, down, "1 1 null; 2 2 1", deleting(t, policy, "t", ""), impl.EcOk, 1, "1 11 null")
	}
}

// TestARowThatItsOwnTriggerMeets: the row is there, and is a rival of the one that its trigger would put in, with PoReplace, too.
func TestARowThatItsOwnTriggerMeets(t *testing.T) {
	s := tree(impl.FkCascade, impl.FkCascade, false)
	s[0].Cols = append(s[0].Cols, intCol("u"))
	s[0].Uniques = []impl.Unique{{Cols: []int64{2}}}
	again := []impl.Trigger{trigger(t, "t", impl.EvInsert, "#3 10 <", "t", "#3", "null", "null"), trigger(t, "t", impl.EvUpdate, "#3 10 <", "t", "#3", "null", "null")}
	unique := []impl.Trigger{trigger(t, "t", impl.EvInsert, "#3 10 <", "t", "#3 50 +", "null", "#5"), trigger(t, "t", impl.EvUpdate, "#3 10 <", "t", "#3 50 +", "null", "#5")}
	for _, policy := range policies {
		for place := range 3 {
			rows := []string{"21 null null", "22 null null", "23 null null"}
			rows[place] = "1 null 1"
			code, done, kept := expected(policy, impl.EcUnique, place, 3)
			want, id := "7 97 null 97", 7
			var db, updated []string
			for i, row := range rows {
				db = append(db, strconv.Itoa(i+1)+" "+row)
				updated = append(updated, db[i])
				if kept[i] {
					id++
					want += "; " + strconv.Itoa(id) + " " + row
					updated[i] = strings.Replace(db[i], " null ", " 97 ", 1)
				}
			}
			what := "policy " + strconv.Itoa(int(policy)) + ", place " + strconv.Itoa(place)
			for _, l := range [][]impl.Trigger{again, unique} {
				checkFired(t, "insert, "+what, s, l, "7 97 null 97", inserting(policy, "t", rows...), code, done, want)
				checkFired(t, "update, "+what, s, l, strings.Join(db, "; ")+"; 7 97 null 97", updating(t, policy, "t", "#0 90 <", "1=97"), code, done, strings.Join(updated, "; ")+"; 7 97 null 97")
			}
		}
		// It has left its old Key, and is gone when it is deleted.
		l := []impl.Trigger{trigger(t, "t", impl.EvUpdate, "", "t", "#0", "#1", "#2"), trigger(t, "t", impl.EvDelete, "", "t", "#0", "#1", "#2")}
		checkFired(t, "an old Key", s, l, "7 1 null null", updating(t, policy, "t", "", "0=2"), impl.EcOk, 1, "7 2 null null; 8 1 null null")
		checkFired(t, "a delete", s, l, "7 1 null 5; 8 2 null 6", deleting(t, policy, "t", "#0 1 ="), impl.EcOk, 1, "8 2 null 6; 9 1 null 5")
		// The row ahead has put in what this one would be.
		twice := []impl.Trigger{trigger(t, "t", impl.EvInsert, "#3 2 =", "t", "5", "null", "null")}
		code, done, kept := expected(policy, impl.EcUnique, 1, 2)
		want := "1 2 null null; 2 5 null null"
		switch {
		case policy == impl.PoReplace:
			code, done, want = impl.EcOk, 2, "1 2 null null; 3 5 null null"
		case !kept[0]:
			want = ""
		}
		checkFired(t, "one ahead", s, twice, "", inserting(policy, "t", "2 null null", "5 null null"), code, done, want)
		// A trigger may refer to its row, or to what is gone.
		child := []impl.Trigger{trigger(t, "t", impl.EvInsert, "#3 10 <", "t", "#3 50 +", "#3", "null"), trigger(t, "t", impl.EvDelete, "#0 10 <", "t", "#0 50 +", "#0", "null")}
		checkFired(t, "a row to refer to", s, child, "", inserting(policy, "t", "1 null null"), impl.EcOk, 1, "1 1 null null; 2 51 1 null")
		checkFired(t, "a row that is gone", s, child, "1 1 null null; 2 2 null null", deleting(t, policy, "t", "#0 1 ="), impl.EcFk, 0, asItWas)
	}
}

// TestDepthOfTriggers: the row of a statement fires 0 deep, what it fires 1 deep.
func TestDepthOfTriggers(t *testing.T) {
	s := []impl.Table{plain("p", 1), plain("q", 1), plain("r", 1)}
	keys := func(from int, to int) string {
		var l []string
		for k := from; k <= to; k++ {
			l = append(l, strconv.Itoa(k+1)+" "+strconv.Itoa(k))
		}
		return strings.Join(l, ";")
	}
	for _, policy := range policies {
		for most := impl.MaxFires - 2; most <= impl.MaxFires+3; most++ {
			// Each row below most fires the next one: most rows are put in by triggers.
			below := "#1 " + strconv.Itoa(most) + " <"
			l := []impl.Trigger{trigger(t, "p", impl.EvInsert, below, "p", "#1 1 +")}
			code, done, want := int64(impl.EcOk), int64(1), keys(0, most)
			if most > impl.MaxFires {
				code, done, _ = expected(policy, impl.EcDepth, 0, 1)
				want = ""
			}
			what := "policy " + strconv.Itoa(int(policy)) + ", most " + strconv.Itoa(most)
			checkFired(t, what, s, l, "//", inserting(policy, "p", "0"), code, done, want+"//")
			// By way of two tables.
			l = []impl.Trigger{trigger(t, "p", impl.EvInsert, below, "q", "#1 1 +"), trigger(t, "q", impl.EvInsert, below, "p", "#1 1 +")}
			got, code2, done2 := impl.ExecFired(s, l, dbOf("//"), inserting(policy, "p", "0"))
			if code2 != code || done2 != done || len(got[0].Rows)+len(got[1].Rows) != int(done)*(most+1) {
				t.Errorf("%s, two tables: %v, %d, %d", what, got, code2, done2)
			}
			// An update, or a delete, is 0 deep as well.
			l = []impl.Trigger{trigger(t, "r", impl.EvUpdate, "", "p", "1"), trigger(t, "r", impl.EvDelete, "", "p", "1"), trigger(t, "p", impl.EvInsert, below, "p", "#1 1 +")}
			want = strings.TrimPrefix(keys(0, most), "1 0;")
			for i := range most {
				want = strings.Replace(want, strconv.Itoa(i+2)+" "+strconv.Itoa(i+1), strconv.Itoa(i+1)+" "+strconv.Itoa(i+1), 1)
			}
			updated, deleted := want+"// 1 1", want+"//"
			if most > impl.MaxFires {
				updated, deleted = "// 1 1", "// 1 1"
			}
			checkFired(t, what+", update", s, l, "// 1 1", updating(t, policy, "r", ""), code, done, updated)
			checkFired(t, what+", delete", s, l, "// 1 1", deleting(t, policy, "r", ""), code, done, deleted)
		}
	}
	// Rows are put in side by side without being deeper.
	l := slices.Repeat([]impl.Trigger{trigger(t, "p", impl.EvInsert, "", "q", "#1 1 +")}, 6)
	for i := range l {
		l[i].Terms = []impl.Term{{Expr: read(t, "#1 "+strconv.Itoa(i)+" +")}}
	}
	checkFired(t, "six side by side", s, l, "//", inserting(0, "p", "10", "20"), impl.EcOk, 2, "1 10; 2 20 / 1 10; 2 11; 3 12; 4 13; 5 14; 6 15; 7 20; 8 21; 9 22; 10 23; 11 24; 12 25 /")
	// Too deep is told ahead of what is wrong with the row; what was put in side by side is undone.
	deep := []impl.Trigger{trigger(t, "p", impl.EvInsert, "#1 6 <", "p", "#1 1 +"), trigger(t, "p", impl.EvInsert, "#1 6 =", "q", "null isnull null isnull + null +")}
	checkFired(t, "too deep, and a null", s, deep, "//", inserting(impl.PoIgnore, "p", "0"), impl.EcDepth, 0, asItWas)
	checkFired(t, "just a null", s, deep, "//", inserting(impl.PoIgnore, "p", "1"), impl.EcOk, 0, asItWas)
	deep[1].Terms[0].Expr = read(t, "'a' 1 +")
	checkFired(t, "too deep, and no value", s, deep, "//", inserting(impl.PoAbort, "p", "0"), impl.EcDepth, 0, asItWas)
	checkFired(t, "just no value", s, deep, "//", inserting(impl.PoAbort, "p", "1"), impl.EcEval, 0, asItWas)
}

// TestTermsWithoutAValue: one that has none, or one that does not fit its column.
func TestTermsWithoutAValue(t *testing.T) {
	p := impl.Table{Name: "p", Cols: []impl.Col{notNull(intCol("k")), intCol("n"), textCol("s")}, Key: []int64{0}}
	q := impl.Table{Name: "q", Cols: []impl.Col{notNull(intCol("k")), intCol("n"), textCol("s")}, Key: []int64{0}, Checks: []impl.Check{{Expr: read(t, "#0 5 <")}}}
	s := []impl.Table{p, q}
	for _, policy := range policies {
		for _, c := range []struct {
			terms [3]string
			code  int64
			want  string
		}{
			{[3]string{"#3", "#4", "#5"}, impl.EcOk, "1 1 1000000000 'a'"},
			{[3]string{"#3", "null", "null"}, impl.EcOk, "1 1 null null"},
			{[3]string{"#3", "#0", "#2"}, impl.EcOk, "1 1 null null"},
			{[3]string{"#3", "#4 isnull", "'b'"}, impl.EcOk, "1 1 0 'b'"},
			{[3]string{"#3", "#4 1 +", "#5"}, impl.EcEval, ""},
			{[3]string{"#3", "#5 1 +", "#5"}, impl.EcEval, ""},
			{[3]string{"#3", "#5 not", "#5"}, impl.EcEval, ""},
			{[3]string{"#4 #4 +", "#4", "#5"}, impl.EcEval, ""},
			{[3]string{"#3", "#4", "#5 'a' +"}, impl.EcEval, ""},
			// Of another kind.
			{[3]string{"#3", "#5", "#5"}, impl.EcEval, ""},
			{[3]string{"#3", "#4", "#4"}, impl.EcEval, ""},
			{[3]string{"'a'", "#4", "#5"}, impl.EcEval, ""},
			{[3]string{"#3", "#4", "#5 isnull"}, impl.EcEval, ""},
			// Ahead of what else is wrong with the row.
			{[3]string{"null", "'a'", "#5"}, impl.EcEval, ""},
			{[3]string{"9", "#4", "1"}, impl.EcEval, ""},
			{[3]string{"null", "#4", "#5"}, impl.EcNull, ""},
			{[3]string{"9", "#4", "#5"}, impl.EcCheck, ""},
		} {
			l := []impl.Trigger{trigger(t, "p", impl.EvInsert, "#3 1 =", "q", c.terms[0], c.terms[1], c.terms[2])}
			what := "policy " + strconv.Itoa(int(policy)) + ", " + strings.Join(c.terms[:], ", ")
			rows := []string{"7 1 'z'", "1 1000000000 'a'", "8 1 'z'"}
			code, done, kept := c.code, int64(3), []bool{true, true, true}
			if code != impl.EcOk {
				code, done, kept = expected(policy, c.code, 1, 3)
			}
			want, id := "", 0
			for i, row := range rows {
				if kept[i] {
					id++
					want += ";" + strconv.Itoa(id) + " " + row
				}
			}
			checkFired(t, what, s, l, "/", inserting(policy, "p", rows...), code, done, want+"/"+c.want)
			l[0].When = read(t, "#3 2 =")
			checkFired(t, what+", that does not fire", s, l, "/", inserting(policy, "p", "1 1000000000 'a'"), impl.EcOk, 1, "1 1 1000000000 'a' /")
		}
	}
}

// TestTriggersPutInWithoutReplace: no Default, and no rival goes, whatever the policy.
func TestTriggersPutInWithoutReplace(t *testing.T) {
	s := []impl.Table{plain("p", 1), {Name: "q", Cols: []impl.Col{notNull(intCol("k")), notNull(intCol("n"))}, Key: []int64{0}}}
	s[1].Cols[1].Default = num(5)
	null := []impl.Trigger{trigger(t, "p", impl.EvInsert, "", "q", "#1", "null")}
	rival := []impl.Trigger{trigger(t, "p", impl.EvInsert, "", "q", "#1", "1")}
	for _, policy := range policies {
		code, done, _ := expected(policy, impl.EcNull, 0, 1)
		checkFired(t, "a null", s, null, "/ 7 7 7", inserting(policy, "p", "1"), code, done, asItWas)
		code, done, _ = expected(policy, impl.EcUnique, 0, 1)
		checkFired(t, "a rival", s, rival, "/ 7 7 7", inserting(policy, "p", "7"), code, done, asItWas)
		checkFired(t, "none", s, rival, "/ 7 7 7", inserting(policy, "p", "8"), impl.EcOk, 1, "1 8 / 7 7 7; 8 8 1")
	}
	// The row of the statement has the replace that its triggers have not.
	checkFired(t, "a rival of the row alone", s, rival, "3 1 /", inserting(impl.PoReplace, "p", "1"), impl.EcOk, 1, "4 1 / 1 1 1")
}

// hurt has a table p whose rows are what triggers put into f: there a row is refused for a null, a check, a unique, a reference to q, a term without a value, and for what is too deep.
func hurt(t *testing.T, event int64) ([]impl.Table, []impl.Trigger) {
	p := impl.Table{Name: "p", Cols: []impl.Col{notNull(intCol("k")), intCol("u"), intCol("m"), intCol("f"), intCol("x"), intCol("z")}, Key: []int64{0}}
	f := impl.Table{
		Name: "f", Cols: []impl.Col{notNull(intCol("k")), intCol("u"), notNull(intCol("m")), intCol("f"), intCol("x")}, Key: []int64{0},
		Uniques: []impl.Unique{{Cols: []int64{1}}}, Checks: []impl.Check{{Expr: read(t, "#2 9 <")}}, Fks: []impl.Fk{{Cols: []int64{3}, Table: "q"}},
	}
	see := func(text string) string {
		if event != impl.EvDelete {
			return text
		}
		for i := range 6 {
			text = strings.ReplaceAll(text, "#"+strconv.Itoa(i+6), "#"+strconv.Itoa(i))
		}
		return text
	}
	l := []impl.Trigger{
		trigger(t, "p", event, "", "r", see("#6")),
		trigger(t, "p", event, "", "f", see("#6"), see("#7"), see("#8"), see("#9"), see("#10 1 +")),
		trigger(t, "p", event, see("#10 7 ="), "d", "0"),
		trigger(t, "d", impl.EvInsert, "", "d", "#1 1 +"),
	}
	return []impl.Table{p, f, plain("q", 1), plain("r", 1), plain("d", 1)}, l
}

// TestPoliciesOfTriggers: what is refused is as if the row had been, in each place, for each kind of statement.
func TestPoliciesOfTriggers(t *testing.T) {
	bad := map[int64]string{impl.EcNull: "7 null 1 0", impl.EcCheck: "7 9 1 0", impl.EcUnique: "50 1 1 0", impl.EcFk: "7 1 8 0", impl.EcEval: "7 1 1 1000000000", impl.EcDepth: "7 1 1 7"}
	for _, event := range events {
		s, l := hurt(t, event)
		for code, badRow := range bad {
			for _, policy := range policies {
				for place := range 3 {
					rows := []string{"1 1 1 1 0", "2 2 1 1 0", "3 3 1 1 0"}
					rows[place] = strconv.Itoa(place+1) + " " + badRow
					wantCode, wantDone, kept := expected(policy, code, place, 3)
					var before, p, f, r []string
					for i, row := range rows {
						id := strconv.Itoa(i + 1)
						before = append(before, id+" "+row+" 0")
						key := " " + id
						switch {
						case event == impl.EvInsert && kept[i]:
							p = append(p, strconv.Itoa(len(p)+1)+" "+row+" 0")
						case event == impl.EvUpdate && kept[i]:
							p = append(p, id+" "+row+" 5")
						case event != impl.EvInsert && !kept[i]:
							p = append(p, before[i])
						}
						if kept[i] {
							f = append(f, strconv.Itoa(len(f)+5)+key+key+" 1 1 1")
							r = append(r, strconv.Itoa(len(r)+1)+key)
						}
					}
					x := inserting(policy, "p", rows[0]+" 0", rows[1]+" 0", rows[2]+" 0")
					db := strings.Join(before, ";")
					switch event {
					case impl.EvInsert:
						db = ""
					case impl.EvUpdate:
						x = updating(t, policy, "p", "", "5=5")
					default:
						x = deleting(t, policy, "p", "")
					}
					const fullRow = "4 99 50 1 1 1"
					want := strings.Join(p, ";") + "/" + strings.Join(append([]string{fullRow}, f...), ";") + "/ 1 1 /" + strings.Join(r, ";") + "/"
					what := "event " + strconv.Itoa(int(event)) + ", code " + strconv.Itoa(int(code)) + ", policy " + strconv.Itoa(int(policy)) + ", place " + strconv.Itoa(place)
					checkFired(t, what, s, l, db+"/"+fullRow+"/ 1 1 //", x, wantCode, wantDone, want)
				}
			}
		}
	}
}

// TestTriggersOfFullTables: EcFull comes with the row that has no room, wherever it is put in.
func TestTriggersOfFullTables(t *testing.T) {
	s := append(tree(0, 0, false), plain("p", 1))
	l := []impl.Trigger{trigger(t, "p", impl.EvInsert, "", "t", "#1 100 +", "null")}
	for _, policy := range policies {
		for room := range 4 {
			code, done := int64(impl.EcOk), int64(3)
			if room < 3 {
				code, done, _ = expected(policy, impl.EcFull, room, 3)
			}
			want, put := line(impl.MaxRows-room), ""
			for i := range int(done) {
				want += ";" + strconv.Itoa(impl.MaxRows-room+i+1) + " " + strconv.Itoa(101+i) + " null"
				put += ";" + strconv.Itoa(i+1) + " " + strconv.Itoa(i+1)
			}
			checkFired(t, "room for "+strconv.Itoa(room), s, l, line(impl.MaxRows-room)+"/", inserting(policy, "p", "1", "2", "3"), code, done, want+"/"+put)
		}
	}
}

// TestTriggersWithReferencesThatWait: a row that a trigger puts in may wait for another one.
func TestTriggersWithReferencesThatWait(t *testing.T) {
	for _, deferred := range []bool{false, true} {
		s := append(tree(0, 0, deferred), plain("p", 1))
		l := []impl.Trigger{trigger(t, "p", impl.EvInsert, "", "t", "#1", "#1 1 +"), trigger(t, "p", impl.EvInsert, "", "t", "#1 1 +", "null")}
		code, done, want := int64(impl.EcFk), int64(0), "/"
		if deferred {
			code, done, want = impl.EcOk, 1, "1 1 2; 2 2 null / 1 1"
		}
		checkFired(t, "one that waits for the next", s, l, "/", inserting(impl.PoFail, "p", "1"), code, done, want)
		checkFired(t, "the other way round", s, []impl.Trigger{l[1], l[0]}, "/", inserting(impl.PoFail, "p", "1"), impl.EcOk, 1, "1 2 null; 2 1 2 / 1 1")
	}
}

// fired has the triggers of the model that a row fires, in order.
func (m *model) fired(l []impl.Trigger, table int, event int64, seen []impl.Val) []impl.Trigger {
	var f []impl.Trigger
	for _, x := range l {
		if x.Table == m.s[table].Name && x.Event == event && (len(x.When) == 0 || impl.Truth(x.When, seen) == impl.TruYes) {
			f = append(f, x)
		}
	}
	return f
}

// fire is what chapter 8 says of a row, told once more.
func (m *model) fire(l []impl.Trigger, table int, event int64, old []impl.Val, now []impl.Val, deep int) int64 {
	none := nulls(len(m.s[table].Cols))
	if old == nil {
		old = none
	}
	if now == nil {
		now = none
	}
	seen := slices.Concat(old, now)
	f := m.fired(l, table, event, seen)
	if len(f) > 0 && deep == impl.MaxFires {
		return impl.EcDepth
	}
	for _, x := range f {
		into := slices.IndexFunc(m.s, func(t impl.Table) bool { return t.Name == x.Into })
		var vals []impl.Val
		for i, term := range x.Terms {
			v, ok := impl.Eval(term.Expr, seen)
			if !ok || v.Kind != impl.VNull && v.Kind != m.s[into].Cols[i].Kind {
				return impl.EcEval
			}
			vals = append(vals, v)
		}
		if _, code := m.insert(into, vals, false); code != impl.EcOk {
			return code
		}
		if code := m.fire(l, into, impl.EvInsert, nil, vals, deep+1); code != impl.EcOk {
			return code
		}
	}
	return impl.EcOk
}

// triggers are right ones, mostly such that their rows find room; some fire themselves, again and again.
func (d *dice) triggers(t *testing.T, s []impl.Table) []impl.Trigger {
	var l []impl.Trigger
	for range d.below(7) {
		from, into := s[d.below(len(s))], s[d.below(len(s))]
		x := impl.Trigger{Table: from.Name, Event: []int64{impl.EvInsert, impl.EvUpdate, impl.EvDelete, impl.EvDelete}[d.below(4)], Into: into.Name}
		if d.below(3) == 0 {
			into = from
			x.Event, x.Into = impl.EvInsert, from.Name
		} else if d.below(2) == 0 {
			whens := []string{"#0 2 <", "#3 #0 = not", "#2 isnull", "null", "#1 'a' and", "#0 isnull not", "#2 30 <"}
			x.When = read(t, whens[d.below(len(whens))])
		}
		for i := range into.Cols {
			x.Terms = append(x.Terms, impl.Term{Expr: d.term(t, from, into, int64(i))})
		}
		l = append(l, x)
	}
	return l
}

// term is mostly one that the column may have.
func (d *dice) term(t *testing.T, from impl.Table, into impl.Table, col int64) []impl.Tok {
	some := []string{"#0", "#1", "#2", "#3", "null", "2", "#0 7 +", "#2 7 +", "#3 11 +", "#2 isnull", "#0 1000000000 +", "'a'"}
	now := strconv.Itoa(len(from.Cols))
	rising := []string{"#" + now + " 10 +", "#" + now + " 17 +", "#0 10 +", "#0 isnull 10 + #" + now + " +"}
	switch {
	case d.below(8) == 0:
		return read(t, some[d.below(len(some))])
	case slices.Contains(into.Key, col) && d.below(4) > 0:
		return read(t, rising[d.below(2)])
	case into.Cols[col].NotNull:
		return read(t, rising[d.below(len(rising))])
	}
	return read(t, "null")
}

// TestTriggersAgainstTheModel does the same with many databases by the program and by the model.
func TestTriggersAgainstTheModel(t *testing.T) {
	d := dice(17)
	met := map[[2]int64]int{}
	for range 6000 {
		s := d.schema()
		db := d.soundDb(s)
		if d.below(6) == 0 {
			db = d.anyDb(s)
		}
		l := d.triggers(t, s)
		for range 8 {
			x := d.stmt(t, s, db)
			m, plain := model{s, cloned(db)}, model{s, cloned(db)}
			code, done := m.execFired(l, x)
			plainCode, _ := plain.exec(x)
			checkFired(t, "a statement", s, l, dbText(db), x, code, done, dbText(m.db))
			if dbText(m.db) != dbText(plain.db) || code != plainCode {
				met[[2]int64{x.Kind, code}]++
			}
			db = m.db
		}
		if t.Failed() {
			return
		}
	}
	for _, kind := range events {
		for _, code := range []int64{impl.EcOk, impl.EcNull, impl.EcUnique, impl.EcFk, impl.EcEval, impl.EcDepth} {
			if n := met[[2]int64{kind, code}]; n < 5 {
				t.Errorf("kind %d ended with %d because of a trigger only %d times", kind, code, n)
			}
		}
	}
}

// TestWithoutTriggersAStatementDoesWhatItDoes: also when there are some, but none that fires.
func TestWithoutTriggersAStatementDoesWhatItDoes(t *testing.T) {
	d := dice(19)
	for range 2000 {
		s := d.schema()
		db := d.soundDb(s)
		x := d.stmt(t, s, db)
		want, code, done := impl.Exec(s, db, x)
		checkFired(t, "no triggers", s, nil, dbText(db), x, code, done, dbText(want))
		var l []impl.Trigger
		for _, y := range d.triggers(t, s) {
			if y.Table == x.Table && y.Event == x.Kind {
				y.When = []impl.Tok{constant([]impl.Val{{}, num(0), text("a")}[d.below(3)])}
			}
			l = append(l, y)
		}
		checkFired(t, "none that fires", s, l, dbText(db), x, code, done, dbText(want))
	}
}
