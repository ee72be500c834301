package tests

import (
	"fmt"
	"slices"
	"strconv"
	"strings"
	"testing"

	"loop.example/g00570/impl"
)

// bank is a table p, and c that refers to it and may wait until the end.
func bank() []impl.Table {
	return []impl.Table{plain("p", 1), {
		Name: "c", Cols: []impl.Col{notNull(intCol("k")), intCol("p")}, Key: []int64{0},
		Fks: []impl.Fk{{Cols: []int64{1}, Table: "p", Deferred: true}},
	}}
}

// Databases for bank: one with a row that waits, and ones that are not right or not sound for now.
const (
	bankDb   = "1 1; 2 2 / 1 1 1"
	waiting  = "1 1; 2 2 / 1 1 1; 2 2 9"
	twice    = "1 1; 2 1 /"
	wrongNow = "1 null /"
	noDb     = "1 1; 1 2 /"
)

func closedBank(db string) impl.Session { return impl.Session{Schema: bank(), Db: dbOf(db)} }

// openBank has saves with a = between the name and the database.
func openBank(db string, start string, saves ...string) impl.Session {
	s := impl.Session{Schema: bank(), Db: dbOf(db), Open: true, Start: dbOf(start)}
	for _, save := range saves {
		name, text, _ := strings.Cut(save, "=")
		s.Saves = append(s.Saves, impl.Save{Name: name, Db: dbOf(text)})
	}
	return s
}

// sessionText tells an empty list and nil alike.
func sessionText(s impl.Session) string { return fmt.Sprintf("%q", fmt.Sprintf("%+v", s)) }

func isNoSession(s impl.Session) bool {
	return len(s.Schema) == 0 && len(s.Db) == 0 && !s.Open && len(s.Start) == 0 && len(s.Saves) == 0
}

// checkSession holds a session that was answered against what it should be.
func checkSession(t *testing.T, what string, got impl.Session, want impl.Session) {
	t.Helper()
	if sessionText(got) != sessionText(want) {
		t.Errorf("%s: the session is\n%s, want\n%s", what, sessionText(got), sessionText(want))
	}
	if !impl.SessionOk(got) {
		t.Errorf("%s: the session is not right", what)
	}
}

// checkStep is checkSession for the calls that answer a flag.
func checkStep(t *testing.T, what string, got impl.Session, ok bool, want impl.Session) {
	t.Helper()
	if !ok {
		t.Errorf("%s: it can not be", what)
		return
	}
	checkSession(t, what, got, want)
}

func checkNoStep(t *testing.T, what string, got impl.Session, ok bool) {
	t.Helper()
	if ok || !isNoSession(got) {
		t.Errorf("%s: %v, %s", what, ok, sessionText(got))
	}
}

func checkRun(t *testing.T, what string, s impl.Session, x impl.Stmt, wantCode int64, wantDone int64, want impl.Session) {
	t.Helper()
	got, code, done := impl.Run(s, x)
	if code != wantCode || done != wantDone {
		t.Errorf("%s: code %d, %d rows, want %d, %d", what, code, done, wantCode, wantDone)
	}
	checkSession(t, what, got, want)
}

// steps are the calls that take a session and a name, or just a session.
var steps = map[string]func(s impl.Session, name string) (impl.Session, bool){
	"begin":    func(s impl.Session, name string) (impl.Session, bool) { return impl.Begin(s) },
	"mark":     impl.Mark,
	"back":     impl.Back,
	"keep":     impl.Keep,
	"rollback": func(s impl.Session, name string) (impl.Session, bool) { return impl.Rollback(s) },
	"commit": func(s impl.Session, name string) (impl.Session, bool) {
		n, code := impl.Commit(s)
		return n, !isForm(code)
	},
	"run": func(s impl.Session, name string) (impl.Session, bool) {
		n, code, done := impl.Run(s, inserting(impl.PoAbort, "p", "77"))
		return n, !isForm(code) || done != 0
	},
}

// rightSessions has right ones of all sorts.
func rightSessions() map[string]impl.Session {
	full := make([]string, impl.MaxSaves)
	for i := range full {
		full[i] = "a=" + waiting
	}
	return map[string]impl.Session{
		"closed, no rows": closedBank("/"), "closed": closedBank(bankDb), "open, no rows": openBank("/", "/"), "open": openBank(bankDb, bankDb), "open, changed": openBank(waiting, bankDb),
		"one save": openBank(bankDb, "/", "a="+waiting), "most saves": openBank(waiting, "/", full...), "names": openBank("/", bankDb, "abcdefgh=/", "z=/"), "one name": openBank("/", "/", "a=/", "b=/", "a="+bankDb),
		"no tables": {}, "no tables, open": {Open: true}, "no tables, a save": {Open: true, Saves: []impl.Save{{Name: "a"}}}, "empty lists": {Schema: bank(), Db: dbOf("/"), Start: []impl.Data{}, Saves: []impl.Save{}},
	}
}

// wrongSessions has such that are not right, each in one way.
func wrongSessions() map[string]impl.Session {
	nine := make([]string, impl.MaxSaves+1)
	for i := range nine {
		nine[i] = "a=/"
	}
	l := map[string]impl.Session{
		"a Start that is not open": {Schema: bank(), Db: dbOf("/"), Start: dbOf("/")}, "Saves that are not open": {Schema: bank(), Db: dbOf("/"), Saves: []impl.Save{{Name: "a", Db: dbOf("/")}}},
		"closed, and waiting": closedBank(waiting), "nine saves": openBank("/", "/", nine...), "a Start that waits": openBank("/", waiting), "no Start": {Schema: bank(), Db: dbOf("/"), Open: true},
		"no Db": {Schema: bank()}, "no Db, open": {Schema: bank(), Open: true, Start: dbOf("/")}, "a Db without a schema": {Db: dbOf("/")}, "a Start without a schema": {Open: true, Start: make([]impl.Data, 1)},
		"a save without a Db": {Schema: bank(), Db: dbOf("/"), Open: true, Start: dbOf("/"), Saves: []impl.Save{{Name: "a"}}},
	}
	for what, db := range map[string]string{"a Key twice": twice, "a null": wrongNow, "an Id twice": noDb, "a Data less": "", "a Data more": "//", "a row that does not fit": "1 'a' /", "a row too short": "/ 1 1"} {
		l["closed, "+what] = closedBank(db)
		l["open, "+what] = openBank(db, "/")
		l["a Start, "+what] = openBank("/", db)
		l["a save, "+what] = openBank("/", "/", "a="+db)
		l["a first save, "+what] = openBank("/", "/", "a="+db, "a=/")
		l["a last save, "+what] = openBank("/", "/", "a=/", "a=/", "a="+db)
	}
	for _, name := range []string{"", "A", "abcdefghi", "a b", "a1", "\u00e9", "a\x00", "'"} {
		l["a save of the name "+name] = openBank("/", "/", name+"=/")
		l["a last save of the name "+name] = openBank("/", "/", "a=/", name+"=/")
	}
	for i, change := range []func(s []impl.Table){
		func(s []impl.Table) { s[0].Name = "" },
		func(s []impl.Table) { s[1].Fks[0].Table = "x" },
		func(s []impl.Table) { s[1].Name = "p" },
		func(s []impl.Table) { s[0].Key = nil },
	} {
		a, b := closedBank("/"), openBank("/", "/", "a=/")
		change(a.Schema)
		change(b.Schema)
		l["closed, schema "+strconv.Itoa(i)], l["open, schema "+strconv.Itoa(i)] = a, b
	}
	return l
}

func TestSessionOk(t *testing.T) {
	for what, s := range rightSessions() {
		if !impl.SessionOk(s) {
			t.Errorf("%s: the session is not right", what)
		}
	}
	for what, s := range wrongSessions() {
		if impl.SessionOk(s) {
			t.Errorf("%s: the session is right", what)
		}
	}
	// A reference that may not wait does not, not even in a session.
	for _, deferred := range []bool{false, true} {
		s := openBank(waiting, bankDb, "a="+waiting)
		s.Schema[1].Fks[0].Deferred = deferred
		if impl.SessionOk(s) != deferred {
			t.Error("references that wait:", !deferred)
		}
		s.Db = dbOf(bankDb)
		if impl.SessionOk(s) != deferred {
			t.Error("references that wait in a save:", !deferred)
		}
	}
}

// TestStepsOfSessionsThatAreNotRight: nothing can be done with them.
func TestStepsOfSessionsThatAreNotRight(t *testing.T) {
	for what, s := range wrongSessions() {
		for step, do := range steps {
			got, ok := do(s, "a")
			checkNoStep(t, what+", "+step, got, ok)
		}
	}
}

// TestStepsOfOpenAndClosedSessions: begin wants one that is not open, run either, the others one that is.
func TestStepsOfOpenAndClosedSessions(t *testing.T) {
	for step, do := range steps {
		for what, s := range map[string]impl.Session{"closed": closedBank(bankDb), "no tables": {}} {
			got, ok := do(s, "a")
			if step == "begin" || step == "run" && what == "closed" {
				if !ok || !impl.SessionOk(got) {
					t.Errorf("%s, %s: it can not be", what, step)
				}
				continue
			}
			checkNoStep(t, what+", "+step, got, ok)
		}
		for what, s := range map[string]impl.Session{"open": openBank(waiting, bankDb, "a="+bankDb), "no tables, open": {Open: true, Saves: []impl.Save{{Name: "a"}}}} {
			got, ok := do(s, "a")
			if step == "begin" || step == "run" && what != "open" {
				checkNoStep(t, what+", "+step, got, ok)
			} else if !ok || !impl.SessionOk(got) {
				t.Errorf("%s, %s: it can not be", what, step)
			}
		}
	}
}

func TestSessionNew(t *testing.T) {
	s, ok := impl.SessionNew(bank())
	checkStep(t, "two tables", s, ok, closedBank("/"))
	s, ok = impl.SessionNew(town())
	checkStep(t, "three tables", s, ok, impl.Session{Schema: town(), Db: dbOf("//")})
	s, ok = impl.SessionNew(nil)
	checkStep(t, "no tables", s, ok, impl.Session{})
	wrong := town()
	wrong[2].Fks[0].Table = "x"
	s, ok = impl.SessionNew(wrong)
	checkNoStep(t, "a schema that is not right", s, ok)
	s, ok = impl.SessionNew(slices.Repeat([]impl.Table{plain("t", 1)}, 2))
	checkNoStep(t, "two tables of one name", s, ok)
}

func TestBegin(t *testing.T) {
	for _, db := range []string{"/", bankDb, "7 7 / 3 1 7; 8 2 null"} {
		s, ok := impl.Begin(closedBank(db))
		checkStep(t, "begin", s, ok, openBank(db, db))
		s, ok = impl.Begin(s)
		checkNoStep(t, "begin twice", s, ok)
	}
}

// TestRunInAClosedSession: what waits at the end can not be.
func TestRunInAClosedSession(t *testing.T) {
	s := closedBank(bankDb)
	for _, policy := range policies {
		checkRun(t, "an insert", s, inserting(policy, "c", "2 1", "3 null"), impl.EcOk, 2, closedBank("1 1; 2 2 / 1 1 1; 2 2 1; 3 3 null"))
		checkRun(t, "no rows", s, inserting(policy, "c"), impl.EcOk, 0, s)
		checkRun(t, "an update", s, updating(t, policy, "c", "", "1=2"), impl.EcOk, 1, closedBank("1 1; 2 2 / 1 1 2"))
		checkRun(t, "a delete", s, deleting(t, policy, "p", "#0 2 ="), impl.EcOk, 1, closedBank("1 1 / 1 1 1"))
		checkRun(t, "one that waits", s, inserting(policy, "c", "2 9"), impl.EcFk, 0, s)
		checkRun(t, "one that waits in the middle", s, inserting(policy, "c", "2 1", "3 9", "4 1"), impl.EcFk, 0, s)
		checkRun(t, "one that is made to wait", s, deleting(t, policy, "p", "#0 1 ="), impl.EcFk, 0, s)
		checkRun(t, "one that is changed to wait", s, updating(t, policy, "c", "", "1=9"), impl.EcFk, 0, s)
		checkRun(t, "one that waits for a row ahead", s, updating(t, policy, "p", "#0 1 =", "0=8"), impl.EcFk, 0, s)
		checkRun(t, "no truth", s, deleting(t, policy, "p", "'a'"), impl.EcEval, 0, s)
		checkRun(t, "no value", s, updating(t, policy, "p", "", "0='a'"), impl.EcEval, 0, s)
		code, done, kept := expected(policy, impl.EcNull, 1, 3)
		want, id := "1 1; 2 2", 2
		for i := range kept {
			if kept[i] {
				id++
				want += ";" + strconv.Itoa(id) + " " + strconv.Itoa(i+5)
			}
		}
		checkRun(t, "one is refused", s, inserting(policy, "p", "5", "null", "7"), code, done, closedBank(want+"/ 1 1 1"))
	}
	// What was done ahead of a refusal stays, unless it is what waits.
	checkRun(t, "refused behind one", s, inserting(impl.PoFail, "c", "2 1", "1 1"), impl.EcUnique, 1, closedBank("1 1; 2 2 / 1 1 1; 2 2 1"))
	checkRun(t, "refused behind one that waits", s, inserting(impl.PoFail, "c", "2 9", "1 1"), impl.EcFk, 0, s)
	checkRun(t, "passed over, and one that waits", s, inserting(impl.PoIgnore, "c", "1 1", "2 9"), impl.EcFk, 0, s)
	checkRun(t, "passed over", s, inserting(impl.PoIgnore, "c", "1 9", "2 1"), impl.EcOk, 1, closedBank("1 1; 2 2 / 1 1 1; 2 2 1"))
	checkRun(t, "refused, the other row waits", s, inserting(impl.PoAbort, "c", "2 9", "1 1"), impl.EcUnique, 0, s)
}

// TestRunInAnOpenSession: what waits may wait; Start and Saves stay.
func TestRunInAnOpenSession(t *testing.T) {
	with := func(db string) impl.Session { return openBank(db, "1 1 /", "a="+waiting, "b=/") }
	s := with(bankDb)
	for _, policy := range policies {
		checkRun(t, "an insert", s, inserting(policy, "c", "2 1", "3 null"), impl.EcOk, 2, with("1 1; 2 2 / 1 1 1; 2 2 1; 3 3 null"))
		checkRun(t, "one that waits", s, inserting(policy, "c", "2 9"), impl.EcOk, 1, with(waiting))
		checkRun(t, "one that is made to wait", s, deleting(t, policy, "p", "#0 1 ="), impl.EcOk, 1, with("2 2 / 1 1 1"))
		checkRun(t, "what is waited for", with(waiting), inserting(policy, "p", "9"), impl.EcOk, 1, with("1 1; 2 2; 3 9 / 1 1 1; 2 2 9"))
		checkRun(t, "no rows", s, deleting(t, policy, "p", "0"), impl.EcOk, 0, s)
	}
	checkRun(t, "refused behind one that waits", s, inserting(impl.PoFail, "c", "2 9", "1 1"), impl.EcUnique, 1, with(waiting))
	checkRun(t, "passed over, and one that waits", s, inserting(impl.PoIgnore, "c", "1 1", "2 9"), impl.EcOk, 1, with(waiting))
	checkRun(t, "replaced", s, inserting(impl.PoReplace, "c", "1 9"), impl.EcOk, 1, with("1 1; 2 2 / 2 1 9"))
}

// TestRunThatRollsBack: just where it is refused, with PoRollback, in an open session.
func TestRunThatRollsBack(t *testing.T) {
	s := bank()
	s[0].Fks = []impl.Fk{{Cols: []int64{0}, Table: "q"}}
	s[0].Checks = []impl.Check{{Expr: read(t, "#0 5 = not")}}
	s = append(s, plain("q", 1))
	const db, start = "1 1; 2 2 / 2 2 9 / 1 1; 2 2; 3 3; 4 5; 5 6", "2 2 / 1 1 2 / 2 2"
	refused := map[int64]impl.Stmt{impl.EcNull: inserting(0, "p", "3", "null"), impl.EcCheck: inserting(0, "p", "3", "5"), impl.EcUnique: updating(t, 0, "p", "", "0=2"), impl.EcFk: inserting(0, "p", "3", "7"), impl.EcEval: deleting(t, 0, "p", "'a'")}
	open := impl.Session{Schema: s, Db: dbOf(db), Open: true, Start: dbOf(start), Saves: []impl.Save{{Name: "a", Db: dbOf("//")}, {Name: "b", Db: dbOf(db)}}}
	back := impl.Session{Schema: s, Db: dbOf(start)}
	closed := impl.Session{Schema: s, Db: dbOf("1 1; 2 2 / 2 2 2 / 1 1; 2 2; 3 3; 4 5; 5 6")}
	if !impl.SessionOk(open) || !impl.SessionOk(closed) {
		t.Fatal("the sessions are not right")
	}
	for code, x := range refused {
		for _, policy := range policies {
			x.Policy = policy
			if code == impl.EcUnique && policy == impl.PoReplace || policy == impl.PoFail || policy == impl.PoIgnore {
				continue
			}
			want := open
			if policy == impl.PoRollback {
				want = back
			}
			what := "code " + strconv.Itoa(int(code)) + ", policy " + strconv.Itoa(int(policy))
			checkRun(t, what, open, x, code, 0, want)
			checkRun(t, what+", closed", closed, x, code, 0, closed)
		}
	}
	// What is not refused does not.
	done := open
	done.Db = dbOf("1 1; 2 2; 3 3 / 2 2 9 / 1 1; 2 2; 3 3; 4 5; 5 6")
	checkRun(t, "not refused", open, inserting(impl.PoRollback, "p", "3"), impl.EcOk, 1, done)
	checkRun(t, "no rows", open, deleting(t, impl.PoRollback, "p", "0"), impl.EcOk, 0, open)
	// A full table and what is too deep are refused, too.
	full := impl.Session{Schema: tree(impl.FkCascade, 0, false), Db: dbOf(line(impl.MaxRows)), Open: true, Start: dbOf("9 9 9")}
	was := impl.Session{Schema: full.Schema, Db: full.Start}
	checkRun(t, "full", full, inserting(impl.PoRollback, "t", "99 null"), impl.EcFull, 0, was)
	checkRun(t, "deep", full, deleting(t, impl.PoRollback, "t", "#0 1 ="), impl.EcDepth, 0, was)
}

// TestRunOfStatementsThatAreNotRight: no session, and no rolling back either.
func TestRunOfStatementsThatAreNotRight(t *testing.T) {
	for _, s := range []impl.Session{closedBank(bankDb), openBank(bankDb, "/")} {
		for i, x := range []impl.Stmt{
			{}, {Kind: impl.StDelete}, {Kind: 4, Table: "p"}, inserting(0, "x", "1"), inserting(impl.PoRollback, "p", "1 1"), inserting(5, "p", "1"), {Kind: impl.StDelete, Table: "p", Where: []impl.Tok{col(1)}, Policy: impl.PoRollback},
			{Kind: impl.StUpdate, Table: "c", Sets: []impl.Set{{Col: 2, Expr: []impl.Tok{col(0)}}}},
		} {
			if got, code, done := impl.Run(s, x); !isForm(code) || done != 0 || !isNoSession(got) {
				t.Errorf("statement %d: %d, %d, %s", i, code, done, sessionText(got))
			}
		}
	}
}

func TestMark(t *testing.T) {
	s, ok := impl.Mark(openBank(waiting, "/"), "a")
	checkStep(t, "the first", s, ok, openBank(waiting, "/", "a="+waiting))
	s, ok = impl.Mark(openBank("/", bankDb, "a="+waiting, "b=/"), "c")
	checkStep(t, "the third", s, ok, openBank("/", bankDb, "a="+waiting, "b=/", "c=/"))
	s, ok = impl.Mark(openBank(bankDb, "/", "a="+waiting), "a")
	checkStep(t, "one of the same name", s, ok, openBank(bankDb, "/", "a="+waiting, "a="+bankDb))
	for _, name := range []string{"a", "z", "abcdefgh"} {
		s, ok = impl.Mark(openBank("/", "/"), name)
		checkStep(t, "a name", s, ok, openBank("/", "/", name+"=/"))
	}
	for _, name := range []string{"", "A", "abcdefghi", "a b", " a", "a1", "1", "a\n", "\u00e9", "\x00"} {
		s, ok = impl.Mark(openBank("/", "/"), name)
		checkNoStep(t, "no name: "+name, s, ok)
	}
	// As many as there may be, and one more.
	s = openBank("/", "/")
	for n := range impl.MaxSaves {
		want := openBank("/", "/", slices.Repeat([]string{"a=/"}, n+1)...)
		s, ok = impl.Mark(s, "a")
		checkStep(t, strconv.Itoa(n+1)+" marks", s, ok, want)
	}
	for _, name := range []string{"a", "b", ""} {
		got, ok := impl.Mark(s, name)
		checkNoStep(t, "one more", got, ok)
	}
	// One that was let go makes room.
	s, _ = impl.Keep(s, "a")
	s, ok = impl.Mark(s, "b")
	checkStep(t, "one that was let go", s, ok, openBank("/", "/", "a=/", "a=/", "a=/", "a=/", "a=/", "a=/", "a=/", "b=/"))
}

func TestBackAndKeep(t *testing.T) {
	const one, two, three = "1 1 /", "1 1; 2 2 /", "1 1; 2 2; 3 3 / 1 1 9"
	saves := []string{"a=" + one, "b=" + two, "a=" + three, "c=" + waiting, "d=/"}
	now := func(db string, n int) impl.Session { return openBank(db, bankDb, saves[:n]...) }
	s := now("9 9 / 9 9 9", 5)
	for name, c := range map[string]struct {
		db   string
		left int
	}{"a": {three, 3}, "b": {two, 2}, "c": {waiting, 4}, "d": {"/", 5}} {
		back, ok := impl.Back(s, name)
		checkStep(t, "back "+name, back, ok, now(c.db, c.left))
		again, ok := impl.Back(back, name)
		checkStep(t, "back again "+name, again, ok, back)
		kept, ok := impl.Keep(s, name)
		checkStep(t, "keep "+name, kept, ok, now("9 9 / 9 9 9", c.left-1))
		kept, ok = impl.Keep(back, name)
		checkStep(t, "back and keep "+name, kept, ok, now(c.db, c.left-1))
	}
	// The last one of a name counts, then the one ahead of it.
	kept, _ := impl.Keep(s, "a")
	back, ok := impl.Back(kept, "a")
	checkStep(t, "the first one of two", back, ok, now(one, 1))
	kept, ok = impl.Keep(kept, "a")
	checkStep(t, "both let go", kept, ok, now("9 9 / 9 9 9", 0))
	none, ok := impl.Keep(kept, "a")
	checkNoStep(t, "let go three times", none, ok)
	// What stood behind is gone.
	back, _ = impl.Back(s, "b")
	for _, name := range []string{"c", "d", "", "A", "x", "aa", "a "} {
		for step, do := range map[string]func(impl.Session, string) (impl.Session, bool){"back": impl.Back, "keep": impl.Keep} {
			got, ok := do(back, name)
			checkNoStep(t, step+" "+name, got, ok)
			got, ok = do(openBank("/", "/"), name)
			checkNoStep(t, step+" without marks "+name, got, ok)
		}
	}
	full, ok := impl.Back(openBank("/", "/", "a="+one, "a=/", "a=/", "a=/", "a=/", "a=/", "a=/", "b="+two), "b")
	checkStep(t, "the last of most", full, ok, openBank(two, "/", "a="+one, "a=/", "a=/", "a=/", "a=/", "a=/", "a=/", "b="+two))
	full, ok = impl.Keep(openBank(two, "/", "b="+one, "a=/", "a=/", "a=/", "a=/", "a=/", "a=/", "a=/"), "b")
	checkStep(t, "the first of most", full, ok, openBank(two, "/"))
}

func TestCommitAndRollback(t *testing.T) {
	for what, s := range map[string]impl.Session{"no saves": openBank("7 7 / 1 1 7", bankDb), "saves": openBank("7 7 / 1 1 7", bankDb, "a="+waiting, "b=/"), "as it was": openBank(bankDb, bankDb), "no rows": openBank("/", bankDb)} {
		got, code := impl.Commit(s)
		if code != impl.EcOk {
			t.Errorf("%s: commit is %d", what, code)
		}
		checkSession(t, what+", commit", got, impl.Session{Schema: bank(), Db: s.Db})
		got, ok := impl.Rollback(s)
		checkStep(t, what+", rollback", got, ok, closedBank(bankDb))
	}
	for what, s := range map[string]impl.Session{"no saves": openBank(waiting, bankDb), "saves": openBank(waiting, bankDb, "a=/", "b="+waiting)} {
		got, code := impl.Commit(s)
		if code != impl.EcFk {
			t.Errorf("%s, waiting: commit is %d", what, code)
		}
		checkSession(t, what+", waiting, commit", got, s)
		got, ok := impl.Rollback(s)
		checkStep(t, what+", waiting, rollback", got, ok, closedBank(bankDb))
	}
	// It was waiting at the mark, but is not any more.
	s := openBank(bankDb, "/", "a="+waiting)
	got, code := impl.Commit(s)
	if code != impl.EcOk {
		t.Error("a mark that waits:", code)
	}
	checkSession(t, "a mark that waits", got, closedBank(bankDb))
	for what, s := range map[string]impl.Session{"closed": closedBank(bankDb), "a zero one": {}} {
		if got, code := impl.Commit(s); !isForm(code) || !isNoSession(got) {
			t.Errorf("%s: %d, %s", what, code, sessionText(got))
		}
	}
}

// someStep takes a session that is right one step further, whichever can be done.
func (d *dice) someStep(t *testing.T, s impl.Session) (string, impl.Session) {
	name := []string{"a", "b", "c"}[d.below(3)]
	step := []string{"begin", "mark", "mark", "back", "back", "keep", "commit", "rollback", "run", "run", "run", "run", "run"}[d.below(13)]
	if step != "run" {
		got, ok := steps[step](s, name)
		if !ok {
			got = s
		}
		return step + " " + name, got
	}
	got, code, _ := impl.Run(s, d.stmt(t, s.Schema, s.Db))
	if isForm(code) {
		t.Error("a right statement is told EcForm")
		got = s
	}
	return step, got
}

// A record is chapter 9 told once more: what each session was when it was marked is remembered as a text.
type record struct {
	db    string
	start string
	open  bool
	names []string
	dbs   []string
}

func (r *record) is(s impl.Session) bool {
	if r.db != dbText(s.Db) || r.open != s.Open || len(r.names) != len(s.Saves) || r.open && r.start != dbText(s.Start) || !r.open && len(s.Start) > 0 {
		return false
	}
	for i, save := range s.Saves {
		if save.Name != r.names[i] || dbText(save.Db) != r.dbs[i] {
			return false
		}
	}
	return true
}

func (r *record) close(db string) { *r = record{db: db} }

// last is the place of the last mark of that name, or -1.
func (r *record) last(name string) int {
	for i := len(r.names) - 1; i >= 0; i-- {
		if r.names[i] == name {
			return i
		}
	}
	return -1
}

// do takes the step on the text.
func (r *record) do(step string, schema []impl.Table) {
	step, name, _ := strings.Cut(step, " ")
	place := r.last(name)
	switch {
	case step == "begin" && !r.open:
		r.open, r.start = true, r.db
	case !r.open:
	case step == "mark" && len(r.names) < impl.MaxSaves:
		r.names, r.dbs = append(r.names, name), append(r.dbs, r.db)
	case step == "back" && place >= 0:
		r.db, r.names, r.dbs = r.dbs[place], r.names[:place+1], r.dbs[:place+1]
	case step == "keep" && place >= 0:
		r.names, r.dbs = r.names[:place], r.dbs[:place]
	case step == "commit" && impl.Sound(schema, dbOf(r.db)):
		r.close(r.db)
	case step == "rollback":
		r.close(r.start)
	}
}

// TestSessionsAgainstTheRecord goes on with each session for many steps: what is run since a mark is undone by going back, what was begun and rolled back is as it was, what is committed is sound.
func TestSessionsAgainstTheRecord(t *testing.T) {
	d := dice(23)
	met := map[string]int{}
	for range 300 {
		schema := d.schema()
		s, ok := impl.SessionNew(schema)
		r := record{db: dbText(s.Db)}
		if !ok || !r.is(s) {
			t.Fatal("a new session")
		}
		for range 80 {
			step, got := d.someStep(t, s)
			if step != "run" {
				r.do(step, schema)
			} else if s.Open && !got.Open {
				r.close(r.start)
				met["rolled back"]++
			} else {
				r.db = dbText(got.Db)
			}
			if !r.is(got) || !impl.SessionOk(got) {
				t.Fatalf("%s: %s\nbecomes %s", step, sessionText(s), sessionText(got))
			}
			if !got.Open && !impl.Sound(schema, got.Db) {
				t.Fatalf("%s: not open, and not sound: %s", step, sessionText(got))
			}
			if sessionText(s) != sessionText(got) {
				met[strings.Fields(step)[0]]++
			}
			s = got
		}
	}
	for _, step := range []string{"begin", "mark", "back", "keep", "commit", "rollback", "run", "rolled back"} {
		if met[step] < 50 {
			t.Errorf("%s was done only %d times", step, met[step])
		}
	}
}

// TestRunDoesAsExec: in an open session as the statement does, in one that is not, too, unless what comes of it waits.
func TestRunDoesAsExec(t *testing.T) {
	d := dice(29)
	met := map[string]int{}
	for range 3000 {
		schema := d.schema()
		db := d.soundDb(schema)
		x := d.stmt(t, schema, db)
		want, wantCode, wantDone := impl.Exec(schema, db, x)
		got, code, done := impl.Run(impl.Session{Schema: schema, Db: db, Open: true, Start: make([]impl.Data, 3)}, x)
		back := wantCode != impl.EcOk && x.Policy == impl.PoRollback
		if code != wantCode || done != wantDone || got.Open == back || !back && dbText(got.Db) != dbText(want) || back && dbText(got.Db) != "//" {
			t.Errorf("open: %d, %d, %s, want %d, %d, %q", code, done, sessionText(got), wantCode, wantDone, dbText(want))
		}
		if !impl.Sound(schema, db) {
			continue
		}
		if !impl.Sound(schema, want) {
			met["waits"]++
			want, wantCode, wantDone = db, impl.EcFk, 0
		}
		got, code, done = impl.Run(impl.Session{Schema: schema, Db: db}, x)
		if code != wantCode || done != wantDone || got.Open || dbText(got.Db) != dbText(want) {
			t.Errorf("closed: %d, %d, %s, want %d, %d, %q", code, done, sessionText(got), wantCode, wantDone, dbText(want))
		}
		met["closed"]++
	}
	if met["waits"] < 10 || met["closed"] < 20 {
		t.Error("too few statements:", met)
	}
}
