package tests

import (
	"cmp"
	"reflect"
	"slices"
	"strings"
	"testing"

	"loop.example/g00570/impl"
)

// roomy is a copy of x in which each list has spare room behind it, filled with what no right list has.
func roomy[T any](x T) T {
	return copied(reflect.ValueOf(x), 3).Interface().(T)
}

// whole is a copy of x that shows the spare room behind each list, too.
func whole[T any](x T) T {
	return shown(reflect.ValueOf(x)).Interface().(T)
}

func copied(v reflect.Value, room int) reflect.Value {
	out := reflect.New(v.Type()).Elem()
	switch v.Kind() {
	case reflect.Slice:
		list := reflect.MakeSlice(v.Type(), v.Len()+room, v.Len()+room)
		for i := range v.Len() {
			list.Index(i).Set(copied(v.Index(i), room))
		}
		for i := v.Len(); i < list.Len(); i++ {
			spoil(list.Index(i))
		}
		out.Set(list.Slice(0, v.Len()))
	case reflect.Struct:
		for i := range v.NumField() {
			out.Field(i).Set(copied(v.Field(i), room))
		}
	default:
		out.Set(v)
	}
	return out
}

func shown(v reflect.Value) reflect.Value {
	if v.Kind() == reflect.Slice {
		v = v.Slice(0, v.Cap())
	}
	out := copied(v, 0)
	switch v.Kind() {
	case reflect.Slice:
		for i := range v.Len() {
			out.Index(i).Set(shown(v.Index(i)))
		}
	case reflect.Struct:
		for i := range v.NumField() {
			out.Field(i).Set(shown(v.Field(i)))
		}
	}
	return out
}

// spoil writes over all that v shows. An empty list gets something to show: an element that has but lists would stay as it was.
func spoil(v reflect.Value) {
	switch v.Kind() {
	case reflect.Slice:
		if v.Len() == 0 && v.CanSet() {
			v.Set(reflect.MakeSlice(v.Type(), 1, 1))
		}
		for i := range v.Len() {
			spoil(v.Index(i))
		}
	case reflect.Struct:
		for i := range v.NumField() {
			spoil(v.Field(i))
		}
	case reflect.Int64:
		v.SetInt(-77)
	case reflect.String:
		v.SetString("Spare")
	case reflect.Bool:
		v.SetBool(!v.Bool())
	}
}

// stage2 has what the calls of chapters 3, 4 and 5 are made with.
type stage2 struct {
	S    []impl.Table
	Db   []impl.Data
	Cols []int64
	Key  []impl.Val
	Vals []impl.Val
}

// answers2 asks all of chapters 3, 4 and 5.
func answers2(a stage2) []any {
	db, made := impl.DbNew(a.S)
	key, known := impl.KeyOf(a.Cols, a.Vals)
	flaws, right := impl.Flaws(a.S, a.Db)
	return []any{
		impl.TableOk(a.S[1]), impl.SchemaOk(a.S), impl.TableAt(a.S, "visit"), impl.ColAt(a.S[1], "boss"), impl.Refers(a.S, "person"),
		impl.RowOk(a.S[1], a.Vals), impl.DbOk(a.S, a.Db), db, made, key, known, impl.FindRows(a.S, a.Db, 1, a.Cols, a.Key),
		flaws, right, impl.Sound(a.S, a.Db), impl.SoundNow(a.S, a.Db),
	}
}

// cases2 has a right case, one with flaws, and some that are not right.
func cases2() []stage2 {
	right := stage2{town(), townDb(), []int64{2}, []impl.Val{num(10)}, townDb()[1].Rows[1].Vals}
	flaws := roomy(right)
	flaws.Db[1].Rows[0].Vals[2], flaws.Db[1].Rows[1].Vals[0], flaws.Db[0].Rows = num(55), impl.Val{}, nil
	table, rows, cols, key, vals := roomy(right), roomy(right), roomy(right), roomy(right), roomy(right)
	table.S[2].Fks[1].Cols[0] = 9
	rows.Db[2].Rows[1].Id = -5
	cols.Cols = []int64{0, 2, 0, 99}
	key.Key = []impl.Val{{}, {Kind: 7}}
	vals.Vals = slices.Repeat([]impl.Val{{}}, widest+1)
	return []stage2{right, flaws, table, rows, cols, key, vals}
}

// stage3 has what the calls of chapters 6 and 7 are made with.
type stage3 struct {
	S     []impl.Table
	Db    []impl.Data
	Table int64
	Id    int64
	Vals  []impl.Val
	Stmt  impl.Stmt
}

// answers3 asks all of chapters 6 and 7.
func answers3(a stage3) []any {
	var l []any
	for _, replace := range []bool{false, true} {
		put, id, putCode := impl.InsertRow(a.S, a.Db, a.Table, a.Vals, replace)
		changed, code := impl.UpdateRow(a.S, a.Db, a.Table, a.Id, a.Vals, replace)
		l = append(l, put, id, putCode, changed, code)
	}
	taken, code := impl.DeleteRow(a.S, a.Db, a.Table, a.Id)
	ids, ok := impl.Matching(a.S, a.Db, a.Table, a.Stmt.Where)
	db, execCode, done := impl.Exec(a.S, a.Db, a.Stmt)
	return append(l, taken, code, ids, ok, impl.StmtOk(a.S, a.Stmt), db, execCode, done)
}

// cases3 has changes that are done, some that are refused at first or when something was done already, and some that are not right.
func cases3(t *testing.T) []stage3 {
	all := func(action int64) []impl.Table {
		s := shop(action, action, false)
		s[0].Cols[2].Default = text("z")
		return s
	}
	var l []stage3
	for _, action := range []int64{impl.FkRestrict, impl.FkCascade, impl.FkNull} {
		for _, vals := range []string{"3 30 null", "1 30 'a'", "2 10 'b'", "3 null 'c'", "9 30 'c'", "3 30"} {
			for _, policy := range policies {
				l = append(l,
					stage3{all(action), dbOf(shopDb), 0, 2, valsOf(vals), inserting(policy, "p", "7 70 'x'", "8 null null", "1 20 'y'")},
					stage3{all(action), dbOf(shopDb), 0, 4, valsOf(vals), updating(t, policy, "p", "#0 9 <", "0=#0 1 +", "2='q'")},
					stage3{all(action), dbOf(shopDb), 0, 2, valsOf(vals), deleting(t, policy, "p", "#0 1 = #2 isnull or")})
			}
		}
	}
	shared := l[0]
	shared.Stmt.Rows = []impl.Row{{Vals: shared.Vals}, {Vals: shared.Vals}}
	table, wrong, row, none := roomy(l[0]), roomy(l[1]), roomy(l[2]), roomy(l[2])
	table.Table = 2
	wrong.S[1].Fks[0].Cols[0] = 9
	row.Db[1].Rows[2].Id = -5
	none.Id, none.Stmt.Where = 3, []impl.Tok{constant(text("a"))}
	return append(l, shared, table, wrong, row, none)
}

// stage4 has what the calls of chapters 8 and 9 are made with.
type stage4 struct {
	Triggers []impl.Trigger
	Table    int64
	Event    int64
	Old      []impl.Val
	Now      []impl.Val
	Session  impl.Session
	Stmt     impl.Stmt
	Name     string
}

// answers4 asks all of chapters 8 and 9.
func answers4(a stage4) []any {
	s := a.Session
	db, code, done := impl.ExecFired(s.Schema, a.Triggers, s.Db, a.Stmt)
	fresh, made := impl.SessionNew(s.Schema)
	begun, begins := impl.Begin(s)
	run, runCode, runDone := impl.Run(s, a.Stmt)
	marked, marks := impl.Mark(s, a.Name)
	back, goes := impl.Back(s, a.Name)
	kept, keeps := impl.Keep(s, a.Name)
	committed, commits := impl.Commit(s)
	rolled, rolls := impl.Rollback(s)
	return []any{
		impl.TriggersOk(s.Schema, a.Triggers), impl.Fires(s.Schema, a.Triggers, a.Table, a.Event, a.Old, a.Now), db, code, done,
		impl.SessionOk(s), fresh, made, begun, begins, run, runCode, runDone, marked, marks, back, goes, kept, keeps, committed, commits, rolled, rolls,
	}
}

// cases4 has sessions that are open and such that are not, statements that are done, refused and rolled back, and some that are not right.
func cases4(t *testing.T) []stage4 {
	schema := shop(impl.FkCascade, impl.FkCascade, true)
	schema[0].Cols[2].Default = text("z")
	schema[1].Uniques = []impl.Unique{{Cols: []int64{0, 1}}}
	const waits = "2 1 10 'a' / 1 5 1; 2 6 9"
	closed := impl.Session{Schema: schema, Db: dbOf(shopDb)}
	saves := []impl.Save{{Name: "a", Db: dbOf(waits)}, {Name: "b", Db: dbOf(shopDb)}, {Name: "a", Db: dbOf("/")}, {Name: "c", Db: dbOf(shopDb)}}
	open := impl.Session{Schema: schema, Db: dbOf(waits), Open: true, Start: dbOf(shopDb), Saves: saves}
	ready := impl.Session{Schema: schema, Db: dbOf(shopDb), Open: true, Start: dbOf(shopDb), Saves: saves[:1]}
	triggers := []impl.Trigger{
		trigger(t, "p", impl.EvInsert, "#3 8 <", "c", "#3 50 +", "#3"), trigger(t, "p", impl.EvInsert, "#3 5 <", "p", "#3 1 +", "#4 1 +", "#5"),
		trigger(t, "p", impl.EvUpdate, "", "c", "#0 60 +", "null"), trigger(t, "c", impl.EvDelete, "#1 1 = not", "c", "#0", "#1"), trigger(t, "p", impl.EvDelete, "", "c", "#0 70 +", "#1"),
	}
	var l []stage4
	for _, s := range []impl.Session{closed, open, ready} {
		for _, policy := range policies {
			for _, x := range []impl.Stmt{
				inserting(policy, "p", "7 70 'x'", "8 null null", "3 20 'y'"), inserting(policy, "p", "3 30 'x'", "7 10 null"), updating(t, policy, "p", "#0 9 <", "0=#0 1 +", "2='q'"),
				deleting(t, policy, "p", "#0 1 = #2 isnull or"), deleting(t, policy, "c", ""), inserting(policy, "c", "8 8", "5 1", "9 null"),
			} {
				l = append(l, stage4{triggers, 0, x.Kind, valsOf("1 10 'a'"), valsOf("2 10 'b'"), s, x, []string{"a", "b", "c", "d", "A"}[len(l)%5]})
			}
		}
	}
	// What the caller shares between lists is not shared by the answers.
	shared := l[0]
	shared.Session = ready
	shared.Session.Start, shared.Session.Saves = shared.Session.Db, []impl.Save{{Name: "a", Db: shared.Session.Db}, {Name: "b", Db: shared.Session.Db}}
	shared.Now = shared.Old
	shared.Stmt.Rows = []impl.Row{shared.Stmt.Rows[0], shared.Stmt.Rows[0]}
	table, form, start, save, schemas, row := roomy(l[0]), roomy(l[1]), roomy(l[30]), roomy(l[31]), roomy(l[32]), roomy(l[33])
	table.Triggers[1].Into = "x"
	form.Stmt.Kind = 9
	start.Session.Start[1].Rows[0].Id = -5
	save.Session.Saves[1].Name = ""
	schemas.Session.Schema[1].Fks[0].Cols[0] = 9
	row.Old = append(row.Old, num(1))
	return append(l, shared, table, form, start, save, schemas, row)
}

// stage5 has what the calls of chapters 10 and 11 are made with.
type stage5 struct {
	S       []impl.Table
	Db      []impl.Data
	Select  impl.Select
	A       int64
	B       int64
	On      []impl.Tok
	Col     int64
	Lines   []impl.Line
	Cols    []int64
	Entries []impl.Entry
	Low     impl.Val
	High    impl.Val
	Entry   impl.Entry
}

// answers5 asks all of chapters 10 and 11.
func answers5(a stage5) []any {
	lines, selects := impl.RunSelect(a.S, a.Db, a.Select)
	pairs, joins := impl.JoinOn(a.S, a.Db, a.A, a.B, a.On)
	index, indexed := impl.IndexOf(a.S, a.Db, a.A, a.Cols)
	with, put := impl.IndexPut(a.Entries, a.Entry)
	without, dropped := impl.IndexDrop(a.Entries, a.Entry)
	l := []any{
		impl.SelectOk(a.S, a.Select), lines, selects, pairs, joins, impl.LinesText(a.Lines), index, indexed, impl.IndexOk(a.S, a.Db, a.A, a.Cols, a.Entries),
		impl.Range(a.Entries, a.Low, a.High), with, put, without, dropped,
	}
	for how := range int64(6) {
		for by := range int64(3) {
			groups, ok := impl.Grouped(a.S, a.Db, a.A, by, a.Col, how)
			l = append(l, groups, ok)
		}
	}
	return l
}

// cases5 has queries and indexes with rows and without, such that are refused when something was told already, and some that are not right.
func cases5(t *testing.T) []stage5 {
	s, db := stall(), dbOf(stallDb)
	lines := []impl.Line{{Vals: valsOf("1 'a' null")}, {}, {Vals: nulls(widest)}}
	query := func(where string, by []int64, most int64, terms ...string) impl.Select {
		return selecting(t, "p", where, by, most, terms...)
	}
	var l []stage5
	for _, cols := range [][]int64{{0}, {1}, {2, 1}, {1, 2, 0}} {
		index, _ := impl.IndexOf(s, db, 0, cols)
		for i, e := range index {
			other := impl.Entry{Key: slices.Clone(e.Key), Id: 77}
			l = append(l,
				stage5{s, db, query("", cols, int64(i), "#0", "#1"), 0, 1, read(t, "#0 #3 ="), 1, lines, cols, index, e.Key[0], text("b"), e},
				stage5{s, db, query("#2 3 <", cols, 60, "#2 #0 +", "7"), 0, 0, read(t, "1"), 2, lines, cols, index, impl.Val{}, e.Key[0], other},
				stage5{s, db, query("#0 3 <", cols, int64(i), "#1 1 +"), 0, 2, read(t, "#0"), 0, nil, cols, index[:i], impl.Val{}, text("b"), e},
				stage5{s, db, query("#0 999999992 + 0 <", cols, 60, "#0"), 0, 1, read(t, "#0 #3 + 999999987 +"), 2, lines, cols, index[i:], e.Key[0], e.Key[0], e})
		}
	}
	// What the caller shares between lists is not shared by the answers.
	shared := roomy(l[0])
	for i := range shared.Db[0].Rows {
		shared.Db[0].Rows[i].Vals = shared.Db[0].Rows[0].Vals
	}
	for i := range shared.Entries {
		shared.Entries[i] = impl.Entry{Key: shared.Entries[0].Key, Id: int64(i + 1)}
	}
	shared.Entry = impl.Entry{Key: shared.Entries[0].Key, Id: 70}
	gone := shared
	gone.Entry.Id, gone.Select.Most = 2, 60
	table, rows, terms, on, cols, entries, one := roomy(l[0]), roomy(l[1]), roomy(l[2]), roomy(l[3]), roomy(l[4]), roomy(l[5]), roomy(l[6])
	table.S[3].Key = nil
	rows.Db[0].Rows[2].Id = -5
	terms.Select.Terms = nil
	on.On, on.A = append(on.On, col(9)), 7
	cols.Cols, cols.Col, cols.Select.By = []int64{0, 0}, 3, []int64{1, 1}
	entries.Entries[1].Key, entries.Lines = nil, append(entries.Lines, impl.Line{Vals: nulls(widest + 1)})
	one.Entry.Id, one.Low = 0, impl.Val{Kind: 7}
	return append(l, shared, gone, table, rows, terms, on, cols, entries, one)
}

// stage6 has what the calls of chapters 12 and 13 are made with.
type stage6 struct {
	S       []impl.Table
	Db      []impl.Data
	Other   []impl.Data
	Vals    []impl.Val
	Stmt    impl.Stmt
	Changes []impl.Change
	Record  string
	DbLines string
	Words   string
}

// answers6 asks all of chapters 12 and 13.
func answers6(a stage6) []any {
	vals, recordRead := impl.ReadRecord(a.Record)
	db, dbRead := impl.ReadDb(a.S, a.DbLines)
	x, stmtRead := impl.ReadStmt(a.Words)
	diff, told := impl.DiffOf(a.S, a.Db, a.Other)
	applied, made := impl.Applied(a.S, a.Db, a.Changes)
	return []any{
		impl.RecordText(a.Vals), vals, recordRead, impl.DbText(a.S, a.Db), db, dbRead, impl.StmtText(a.Stmt), x, stmtRead,
		diff, told, applied, made, impl.Inverse(a.Changes),
	}
}

// cases6 has texts that are read and such that are given up at once, in the middle and at the end; changes that can be made and such that can not; and some that are not right.
func cases6(t *testing.T) []stage6 {
	s, db, other := stall(), dbOf(stallDb), dbOf("1 4 'b' 7; 3 2 'b' null; 4 2 'b' 5; 8 9 null -3 / 1 2; 2 5; 9 9 / 1 1 /")
	changes := []impl.Change{changed(0, 2, "3 'a' null", "3 'a' 1"), changed(1, 8, "", "7"), changed(1, 1, "2", ""), changed(1, 8, "7", "6"), changed(0, 10, "", "1 null null")}
	var l []stage6
	for i, x := range append(rightStmts(t), updating(t, impl.PoFail, "p", "", "0=1", "1=#0 #1 <", "7='a'"), inserting(impl.PoIgnore, "q", "", "1 2 3", "'a'"), impl.Stmt{}) {
		record, lines, words := recordOf(rising()[i:i+widest-i]), dbLines(s, db), stmtWords(x)
		l = append(l,
			stage6{s, db, other, rising()[i : i+3], x, changes, record, lines, words},
			stage6{s, other, db, nil, x, changes[1:2], record + ",1", lines + "x", words + " x"},
			stage6{s, db, db, wrongVals()[i : i+1], x, changes[:i], record[:len(record)-1], lines[:len(lines)-1], words[:len(words)-1]},
			stage6{s, db, make([]impl.Data, 4), nulls(i), x, append(slices.Clone(changes), changes...), "0", lines[:len(lines)/2], words[len(words)/2:]})
	}
	// What the caller shares between lists is not shared by the answers.
	shared := roomy(l[0])
	shared.Vals, shared.Other[0].Rows, shared.Changes = valsOf("1 'a' null"), nil, nil
	for i := range shared.Db[0].Rows {
		shared.Db[0].Rows[i].Vals = shared.Vals
		shared.Changes = append(shared.Changes, impl.Change{Id: int64(20 + i), Now: shared.Vals})
	}
	round := shared
	round.Changes = []impl.Change{{Id: 1, Old: shared.Vals}, {Id: 1, Now: shared.Vals}, {Id: 1, Old: shared.Vals, Now: valsOf("2 'a' null")}}
	alike := shared
	alike.Changes = []impl.Change{{Id: 1, Old: shared.Vals, Now: shared.Vals}}
	table, rows, behind, move, stmt := roomy(l[0]), roomy(l[0]), roomy(l[0]), roomy(l[0]), roomy(l[0])
	table.S[3].Key = nil
	rows.Db[0].Rows[2].Id = -5
	behind.Other[1].Rows[0].Vals = nil
	move.Changes[4].Table = 7
	stmt.Stmt.Rows[1].Id = 3
	return append(l, shared, round, alike, table, rows, behind, move, stmt)
}

// stage7 has what the calls of chapters 14 and 15 are made with.
type stage7 struct {
	S    []impl.Table
	Disk impl.Disk
	Op   impl.DOp
	Keep []int64
	Torn int64
	Name string
	Data string
	Acts []impl.Act
}

// answers7 asks all of chapters 14 and 15.
func answers7(a stage7) []any {
	done, doCode := impl.Do(a.Disk, a.Op)
	left, ok := impl.Crash(a.Disk, a.Keep, a.Torn)
	data, there := impl.ReadFile(a.Disk, a.Name)
	replaced, code := impl.Replace(a.Disk, a.Name, a.Data)
	frames, end := impl.TakeFrames(impl.FrameOf(a.Data) + data)
	db, seen := impl.StoreView(a.S, a.Disk)
	played, codes := impl.StorePlay(a.S, a.Disk, a.Acts)
	l := []any{impl.DiskOk(a.Disk), done, doCode, impl.Sync(a.Disk), left, ok, data, there, replaced, code, frames, end, db, seen, played, codes}
	for _, x := range a.Acts {
		acted, code := impl.StoreDo(a.S, a.Disk, x)
		l = append(l, acted, code)
	}
	return l
}

// cases7 has disks with a store and without, ops and acts that are done, refused and ended for want of power, and some that are not right.
func cases7(t *testing.T) []stage7 {
	s := bank()
	acts := []impl.Act{
		running(inserting(impl.PoAbort, "p", "7", "8"), true), running(updating(t, impl.PoReplace, "c", "#0 9 <", "1=null"), false), running(putting(1), true), running(inserting(0, "c", "2 9"), true), act(impl.AcSave), withPower(act(impl.AcSave), 3), act(impl.AcOpen), withPower(act(impl.AcOpen), 2),
		crashing("0", 3), crashing("0 1", 99), crashing("1 1", 0), withPower(crashing("", 0), 1), act(impl.AcNew), act(9),
	}
	more := []impl.DOp{appends("log", framed(entryOf(4, putting(5)))), appends("base.new", "x")}
	right := bankDisk(t, 3, bankDb)
	last := append(slices.Clone(right.Live[:1]), impl.File{Name: "log", Data: logOf(entryOf(4, putting(5)), entryOf(5, deleting(t, impl.PoAbort, "c", "")))})
	most := slices.Repeat(opsOf("a+"), impl.MaxOps)
	disks := []impl.Disk{
		right, diskWith(t, right.Live, more), diskWith(t, last, more[1:]), diskWith(t, last, opsOf("log+x a+1 a>base.new")), {}, diskOf(t, "a:1 log:x", "b+2 b>c -a"), diskWith(t, right.Live, most), diskWith(t, manyFiles(impl.MaxFiles, 1), nil), diskOf(t, "base:x", "base+y"),
		bankDisk(t, impl.MaxNum, bankDb), diskWith(t, right.Live, append(opsOf("-base"), appends("base", "x"))),
	}
	var l []stage7
	for i, d := range append(disks, wrongDisks(t)...) {
		for k, op := range []impl.DOp{appends("a", "x"), appends("log", ""), renames("base", "a"), renames("log", "log"), removes("base"), removes("z"), {Kind: impl.DkRemove, Name: "a", Data: "x"}, appends("a", bytesOf(impl.MaxBytes))} {
			keep := placesOf([]string{"", "0", "1", "0 1", "0 1 2", "1 0", "0 2", "-1"}[k])
			name := []string{"a", "base", "log", "base.new", "", "z", "f00", bytesOf(97)}[(i+k)%8]
			l = append(l, stage7{s, d, op, keep, int64(k - 1), name, bytesOf(k * k * k * k * 50), append(slices.Clone(acts[k:]), acts[:k]...)})
		}
	}
	// What the caller shares between lists is not shared by the answers.
	shared := l[8]
	shared.Disk.Safe = shared.Disk.Live
	shared.Disk.Ops = opsOf("log>log a+ -a")
	shared.Disk.Ops = append(shared.Disk.Ops, shared.Disk.Ops...)
	shared.Acts = []impl.Act{{Kind: impl.AcCrash, Keep: shared.Keep, Power: -1}, {Kind: impl.AcCrash, Keep: shared.Keep, Power: -1}}
	idle := l[8]
	idle.Acts = nil
	schema := roomy(l[8])
	schema.S[1].Key = nil
	return append(l, shared, idle, schema)
}

// stage8 has what the call of chapter 16 is made with.
type stage8 struct {
	S    []impl.Table
	Text string
}

// answers8 asks chapter 16.
func answers8(a stage8) []any { return []any{impl.RunScript(a.S, a.Text)} }

// cases8 has scripts that change much and such that change nothing, of schemas that are right and not.
func cases8() []stage8 {
	wrong, shared := desk(), desk()
	wrong[3].Fks[1].Cols[0] = 9
	// What the caller shares between lists is not changed by what one of them is used for.
	shared[2].Cols, shared[1].Key, shared[2].Key, shared[3].Key = shared[1].Cols, shared[0].Key, shared[0].Key, shared[0].Key
	texts := []string{
		linesOf(deskLines()...),
		linesOf(append(deskLines(), "begin", "mark a", "delete fail e where #0 7 <", "update replace p set 2 #2 1 + where ", "insert ignore r 3,1,7,7", "flaws", "back a", "update rollback p set 0 'x' where ", "show p", "show e")...),
		linesOf("begin", "insert abort r 3,1,7,null", "commit", "flaws", "rollback", "show r", "x"), "", "\n", "begin", strings.Repeat("\n", impl.MaxScript+1),
	}
	var l []stage8
	for _, s := range [][]impl.Table{desk(), town(), shared, wrong, {{}}, nil} {
		for _, text := range texts {
			l = append(l, stage8{s, text})
		}
	}
	return l
}

// checkArguments asks twice, with spare room behind all lists, and once without.
func checkArguments[T any](t *testing.T, i int, c T, answers func(T) []any) {
	t.Helper()
	a := roomy(c)
	kept := whole(a)
	first := answers(a)
	if got := whole(a); !reflect.DeepEqual(got, kept) {
		t.Errorf("case %d: an argument was written into", i)
	}
	if again := answers(a); !areSame(again, first) {
		t.Errorf("case %d: %v, then %v", i, first, again)
	}
	// What stands behind a list is not looked at.
	if other := answers(c); !areSame(other, first) {
		t.Errorf("case %d: %v without spare room, %v with it", i, other, first)
	}
}

// areSame takes an empty list and nil for the same.
func areSame(a []any, b []any) bool {
	if len(a) != len(b) {
		return false
	}
	for i := range a {
		if !reflect.DeepEqual(copied(reflect.ValueOf(a[i]), 0).Interface(), copied(reflect.ValueOf(b[i]), 0).Interface()) {
			return false
		}
	}
	return true
}

// checkAnswers writes over all that was answered, and looks for it elsewhere.
func checkAnswers[T any](t *testing.T, i int, c T, answers func(T) []any) {
	t.Helper()
	a := roomy(c)
	kept := whole(a)
	first := answers(a)
	for _, answer := range first {
		v := reflect.ValueOf(answer)
		if sharesMemory(listsOf(v)) {
			t.Errorf("case %d: two lists of one answer share memory", i)
		}
		spoilAnswer(v)
	}
	if got := whole(a); !reflect.DeepEqual(got, kept) {
		t.Errorf("case %d: an answer shares memory with an argument", i)
	}
	// The copy above has no list twice, but the caller may.
	as := answers(c)
	for _, answer := range as {
		if sharesMemory(listsOf(reflect.ValueOf(answer))) {
			t.Errorf("case %d: two lists of one answer share memory that the caller shares", i)
		}
	}
	if again := answers(a); !areSame(again, as) {
		t.Errorf("case %d: an answer was kept", i)
	}
}

// spoilAnswer writes over the lists of an answer, which is a list or has some.
func spoilAnswer(v reflect.Value) {
	switch v.Kind() {
	case reflect.Slice:
		spoil(v.Slice(0, v.Cap()))
	case reflect.Struct:
		for i := range v.NumField() {
			spoilAnswer(v.Field(i))
		}
	}
}

// listsOf has all lists in v, itself among them.
func listsOf(v reflect.Value) []reflect.Value {
	var l []reflect.Value
	switch v.Kind() {
	case reflect.Slice:
		l = append(l, v)
		for i := range v.Len() {
			l = append(l, listsOf(v.Index(i))...)
		}
	case reflect.Struct:
		for i := range v.NumField() {
			l = append(l, listsOf(v.Field(i))...)
		}
	}
	return l
}

// sharesMemory counts the room behind a list as its own.
func sharesMemory(lists []reflect.Value) bool {
	slices.SortFunc(lists, func(a reflect.Value, b reflect.Value) int { return cmp.Compare(a.Pointer(), b.Pointer()) })
	end := uintptr(0)
	for _, v := range lists {
		size := uintptr(v.Cap()) * v.Type().Elem().Size()
		if size > 0 && v.Pointer() < end {
			return true
		}
		if size > 0 {
			end = v.Pointer() + size
		}
	}
	return false
}

func TestListsOfArgumentsStayAsTheyWere(t *testing.T) {
	for i, c := range cases2() {
		checkArguments(t, i, c, answers2)
	}
	for i, c := range cases3(t) {
		checkArguments(t, i, c, answers3)
	}
	for i, c := range cases4(t) {
		checkArguments(t, i, c, answers4)
	}
	for i, c := range cases5(t) {
		checkArguments(t, i, c, answers5)
	}
	for i, c := range cases6(t) {
		checkArguments(t, i, c, answers6)
	}
	for i, c := range cases7(t) {
		checkArguments(t, i, c, answers7)
	}
	for i, c := range cases8() {
		checkArguments(t, i, c, answers8)
	}
}

func TestListsOfAnswersAreNewMemory(t *testing.T) {
	for i, c := range cases2() {
		checkAnswers(t, i, c, answers2)
	}
	for i, c := range cases3(t) {
		checkAnswers(t, i, c, answers3)
	}
	for i, c := range cases4(t) {
		checkAnswers(t, i, c, answers4)
	}
	for i, c := range cases5(t) {
		checkAnswers(t, i, c, answers5)
	}
	for i, c := range cases6(t) {
		checkAnswers(t, i, c, answers6)
	}
	for i, c := range cases7(t) {
		checkAnswers(t, i, c, answers7)
	}
	for i, c := range cases8() {
		checkAnswers(t, i, c, answers8)
	}
}

// TestDataOfANewDbAreApart puts a row into each and looks for it in the others.
func TestDataOfANewDbAreApart(t *testing.T) {
	db, _ := impl.DbNew(town())
	for i := range db {
		db[i].Rows = append(db[i].Rows, row(int64(i+1)))
	}
	for i := range db {
		if len(db[i].Rows) != 1 || db[i].Rows[0].Id != int64(i+1) {
			t.Error("two Data share their rows")
		}
	}
}
