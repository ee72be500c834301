package tests

import (
	"cmp"
	"reflect"
	"slices"
	"testing"

	"loop.example/g00570/impl"
)

// roomy is a copy of x in which each list has spare room behind it, filled with what no right list has.
func roomy[T any](x T) T {
	return copied(reflect.ValueOf(x), 3).Interface().(T)
}

// whole is a copy of x that shows the spare room behind each list, too.
func whole[T any](x T) T {
	return shown(reflect.ValueOf(x)).Interface().(T)
}

func copied(v reflect.Value, room int) reflect.Value {
	out := reflect.New(v.Type()).Elem()
	switch v.Kind() {
	case reflect.Slice:
		list := reflect.MakeSlice(v.Type(), v.Len()+room, v.Len()+room)
		for i := range v.Len() {
			list.Index(i).Set(copied(v.Index(i), room))
		}
		for i := v.Len(); i < list.Len(); i++ {
			spoil(list.Index(i))
		}
		out.Set(list.Slice(0, v.Len()))
	case reflect.Struct:
		for i := range v.NumField() {
			out.Field(i).Set(copied(v.Field(i), room))
		}
	default:
		out.Set(v)
	}
	return out
}

func shown(v reflect.Value) reflect.Value {
	if v.Kind() == reflect.Slice {
		v = v.Slice(0, v.Cap())
	}
	out := copied(v, 0)
	switch v.Kind() {
	case reflect.Slice:
		for i := range v.Len() {
			out.Index(i).Set(shown(v.Index(i)))
		}
	case reflect.Struct:
		for i := range v.NumField() {
			out.Field(i).Set(shown(v.Field(i)))
		}
	}
	return out
}

// spoil writes over all that v shows. An empty list gets something to show: an element that has but lists would stay as it was.
func spoil(v reflect.Value) {
	switch v.Kind() {
	case reflect.Slice:
		if v.Len() == 0 && v.CanSet() {
			v.Set(reflect.MakeSlice(v.Type(), 1, 1))
		}
		for i := range v.Len() {
			spoil(v.Index(i))
		}
	case reflect.Struct:
		for i := range v.NumField() {
			spoil(v.Field(i))
		}
	case reflect.Int64:
		v.SetInt(-77)
	case reflect.String:
		v.SetString("Spare")
	case reflect.Bool:
		v.SetBool(!v.Bool())
	}
}

// stage2 has what the calls of chapters 3, 4 and 5 are made with.
type stage2 struct {
	S    []impl.Table
	Db   []impl.Data
	Cols []int64
	Key  []impl.Val
	Vals []impl.Val
}

// answers2 asks all of chapters 3, 4 and 5.
func answers2(a stage2) []any {
	db, made := impl.DbNew(a.S)
	key, known := impl.KeyOf(a.Cols, a.Vals)
	flaws, right := impl.Flaws(a.S, a.Db)
	return []any{
		impl.TableOk(a.S[1]), impl.SchemaOk(a.S), impl.TableAt(a.S, "visit"), impl.ColAt(a.S[1], "boss"), impl.Refers(a.S, "person"),
		impl.RowOk(a.S[1], a.Vals), impl.DbOk(a.S, a.Db), db, made, key, known, impl.FindRows(a.S, a.Db, 1, a.Cols, a.Key),
		flaws, right, impl.Sound(a.S, a.Db), impl.SoundNow(a.S, a.Db),
	}
}

// cases2 has a right case, one with flaws, and some that are not right.
func cases2() []stage2 {
	right := stage2{town(), townDb(), []int64{2}, []impl.Val{num(10)}, townDb()[1].Rows[1].Vals}
	flaws := roomy(right)
	flaws.Db[1].Rows[0].Vals[2], flaws.Db[1].Rows[1].Vals[0], flaws.Db[0].Rows = num(55), impl.Val{}, nil
	table, rows, cols, key, vals := roomy(right), roomy(right), roomy(right), roomy(right), roomy(right)
	table.S[2].Fks[1].Cols[0] = 9
	rows.Db[2].Rows[1].Id = -5
	cols.Cols = []int64{0, 2, 0, 99}
	key.Key = []impl.Val{{}, {Kind: 7}}
	vals.Vals = slices.Repeat([]impl.Val{{}}, widest+1)
	return []stage2{right, flaws, table, rows, cols, key, vals}
}

// stage3 has what the calls of chapters 6 and 7 are made with.
type stage3 struct {
	S     []impl.Table
	Db    []impl.Data
	Table int64
	Id    int64
	Vals  []impl.Val
	Stmt  impl.Stmt
}

// answers3 asks all of chapters 6 and 7.
func answers3(a stage3) []any {
	var l []any
	for _, replace := range []bool{false, true} {
		put, id, putCode := impl.InsertRow(a.S, a.Db, a.Table, a.Vals, replace)
		changed, code := impl.UpdateRow(a.S, a.Db, a.Table, a.Id, a.Vals, replace)
		l = append(l, put, id, putCode, changed, code)
	}
	taken, code := impl.DeleteRow(a.S, a.Db, a.Table, a.Id)
	ids, ok := impl.Matching(a.S, a.Db, a.Table, a.Stmt.Where)
	db, execCode, done := impl.Exec(a.S, a.Db, a.Stmt)
	return append(l, taken, code, ids, ok, impl.StmtOk(a.S, a.Stmt), db, execCode, done)
}

// cases3 has changes that are done, some that are refused at first or when something was done already, and some that are not right.
func cases3(t *testing.T) []stage3 {
	all := func(action int64) []impl.Table {
		s := shop(action, action, false)
		s[0].Cols[2].Default = text("z")
		return s
	}
	var l []stage3
	for _, action := range []int64{impl.FkRestrict, impl.FkCascade, impl.FkNull} {
		for _, vals := range []string{"3 30 null", "1 30 'a'", "2 10 'b'", "3 null 'c'", "9 30 'c'", "3 30"} {
			for _, policy := range policies {
				l = append(l,
					stage3{all(action), dbOf(shopDb), 0, 2, valsOf(vals), inserting(policy, "p", "7 70 'x'", "8 null null", "1 20 'y'")},
					stage3{all(action), dbOf(shopDb), 0, 4, valsOf(vals), updating(t, policy, "p", "#0 9 <", "0=#0 1 +", "2='q'")},
					stage3{all(action), dbOf(shopDb), 0, 2, valsOf(vals), deleting(t, policy, "p", "#0 1 = #2 isnull or")})
			}
		}
	}
	shared := l[0]
	shared.Stmt.Rows = []impl.Row{{Vals: shared.Vals}, {Vals: shared.Vals}}
	table, wrong, row, none := roomy(l[0]), roomy(l[1]), roomy(l[2]), roomy(l[2])
	table.Table = 2
	wrong.S[1].Fks[0].Cols[0] = 9
	row.Db[1].Rows[2].Id = -5
	none.Id, none.Stmt.Where = 3, []impl.Tok{constant(text("a"))}
	return append(l, shared, table, wrong, row, none)
}

// checkArguments asks twice, with spare room behind all lists, and once without.
func checkArguments[T any](t *testing.T, i int, c T, answers func(T) []any) {
	t.Helper()
	a := roomy(c)
	kept := whole(a)
	first := answers(a)
	if got := whole(a); !reflect.DeepEqual(got, kept) {
		t.Errorf("case %d: an argument was written into", i)
	}
	if again := answers(a); !reflect.DeepEqual(again, first) {
		t.Errorf("case %d: %v, then %v", i, first, again)
	}
	// What stands behind a list is not looked at.
	if other := answers(c); !reflect.DeepEqual(other, first) {
		t.Errorf("case %d: %v without spare room, %v with it", i, other, first)
	}
}

// checkAnswers writes over all that was answered, and looks for it elsewhere.
func checkAnswers[T any](t *testing.T, i int, c T, answers func(T) []any) {
	t.Helper()
	a := roomy(c)
	kept := whole(a)
	first := answers(a)
	for _, answer := range first {
		v := reflect.ValueOf(answer)
		if sharesMemory(listsOf(v)) {
			t.Errorf("case %d: two lists of one answer share memory", i)
		}
		if v.Kind() == reflect.Slice {
			spoil(v.Slice(0, v.Cap()))
		}
	}
	if got := whole(a); !reflect.DeepEqual(got, kept) {
		t.Errorf("case %d: an answer shares memory with an argument", i)
	}
	if again := answers(a); !reflect.DeepEqual(again, answers(c)) {
		t.Errorf("case %d: an answer was kept", i)
	}
}

// listsOf has all lists in v, itself among them.
func listsOf(v reflect.Value) []reflect.Value {
	var l []reflect.Value
	switch v.Kind() {
	case reflect.Slice:
		l = append(l, v)
		for i := range v.Len() {
			l = append(l, listsOf(v.Index(i))...)
		}
	case reflect.Struct:
		for i := range v.NumField() {
			l = append(l, listsOf(v.Field(i))...)
		}
	}
	return l
}

// sharesMemory counts the room behind a list as its own.
func sharesMemory(lists []reflect.Value) bool {
	slices.SortFunc(lists, func(a reflect.Value, b reflect.Value) int { return cmp.Compare(a.Pointer(), b.Pointer()) })
	end := uintptr(0)
	for _, v := range lists {
		size := uintptr(v.Cap()) * v.Type().Elem().Size()
		if size > 0 && v.Pointer() < end {
			return true
		}
		if size > 0 {
			end = v.Pointer() + size
		}
	}
	return false
}

func TestListsOfArgumentsStayAsTheyWere(t *testing.T) {
	for i, c := range cases2() {
		checkArguments(t, i, c, answers2)
	}
	for i, c := range cases3(t) {
		checkArguments(t, i, c, answers3)
	}
}

func TestListsOfAnswersAreNewMemory(t *testing.T) {
	for i, c := range cases2() {
		checkAnswers(t, i, c, answers2)
	}
	for i, c := range cases3(t) {
		checkAnswers(t, i, c, answers3)
	}
}

// TestDataOfANewDbAreApart puts a row into each and looks for it in the others.
func TestDataOfANewDbAreApart(t *testing.T) {
	db, _ := impl.DbNew(town())
	for i := range db {
		db[i].Rows = append(db[i].Rows, row(int64(i+1)))
	}
	for i := range db {
		if len(db[i].Rows) != 1 || db[i].Rows[0].Id != int64(i+1) {
			t.Error("two Data share their rows")
		}
	}
}
