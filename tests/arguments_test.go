package tests

import (
	"reflect"
	"slices"
	"testing"

	"loop.example/g00570/impl"
)

// roomy is a copy of x in which each list has spare room behind it, filled with what no right list has.
func roomy[T any](x T) T {
	return copied(reflect.ValueOf(x), 3).Interface().(T)
}

// whole is a copy of x that shows the spare room behind each list, too.
func whole[T any](x T) T {
	return shown(reflect.ValueOf(x)).Interface().(T)
}

func copied(v reflect.Value, room int) reflect.Value {
	out := reflect.New(v.Type()).Elem()
	switch v.Kind() {
	case reflect.Slice:
		list := reflect.MakeSlice(v.Type(), v.Len()+room, v.Len()+room)
		for i := range v.Len() {
			list.Index(i).Set(copied(v.Index(i), room))
		}
		for i := v.Len(); i < list.Len(); i++ {
			spoil(list.Index(i))
		}
		out.Set(list.Slice(0, v.Len()))
	case reflect.Struct:
		for i := range v.NumField() {
			out.Field(i).Set(copied(v.Field(i), room))
		}
	default:
		out.Set(v)
	}
	return out
}

func shown(v reflect.Value) reflect.Value {
	if v.Kind() == reflect.Slice {
		v = v.Slice(0, v.Cap())
	}
	out := copied(v, 0)
	switch v.Kind() {
	case reflect.Slice:
		for i := range v.Len() {
			out.Index(i).Set(shown(v.Index(i)))
		}
	case reflect.Struct:
		for i := range v.NumField() {
			out.Field(i).Set(shown(v.Field(i)))
		}
	}
	return out
}

// spoil writes over all that v shows. An empty list gets something to show: an element that has but lists would stay as it was.
func spoil(v reflect.Value) {
	switch v.Kind() {
	case reflect.Slice:
		if v.Len() == 0 && v.CanSet() {
			v.Set(reflect.MakeSlice(v.Type(), 1, 1))
		}
		for i := range v.Len() {
			spoil(v.Index(i))
		}
	case reflect.Struct:
		for i := range v.NumField() {
			spoil(v.Field(i))
		}
	case reflect.Int64:
		v.SetInt(-77)
	case reflect.String:
		v.SetString("Spare")
	case reflect.Bool:
		v.SetBool(!v.Bool())
	}
}

// stage2 has what the calls of chapters 3, 4 and 5 are made with.
type stage2 struct {
	S    []impl.Table
	Db   []impl.Data
	Cols []int64
	Key  []impl.Val
	Vals []impl.Val
}

// answers2 asks all of chapters 3, 4 and 5.
func answers2(a stage2) []any {
	db, made := impl.DbNew(a.S)
	key, known := impl.KeyOf(a.Cols, a.Vals)
	flaws, right := impl.Flaws(a.S, a.Db)
	return []any{
		impl.TableOk(a.S[1]), impl.SchemaOk(a.S), impl.TableAt(a.S, "visit"), impl.ColAt(a.S[1], "boss"), impl.Refers(a.S, "person"),
		impl.RowOk(a.S[1], a.Vals), impl.DbOk(a.S, a.Db), db, made, key, known, impl.FindRows(a.S, a.Db, 1, a.Cols, a.Key),
		flaws, right, impl.Sound(a.S, a.Db), impl.SoundNow(a.S, a.Db),
	}
}

// cases2 has a right case, one with flaws, and some that are not right.
func cases2() []stage2 {
	right := stage2{town(), townDb(), []int64{2}, []impl.Val{num(10)}, townDb()[1].Rows[1].Vals}
	flaws := roomy(right)
	flaws.Db[1].Rows[0].Vals[2], flaws.Db[1].Rows[1].Vals[0], flaws.Db[0].Rows = num(55), impl.Val{}, nil
	table, rows, cols, key, vals := roomy(right), roomy(right), roomy(right), roomy(right), roomy(right)
	table.S[2].Fks[1].Cols[0] = 9
	rows.Db[2].Rows[1].Id = -5
	cols.Cols = []int64{0, 2, 0, 99}
	key.Key = []impl.Val{{}, {Kind: 7}}
	vals.Vals = slices.Repeat([]impl.Val{{}}, widest+1)
	return []stage2{right, flaws, table, rows, cols, key, vals}
}

func TestArgumentsOfStage2StayAsTheyWere(t *testing.T) {
	for i, c := range cases2() {
		a := roomy(c)
		kept := whole(a)
		first := answers2(a)
		if got := whole(a); !reflect.DeepEqual(got, kept) {
			t.Errorf("case %d: an argument was written into", i)
		}
		if again := answers2(a); !reflect.DeepEqual(again, first) {
			t.Errorf("case %d: %v, then %v", i, first, again)
		}
		// What stands behind a list is not looked at.
		if other := answers2(c); !reflect.DeepEqual(other, first) {
			t.Errorf("case %d: %v without spare room, %v with it", i, other, first)
		}
	}
}

func TestAnswersOfStage2AreNewMemory(t *testing.T) {
	for i, c := range cases2() {
		a := roomy(c)
		kept := whole(a)
		first := answers2(a)
		for _, answer := range first {
			if v := reflect.ValueOf(answer); v.Kind() == reflect.Slice {
				spoil(v.Slice(0, v.Cap()))
			}
		}
		if got := whole(a); !reflect.DeepEqual(got, kept) {
			t.Errorf("case %d: an answer shares memory with an argument", i)
		}
		if again := answers2(a); !reflect.DeepEqual(again, answers2(c)) {
			t.Errorf("case %d: an answer was kept", i)
		}
	}
}

// TestDataOfANewDbAreApart puts a row into each and looks for it in the others.
func TestDataOfANewDbAreApart(t *testing.T) {
	db, _ := impl.DbNew(town())
	for i := range db {
		db[i].Rows = append(db[i].Rows, row(int64(i+1)))
	}
	for i := range db {
		if len(db[i].Rows) != 1 || db[i].Rows[0].Id != int64(i+1) {
			t.Error("two Data share their rows")
		}
	}
}
