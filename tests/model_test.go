package tests

import (
	"slices"
	"testing"

	"loop.example/g00570/impl"
)

// A model is chapter 6 told once more: a database that is changed in place, by calls that follow the text line by line.
type model struct {
	s  []impl.Table
	db []impl.Data
}

func cloned(db []impl.Data) []impl.Data {
	out := make([]impl.Data, len(db))
	for i, d := range db {
		for _, r := range d.Rows {
			out[i].Rows = append(out[i].Rows, row(r.Id, slices.Clone(r.Vals)...))
		}
	}
	return out
}

// at is where the row is, or -1.
func (m *model) at(table int, id int64) int {
	return slices.IndexFunc(m.db[table].Rows, func(r impl.Row) bool { return r.Id == id })
}

func pick(vals []impl.Val, cols []int64) []impl.Val {
	var l []impl.Val
	for _, c := range cols {
		l = append(l, vals[c])
	}
	return l
}

// alike is whether these are the same values, none a null.
func alike(a []impl.Val, b []impl.Val) bool {
	return slices.Equal(a, b) && !slices.Contains(a, impl.Val{})
}

// rivals has their Ids.
func (m *model) rivals(table int, id int64, vals []impl.Val) []int64 {
	var ids []int64
	lists := [][]int64{m.s[table].Key}
	for _, u := range m.s[table].Uniques {
		lists = append(lists, u.Cols)
	}
	for _, r := range m.db[table].Rows {
		if r.Id != id && slices.ContainsFunc(lists, func(cols []int64) bool { return alike(pick(vals, cols), pick(r.Vals, cols)) }) {
			ids = append(ids, r.Id)
		}
	}
	return ids
}

// ready does what comes ahead of the row's having its values, which it tells.
func (m *model) ready(table int, id int64, given []impl.Val, replace bool, deep int) ([]impl.Val, int64) {
	vals := slices.Clone(given)
	for i, c := range m.s[table].Cols {
		if replace && c.NotNull && vals[i] == (impl.Val{}) {
			vals[i] = c.Default
		}
	}
	for i, c := range m.s[table].Cols {
		if c.NotNull && vals[i] == (impl.Val{}) {
			return nil, impl.EcNull
		}
	}
	for _, c := range m.s[table].Checks {
		if truth := impl.Truth(c.Expr, vals); truth == impl.TruNot || truth < 0 {
			return nil, impl.EcCheck
		}
	}
	rivals := m.rivals(table, id, vals)
	if len(rivals) > 0 && !replace {
		return nil, impl.EcUnique
	}
	for _, rival := range rivals {
		if m.at(table, rival) >= 0 {
			if code := m.take(table, rival, deep+1); code != impl.EcOk {
				return nil, code
			}
		}
	}
	return vals, impl.EcOk
}

func (m *model) lost(table int, id int64) int64 {
	i := m.at(table, id)
	if i < 0 {
		return impl.EcOk
	}
	for _, fk := range m.s[table].Fks {
		mine := pick(m.db[table].Rows[i].Vals, fk.Cols)
		to := slices.IndexFunc(m.s, func(t impl.Table) bool { return t.Name == fk.Table })
		found := slices.ContainsFunc(m.db[to].Rows, func(r impl.Row) bool { return alike(mine, pick(r.Vals, m.s[to].Key)) })
		if !fk.Deferred && !found && !slices.Contains(mine, impl.Val{}) {
			return impl.EcFk
		}
	}
	return impl.EcOk
}

func (m *model) change(table int, id int64, given []impl.Val, replace bool, deep int) int64 {
	if deep > impl.MaxDepth {
		return impl.EcDepth
	}
	vals, code := m.ready(table, id, given, replace, deep)
	if code != impl.EcOk {
		return code
	}
	i := m.at(table, id)
	if i < 0 {
		return impl.EcNone
	}
	old, now := pick(m.db[table].Rows[i].Vals, m.s[table].Key), pick(vals, m.s[table].Key)
	m.db[table].Rows[i].Vals = vals
	if !slices.Equal(old, now) {
		if code := m.children(table, old, now, false, deep); code != impl.EcOk {
			return code
		}
	}
	return m.lost(table, id)
}

func (m *model) take(table int, id int64, deep int) int64 {
	if deep > impl.MaxDepth {
		return impl.EcDepth
	}
	i := m.at(table, id)
	old := pick(m.db[table].Rows[i].Vals, m.s[table].Key)
	m.db[table].Rows = slices.Delete(m.db[table].Rows, i, i+1)
	return m.children(table, old, nil, true, deep)
}

func (m *model) children(table int, old []impl.Val, now []impl.Val, gone bool, deep int) int64 {
	for child, t := range m.s {
		for _, fk := range t.Fks {
			if fk.Table != m.s[table].Name {
				continue
			}
			action := fk.OnUpdate
			if gone {
				action = fk.OnDelete
			}
			for _, r := range slices.Clone(m.db[child].Rows) {
				i := m.at(child, r.Id)
				if i < 0 || !alike(old, pick(m.db[child].Rows[i].Vals, fk.Cols)) {
					continue
				}
				code := int64(impl.EcOk)
				vals := slices.Clone(m.db[child].Rows[i].Vals)
				switch {
				case action == impl.FkRestrict && !fk.Deferred:
					code = impl.EcFk
				case action == impl.FkCascade && gone:
					code = m.take(child, r.Id, deep+1)
				case action == impl.FkCascade:
					for k, c := range fk.Cols {
						vals[c] = now[k]
					}
					code = m.change(child, r.Id, vals, false, deep+1)
				case action == impl.FkNull:
					for _, c := range fk.Cols {
						vals[c] = impl.Val{}
					}
					code = m.change(child, r.Id, vals, false, deep+1)
				}
				if code != impl.EcOk {
					return code
				}
			}
		}
	}
	return impl.EcOk
}

func (m *model) nextId(table int) int64 {
	if n := len(m.db[table].Rows); n > 0 {
		return m.db[table].Rows[n-1].Id + 1
	}
	return 1
}

// vals has none when there is no such row.
func (m *model) vals(table int, id int64) []impl.Val {
	if i := m.at(table, id); i >= 0 {
		return m.db[table].Rows[i].Vals
	}
	return nil
}

func (m *model) insert(table int, given []impl.Val, replace bool) (int64, int64) {
	id := m.nextId(table)
	vals, code := m.ready(table, id, given, replace, 0)
	if code != impl.EcOk {
		return 0, code
	}
	if len(m.db[table].Rows) == impl.MaxRows || id > impl.MaxNum {
		return 0, impl.EcFull
	}
	m.db[table].Rows = append(m.db[table].Rows, row(id, vals...))
	if code := m.lost(table, id); code != impl.EcOk {
		return 0, code
	}
	return id, impl.EcOk
}

// A dice throws the same numbers in each run.
type dice uint32

func (d *dice) below(n int) int {
	*d = *d*1664525 + 1013904223
	return int(uint32(*d)>>8) % n
}

func (d *dice) val() impl.Val {
	if n := d.below(6); n < 5 {
		return num(int64(n))
	}
	return impl.Val{}
}

// schema is a right one of three tables that refer to each other and to themselves.
func (d *dice) schema() []impl.Table {
	for {
		var s []impl.Table
		for _, name := range []string{"a", "b", "c"} {
			s = append(s, d.table(name))
		}
		for i := range s {
			for range d.below(4) {
				to := s[d.below(3)]
				fk := impl.Fk{Table: to.Name, OnDelete: int64(d.below(3)), OnUpdate: int64(d.below(3)), Deferred: d.below(4) == 0}
				for range to.Key {
					fk.Cols = append(fk.Cols, int64(d.below(len(s[i].Cols))))
				}
				// A column twice is no reference.
				if impl.TableOk(impl.Table{Name: "t", Cols: s[i].Cols, Key: s[i].Key, Fks: []impl.Fk{fk}}) && len(s[i].Fks) < 3 {
					s[i].Fks = append(s[i].Fks, fk)
				}
			}
		}
		if impl.SchemaOk(s) {
			return s
		}
	}
}

func (d *dice) table(name string) impl.Table {
	t := impl.Table{Name: name}
	for i := range 2 + d.below(3) {
		c := intCol([]string{"p", "q", "r", "s"}[i])
		c.NotNull = i == 0 || d.below(4) == 0
		if d.below(2) == 0 {
			c.Default = d.val()
		}
		t.Cols = append(t.Cols, c)
	}
	t.Key = []int64{0}
	if t.Cols[1].NotNull && d.below(2) == 0 {
		t.Key = []int64{1, 0}
	}
	for range d.below(2) {
		t.Uniques = append(t.Uniques, impl.Unique{Cols: []int64{int64(d.below(len(t.Cols)))}})
	}
	some := col(int64(d.below(len(t.Cols))))
	switch d.below(6) {
	case 0:
		t.Checks = []impl.Check{{Expr: []impl.Tok{some, col(0), opTok(impl.EtLess), opTok(impl.EtNot)}}}
	case 1:
		t.Checks = []impl.Check{{Expr: []impl.Tok{constant(impl.Val{})}}, {Expr: []impl.Tok{some, opTok(impl.EtNull), opTok(impl.EtNot)}}}
	}
	return t
}

// row fits the table; some of its references lead somewhere, and it may have the Key of another one.
func (d *dice) row(s []impl.Table, db []impl.Data, table int) []impl.Val {
	var l []impl.Val
	for range s[table].Cols {
		l = append(l, d.val())
	}
	d.copyKey(l, s, db, table, s[table].Key, 5)
	for _, fk := range s[table].Fks {
		d.copyKey(l, s, db, int(impl.TableAt(s, fk.Table)), fk.Cols, 2)
	}
	return l
}

// copyKey writes the Key of one of the rows there are into these columns, once in so many times.
func (d *dice) copyKey(l []impl.Val, s []impl.Table, db []impl.Data, to int, cols []int64, times int) {
	n := len(db[to].Rows)
	if n == 0 || d.below(times) > 0 {
		return
	}
	from := db[to].Rows[d.below(n)].Vals
	for i, c := range cols {
		l[c] = from[s[to].Key[i]]
	}
}

// soundDb is what some inserts make, sound for now.
func (d *dice) soundDb(s []impl.Table) []impl.Data {
	db := make([]impl.Data, len(s))
	for range 30 {
		table := d.below(len(s))
		m := model{s, cloned(db)}
		if _, code := m.insert(table, d.row(s, db, table), d.below(5) == 0); code == impl.EcOk {
			db = m.db
		}
	}
	return db
}

// anyDb has any rows at all.
func (d *dice) anyDb(s []impl.Table) []impl.Data {
	db := make([]impl.Data, len(s))
	for i := range s {
		for id := range d.below(6) {
			db[i].Rows = append(db[i].Rows, row(int64(2*id+1), d.row(s, db, i)...))
		}
	}
	return db
}

// someId is mostly one that there is.
func (d *dice) someId(data impl.Data) int64 {
	if n := len(data.Rows); n > 0 && d.below(10) > 0 {
		return data.Rows[d.below(n)].Id
	}
	return int64(d.below(9))
}

// TestChangesAgainstTheModel does the same with many databases by the program and by the model.
func TestChangesAgainstTheModel(t *testing.T) {
	d := dice(7)
	met := map[[2]int64]int{}
	for range 3000 {
		s := d.schema()
		db := d.soundDb(s)
		if d.below(4) == 0 {
			db = d.anyDb(s)
		}
		for range 20 {
			kind, code := d.changeBoth(t, s, &db)
			met[[2]int64{kind, code}]++
		}
		if t.Failed() {
			return
		}
	}
	for kind := range int64(3) {
		for _, code := range []int64{impl.EcOk, impl.EcNull, impl.EcCheck, impl.EcUnique, impl.EcFk} {
			if n := met[[2]int64{kind, code}]; n < 20 && !(kind == 1 && code == impl.EcUnique) {
				t.Errorf("change %d was refused for %d only %d times", kind, code, n)
			}
		}
	}
	if met[[2]int64{2, impl.EcNone}] < 20 {
		t.Error("too few rows taken by their rivals")
	}
}

// changeBoth makes one change with the program and with the model, and goes on with what comes of it.
func (d *dice) changeBoth(t *testing.T, s []impl.Table, db *[]impl.Data) (int64, int64) {
	table, kind, replace := d.below(len(s)), int64(d.below(3)), d.below(2) == 0
	vals, id := d.row(s, *db, table), d.someId((*db)[table])
	m := model{s, cloned(*db)}
	var got []impl.Data
	var code, want, gotId, wantId int64
	switch {
	case kind == 0:
		got, gotId, code = impl.InsertRow(s, *db, int64(table), vals, replace)
		wantId, want = m.insert(table, vals, replace)
	case m.at(table, id) < 0:
		want = impl.EcNone
		if got, code = impl.DeleteRow(s, *db, int64(table), id); kind == 2 {
			got, code = impl.UpdateRow(s, *db, int64(table), id, vals, replace)
		}
		kind = 3
	case kind == 1:
		got, code = impl.DeleteRow(s, *db, int64(table), id)
		want = m.take(table, id, 0)
	default:
		got, code = impl.UpdateRow(s, *db, int64(table), id, vals, replace)
		want = m.change(table, id, vals, replace, 0)
	}
	if gotId != wantId {
		t.Errorf("change %d in %v: Id %d, want %d", kind, *db, gotId, wantId)
	}
	checkChanged(t, "change "+dbText([]impl.Data{{Rows: []impl.Row{row(kind, num(int64(table)), num(id))}}})+" in "+dbText(*db), s, *db, got, code, want, dbText(m.db))
	if code == impl.EcOk {
		*db = got
	}
	return kind, code
}
