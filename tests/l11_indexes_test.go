package tests

import (
	"fmt"
	"math"
	"slices"
	"strconv"
	"strings"
	"testing"

	"loop.example/g00570/impl"
)

func entry(id int64, key ...impl.Val) impl.Entry { return impl.Entry{Key: key, Id: id} }

// entriesOf reads entries with a ; between, each an Id and its Key.
func entriesOf(s string) []impl.Entry {
	var l []impl.Entry
	for _, part := range strings.Split(s, ";") {
		if vals := valsOf(part); len(vals) > 0 {
			l = append(l, entry(vals[0].N, vals[1:]...))
		}
	}
	return l
}

// entriesText is what entriesOf reads; noLines stands for an answer that is false.
func entriesText(l []impl.Entry, ok bool) string {
	if !ok {
		return noLines
	}
	var d impl.Data
	for _, e := range l {
		d.Rows = append(d.Rows, impl.Row{Id: e.Id, Vals: e.Key})
	}
	return dbText([]impl.Data{d})
}

func checkEntries(t *testing.T, what string, got []impl.Entry, ok bool, want string) {
	t.Helper()
	if text := entriesText(got, ok); text != want {
		t.Errorf("%s: %s, want %s", what, text, want)
	}
	if !ok && len(got) != 0 {
		t.Errorf("%s: false, with %d entries", what, len(got))
	}
}

// checkIndex asks IndexOf, and IndexOk of what it should be.
func checkIndex(t *testing.T, what string, s []impl.Table, db []impl.Data, table int64, cols []int64, want string) {
	t.Helper()
	got, ok := impl.IndexOf(s, db, table, cols)
	checkEntries(t, what, got, ok, want)
	if want == noLines {
		if impl.IndexOk(s, db, table, cols, nil) || impl.IndexOk(s, db, table, cols, []impl.Entry{{}}) {
			t.Errorf("%s: there is an index", what)
		}
		return
	}
	if !impl.IndexOk(s, db, table, cols, entriesOf(want)) {
		t.Errorf("%s: %s is not the index", what, want)
	}
}

func TestIndexOf(t *testing.T) {
	s, db := stall(), dbOf(stallDb)
	checkIndex(t, "by the Key", s, db, 0, []int64{0}, "5 1; 3 2; 2 3; 1 4; 9 6; 8 9")
	checkIndex(t, "by texts, alike by Id", s, db, 0, []int64{1}, "5 null; 8 null; 2 'a'; 9 'a'; 1 'b'; 3 'b'")
	checkIndex(t, "by numbers", s, db, 0, []int64{2}, "2 null; 9 null; 8 -3; 5 1; 3 5; 1 7")
	checkIndex(t, "by two", s, db, 0, []int64{1, 2}, "8 null -3; 5 null 1; 2 'a' null; 9 'a' null; 3 'b' 5; 1 'b' 7")
	checkIndex(t, "by two others", s, db, 0, []int64{2, 1}, "2 null 'a'; 9 null 'a'; 8 -3 null; 5 1 null; 3 5 'b'; 1 7 'b'")
	checkIndex(t, "by all", s, db, 0, []int64{1, 0, 2}, "5 null 1 1; 8 null 9 -3; 2 'a' 3 null; 9 'a' 6 null; 3 'b' 2 5; 1 'b' 4 7")
	checkIndex(t, "another table", s, db, 1, []int64{0}, "1 2; 2 4; 7 9")
	checkIndex(t, "an empty table", s, db, 2, []int64{0}, "")
	checkIndex(t, "an empty wide table", s, db, 3, []int64{7, 0}, "")
	checkIndex(t, "rows that are alike, with flaws", s, only("4 null null 1; 5 null null 1; 6 null null 0"), 0, []int64{2, 0}, "6 0 null; 4 1 null; 5 1 null")
	wide := make([]impl.Data, 4)
	wide[3].Rows = []impl.Row{row(3, valsOf("1 2 3 4 5 6 7 9")...), row(impl.MaxNum, valsOf("1 2 3 4 5 6 7 8")...)}
	checkIndex(t, "the widest table", s, wide, 3, []int64{0, 1, 2, 3, 4, 5, 6, 7}, "1000000000 1 2 3 4 5 6 7 8; 3 1 2 3 4 5 6 7 9")
	checkIndex(t, "the widest table, from behind", s, wide, 3, []int64{7, 6, 5, 4, 3, 2, 1, 0}, "1000000000 8 7 6 5 4 3 2 1; 3 9 7 6 5 4 3 2 1")
}

func TestIndexOfWhatIsNotRight(t *testing.T) {
	s, db := stall(), dbOf(stallDb)
	for _, cols := range [][]int64{nil, {}, {3}, {-1}, {0, 0}, {1, 1}, {0, 1, 0}, {0, 3}, {3, 0}, {0, 1, 2, 0}, {0, 1, 2, 3}, {math.MaxInt64}, {math.MinInt64}, {1 << 32}} {
		checkIndex(t, fmt.Sprint("columns ", cols), s, db, 0, cols, noLines)
		checkIndex(t, fmt.Sprint("no rows, columns ", cols), s, only(""), 0, cols, noLines)
	}
	for _, table := range []int64{-1, 4, math.MaxInt64, math.MinInt64, 1 << 32} {
		checkIndex(t, fmt.Sprint("table ", table), s, db, table, []int64{0}, noLines)
	}
	for i, wrong := range wrongStalls() {
		checkIndex(t, fmt.Sprint("database ", i), s, wrong, 2, []int64{0}, noLines)
	}
	wrong := stall()
	wrong[3].Key = nil
	checkIndex(t, "a schema that is not right", wrong, db, 0, []int64{0}, noLines)
	checkIndex(t, "no tables", nil, nil, 0, []int64{0}, noLines)
}

func TestIndexOk(t *testing.T) {
	s, db := stall(), dbOf(stallDb)
	cols := []int64{1, 2}
	index, _ := impl.IndexOf(s, db, 0, cols)
	if !impl.IndexOk(s, db, 0, cols, index) || !impl.IndexOk(s, db, 2, []int64{0}, nil) || !impl.IndexOk(s, db, 2, []int64{0}, []impl.Entry{}) {
		t.Error("an index is none")
	}
	wrong := map[string][]impl.Entry{"none": nil, "one more, not right": append(slices.Clone(index), impl.Entry{}), "one ahead": slices.Insert(slices.Clone(index), 0, entry(1, impl.Val{}, num(-9)))}
	for i := range index {
		at := strconv.Itoa(i)
		change := func(what string, change func(e *impl.Entry)) {
			l := roomy(index)
			change(&l[i])
			wrong[what+" at "+at] = l
		}
		wrong["one fewer at "+at] = slices.Delete(slices.Clone(index), i, i+1)
		wrong["one twice at "+at] = slices.Insert(slices.Clone(index), i, index[i])
		wrong["the first ones up to "+at] = index[:i]
		change("another Id", func(e *impl.Entry) { e.Id += 100 })
		change("no Id", func(e *impl.Entry) { e.Id = 0 })
		change("another value", func(e *impl.Entry) { e.Key[1].N++ })
		change("another kind", func(e *impl.Entry) { e.Key[0] = num(0) })
		change("a value more", func(e *impl.Entry) { e.Key = append(e.Key, impl.Val{}) })
		change("a value less", func(e *impl.Entry) { e.Key = e.Key[:1] })
		change("no values", func(e *impl.Entry) { e.Key = nil })
		change("a value that is not right", func(e *impl.Entry) { e.Key[1] = impl.Val{Kind: 7} })
		if i > 0 {
			l := slices.Clone(index)
			l[i], l[i-1] = l[i-1], l[i]
			wrong["out of order at "+at] = l
		}
	}
	for what, l := range wrong {
		if impl.IndexOk(s, db, 0, cols, l) {
			t.Errorf("%s: an index", what)
		}
	}
	for _, other := range [][]int64{{1}, {2, 1}, {1, 0}, {1, 2, 0}, {0}} {
		if impl.IndexOk(s, db, 0, other, index) {
			t.Errorf("by %v: an index", other)
		}
	}
	if impl.IndexOk(s, db, 1, cols, index) || impl.IndexOk(s, db, 2, []int64{0}, index[:1]) {
		t.Error("an index of another table")
	}
}

// full has as many entries, their Keys falling apart in pairs that are alike.
func full(n int) []impl.Entry {
	var l []impl.Entry
	for i := range int64(n) {
		l = append(l, entry(i%2+1, num(i/2), text("a")))
	}
	return l
}

func rightEntries() map[string][]impl.Entry {
	return map[string][]impl.Entry{
		"none": nil, "an empty list": {}, "one": entriesOf("1 null"), "the last Id": entriesOf("1 7; 1000000000 7"), "an Id twice": entriesOf("3 1; 3 2; 3 5"),
		"alike but for the Id": entriesOf("1 'a' 2; 2 'a' 2; 9 'a' 2"), "kinds": entriesOf("9 null 5; 8 -1 5; 7 0 'a'; 6 '' null; 5 'a' -3"), "by the last value": entriesOf("4 1 1 null; 3 1 1 0; 2 1 1 'x'; 1 1 2 null"),
		"widest": {entry(1, nulls(widest)...), entry(2, nulls(widest)...)}, "full": full(2 * impl.MaxRows), "all values": allValues(),
	}
}

// allValues has each right value, the later ones with the lower Ids.
func allValues() []impl.Entry {
	var l []impl.Entry
	for i, v := range rising() {
		l = append(l, entry(int64(100-i), v))
	}
	return l
}

func wrongEntries() map[string][]impl.Entry {
	wrong := map[string][]impl.Entry{
		"too many": full(2*impl.MaxRows + 1), "far too many": full(20 * impl.MaxRows), "two alike": entriesOf("1 5; 1 5"), "Ids out of order": entriesOf("2 5; 1 5"), "values out of order": entriesOf("1 5; 2 4"),
		"kinds out of order": entriesOf("1 'a'; 2 7"), "a null behind": entriesOf("1 -5; 2 null"), "second values out of order": entriesOf("1 5 5; 2 5 4"), "out of order at the end": entriesOf("1 1; 2 2; 4 3; 3 3"),
		"one short Key": entriesOf("1 5 5; 2 6"), "one long Key": entriesOf("1 5; 2 6 6"), "the first one short": entriesOf("1 5; 2 6 6; 3 7 7"), "no Keys": {entry(1)}, "two without Keys": {entry(1), entry(2)}, "the zero value": {{}}, "one without a Key": {entry(1), entry(2, num(1))},
		"too wide": {entry(1, nulls(widest+1)...)}, "Id 0": entriesOf("0 5; 1 6"), "Id -1": entriesOf("1 5; -1 6"), "Id too great": {entry(impl.MaxNum+1, num(5))}, "Ids far off": {entry(math.MaxInt64, num(1))}, "Ids far below": {entry(math.MinInt64, num(1))},
	}
	for i, v := range wrongVals() {
		at := strconv.Itoa(i)
		wrong["value "+at] = []impl.Entry{entry(1, v)}
		wrong["first value "+at] = []impl.Entry{entry(1, v, num(1)), entry(2, num(7), num(1))}
		wrong["value behind "+at] = []impl.Entry{entry(1, num(1), num(1)), entry(2, num(7), v)}
	}
	return wrong
}

// TestRightEntries: those that are right may be gone through, put into and taken out of; others may not.
func TestRightEntries(t *testing.T) {
	for what, l := range rightEntries() {
		ids := impl.Range(l, impl.Val{}, text("\xff\xff\xff"))
		if len(ids) != len(l) {
			t.Errorf("%s: Range is %v", what, ids)
		}
		for _, e := range l {
			if got, ok := impl.IndexDrop(l, e); !ok || len(got) != len(l)-1 {
				t.Errorf("%s: dropping %v is %v, %v", what, e, got, ok)
			}
		}
	}
	for what, l := range wrongEntries() {
		if ids := impl.Range(l, impl.Val{}, text("\xff\xff\xff")); len(ids) != 0 {
			t.Errorf("%s: Range is %v", what, ids)
		}
		for _, e := range append(slices.Clone(l), entry(7, num(7)), entry(7, num(7), num(7))) {
			got, ok := impl.IndexPut(l, e)
			checkEntries(t, what+", put", got, ok, noLines)
			got, ok = impl.IndexDrop(l, e)
			checkEntries(t, what+", dropped", got, ok, noLines)
		}
	}
}

func checkRange(t *testing.T, l []impl.Entry, low impl.Val, high impl.Val, want ...int64) {
	t.Helper()
	if got := impl.Range(l, low, high); !slices.Equal(got, want) {
		t.Errorf("Range of %s from %s to %s is %v, want %v", entriesText(l, true), impl.ValText(low), impl.ValText(high), got, want)
	}
}

func TestRange(t *testing.T) {
	null := impl.Val{}
	l := entriesOf("7 null 'x'; 9 null 'x'; 3 -5 null; 8 0 1; 2 4 'a'; 6 4 'a'; 1 4 'b'; 5 '' null; 4 'a' 1; 10 'b' 1")
	checkRange(t, l, null, text("zzz"), 7, 9, 3, 8, 2, 6, 1, 5, 4, 10)
	checkRange(t, l, null, null, 7, 9)
	checkRange(t, l, num(-impl.MaxNum), num(impl.MaxNum), 3, 8, 2, 6, 1)
	checkRange(t, l, num(4), num(4), 2, 6, 1)
	checkRange(t, l, num(-5), num(4), 3, 8, 2, 6, 1)
	checkRange(t, l, num(-4), num(3), 8)
	checkRange(t, l, num(1), num(3))
	checkRange(t, l, num(5), text(""), 5)
	checkRange(t, l, text(""), text("a"), 5, 4)
	checkRange(t, l, text("a"), text("a"), 4)
	checkRange(t, l, text("a\x00"), text("b"), 10)
	checkRange(t, l, text("c"), text("zzz"))
	checkRange(t, l, null, num(-6), 7, 9)
	// None lies between, when low is behind high.
	checkRange(t, l, num(4), num(-5))
	checkRange(t, l, text("b"), text("a"))
	checkRange(t, l, text(""), null)
	checkRange(t, l, num(0), null)
	checkRange(t, nil, null, text("zzz"))
	checkRange(t, []impl.Entry{}, null, text("zzz"))
	checkRange(t, entriesOf("3 1; 3 2; 3 5; 4 5"), num(2), num(9), 3, 3, 4)
	for _, wrong := range wrongVals() {
		checkRange(t, l, wrong, text("zzz"))
		checkRange(t, l, null, wrong)
		checkRange(t, l, wrong, wrong)
	}
	// Of all values just those between two of them.
	values := rising()
	for low := range values {
		for high := range values {
			var want []int64
			for i := low; i <= high; i++ {
				want = append(want, int64(100-i))
			}
			checkRange(t, allValues(), values[low], values[high], want...)
		}
	}
}

func checkPut(t *testing.T, what string, l string, e impl.Entry, want string) {
	t.Helper()
	got, ok := impl.IndexPut(entriesOf(l), e)
	checkEntries(t, what+", put into "+l, got, ok, want)
	if !ok {
		return
	}
	back, ok := impl.IndexDrop(got, e)
	checkEntries(t, what+", put in and taken out again", back, ok, entriesText(entriesOf(l), true))
	if again, ok := impl.IndexPut(got, e); ok || len(again) != 0 {
		t.Errorf("%s: put into %s twice", what, l)
	}
}

func TestIndexPut(t *testing.T) {
	const l = "3 1 'b'; 5 1 'b'; 2 4 null; 9 'a' 'a'"
	checkPut(t, "the first", l, entry(7, impl.Val{}, text("z")), "7 null 'z'; 3 1 'b'; 5 1 'b'; 2 4 null; 9 'a' 'a'")
	checkPut(t, "the first by Id", l, entry(2, num(1), text("b")), "2 1 'b'; 3 1 'b'; 5 1 'b'; 2 4 null; 9 'a' 'a'")
	checkPut(t, "between by Id", l, entry(4, num(1), text("b")), "3 1 'b'; 4 1 'b'; 5 1 'b'; 2 4 null; 9 'a' 'a'")
	checkPut(t, "behind by Id", l, entry(impl.MaxNum, num(1), text("b")), "3 1 'b'; 5 1 'b'; 1000000000 1 'b'; 2 4 null; 9 'a' 'a'")
	checkPut(t, "between by the second value", l, entry(1, num(1), text("c")), "3 1 'b'; 5 1 'b'; 1 1 'c'; 2 4 null; 9 'a' 'a'")
	checkPut(t, "an Id that is there", l, entry(3, num(4), num(0)), "3 1 'b'; 5 1 'b'; 2 4 null; 3 4 0; 9 'a' 'a'")
	checkPut(t, "the last", l, entry(1, text("a"), text("b")), "3 1 'b'; 5 1 'b'; 2 4 null; 9 'a' 'a'; 1 'a' 'b'")
	checkPut(t, "the last by Id", l, entry(10, text("a"), text("a")), "3 1 'b'; 5 1 'b'; 2 4 null; 9 'a' 'a'; 10 'a' 'a'")
	checkPut(t, "the only one", "", entry(1, text("a"), text("b")), "1 'a' 'b'")
	checkPut(t, "the only one, widest", "", entry(impl.MaxNum, nulls(widest)...), entriesText([]impl.Entry{entry(impl.MaxNum, nulls(widest)...)}, true))
	for _, e := range entriesOf(l) {
		checkPut(t, "one that is there", l, e, noLines)
	}
	for i, e := range []impl.Entry{
		{}, entry(1), entry(1, num(1)), entry(7, num(1), num(1), num(1)), entry(0, num(2), num(2)), entry(-1, num(2), num(2)), entry(impl.MaxNum+1, num(2), num(2)),
		entry(math.MaxInt64, num(2), num(2)), entry(math.MinInt64, num(2), num(2)), entry(7, nulls(widest+1)...), entry(7, nulls(100000)...), entry(3, num(1)), entry(3, num(1), text("b"), impl.Val{}),
	} {
		checkPut(t, fmt.Sprint("one that is not right, ", i), l, e, noLines)
	}
	for i, e := range []impl.Entry{{}, entry(1), entry(0, num(1)), entry(impl.MaxNum+1, num(1)), entry(1, nulls(widest+1)...)} {
		checkPut(t, fmt.Sprint("one that is not right, into none, ", i), "", e, noLines)
	}
	for _, v := range wrongVals() {
		for _, id := range []int64{1, 3, 7, 9} {
			checkPut(t, fmt.Sprintf("%#v", v), l, entry(id, v, text("b")), noLines)
			checkPut(t, fmt.Sprintf("%#v", v), l, entry(id, num(1), v), noLines)
			checkPut(t, fmt.Sprintf("%#v", v), "", entry(id, v), noLines)
		}
	}
}

func TestIndexDrop(t *testing.T) {
	const l = "3 1 'b'; 5 1 'b'; 2 4 null; 9 'a' 'a'"
	check := func(what string, l string, e impl.Entry, want string) {
		t.Helper()
		got, ok := impl.IndexDrop(entriesOf(l), e)
		checkEntries(t, what+", taken out of "+l, got, ok, want)
	}
	check("the first", l, entry(3, num(1), text("b")), "5 1 'b'; 2 4 null; 9 'a' 'a'")
	check("the second", l, entry(5, num(1), text("b")), "3 1 'b'; 2 4 null; 9 'a' 'a'")
	check("the third", l, entry(2, num(4), impl.Val{}), "3 1 'b'; 5 1 'b'; 9 'a' 'a'")
	check("the last", l, entry(9, text("a"), text("a")), "3 1 'b'; 5 1 'b'; 2 4 null")
	check("the only one", "7 null", entry(7, impl.Val{}), "")
	for i, e := range []impl.Entry{
		{}, entry(3), entry(3, num(1)), entry(3, num(1), text("b"), impl.Val{}), entry(4, num(1), text("b")), entry(9, num(1), text("b")), entry(3, num(1), text("a")), entry(3, num(1), text("")), entry(2, impl.Val{}, num(4)), entry(2, num(4), num(0)),
		entry(3, num(4), impl.Val{}), entry(0, num(1), text("b")), entry(-3, num(1), text("b")), entry(impl.MaxNum+1, num(1), text("b")), entry(9, text("a"), text("b")), entry(1, impl.Val{}, impl.Val{}), entry(impl.MaxNum, text("z"), text("z")), entry(3, nulls(widest+1)...),
	} {
		check(fmt.Sprint("one that is not there, ", i), l, e, noLines)
		check(fmt.Sprint("of none, ", i), "", e, noLines)
	}
	for _, v := range wrongVals() {
		for _, id := range []int64{2, 3, 5, 9} {
			check(fmt.Sprintf("%#v", v), l, entry(id, v, text("b")), noLines)
			check(fmt.Sprintf("%#v", v), l, entry(id, num(1), v), noLines)
			check(fmt.Sprintf("%#v", v), l, entry(id, v, v), noLines)
			check(fmt.Sprintf("%#v", v), strconv.FormatInt(id, 10)+" 7", entry(id, v), noLines)
		}
	}
}

// TestIndexesAtTheMostEntries puts entries at the first, the last and each other place, up to the most and one more.
func TestIndexesAtTheMostEntries(t *testing.T) {
	const most = 2 * impl.MaxRows
	for i, e := range full(most) {
		fewer := slices.Delete(full(most), i, i+1)
		got, ok := impl.IndexPut(fewer, e)
		checkEntries(t, fmt.Sprint("put at ", i), got, ok, entriesText(full(most), true))
		got, ok = impl.IndexDrop(full(most), e)
		checkEntries(t, fmt.Sprint("dropped at ", i), got, ok, entriesText(fewer, true))
		e.Id = 7
		got, ok = impl.IndexPut(full(most), e)
		checkEntries(t, fmt.Sprint("one too many at ", i), got, ok, noLines)
	}
	for n := most - 1; n <= most+1; n++ {
		if ids := impl.Range(full(n), num(0), num(0)); (len(ids) == 2) != (n <= most) {
			t.Errorf("Range of %d entries is %v", n, ids)
		}
	}
}

// someEntry is often one that is there, and seldom right for all lists.
func (d *dice) someEntry(l []impl.Entry) impl.Entry {
	if n := len(l); n > 0 && d.below(2) == 0 {
		return roomy(l[d.below(n)])
	}
	e := entry(int64(d.below(4)), oneOf(d, valsOf("1 2 null 'a' ''")), oneOf(d, valsOf("1 null 'b'")))
	if d.below(12) == 0 {
		e.Key = e.Key[:1]
	}
	return e
}

// TestIndexesAgainstAList keeps the same entries in a list without order.
func TestIndexesAgainstAList(t *testing.T) {
	d := dice(43)
	met := map[string]int{}
	var l, bag []impl.Entry
	isIt := func(e impl.Entry) func(impl.Entry) bool {
		return func(x impl.Entry) bool { return x.Id == e.Id && slices.Equal(x.Key, e.Key) }
	}
	for i := range 20000 {
		e := d.someEntry(bag)
		there := slices.ContainsFunc(bag, isIt(e))
		var got []impl.Entry
		var ok, want bool
		if d.below(2) == 0 {
			want = !there && e.Id > 0 && (len(bag) == 0 || len(e.Key) == len(bag[0].Key))
			if got, ok = impl.IndexPut(l, e); ok {
				bag = append(bag, e)
			}
			met[fmt.Sprint("put ", ok)]++
		} else {
			want = there
			if got, ok = impl.IndexDrop(l, e); ok {
				bag = slices.DeleteFunc(bag, isIt(e))
			}
			met[fmt.Sprint("dropped ", ok)]++
		}
		if ok {
			l = got
		}
		if ok != want || !isSortedBag(l, bag) {
			t.Fatalf("step %d: %v of %v: %v; %s", i, ok, e, want, entriesText(l, true))
		}
	}
	for what, n := range met {
		if n < 1000 {
			t.Errorf("%s: met %d times", what, n)
		}
	}
}

// isSortedBag is whether l has what bag has, in order.
func isSortedBag(l []impl.Entry, bag []impl.Entry) bool {
	want := slices.Clone(bag)
	slices.SortFunc(want, func(a impl.Entry, b impl.Entry) int {
		switch {
		case isAhead(a.Key, b.Key):
			return -1
		case isAhead(b.Key, a.Key):
			return 1
		}
		return int(a.Id - b.Id)
	})
	return entriesText(l, true) == entriesText(want, true)
}

// TestIndexesGoWithTheirTables: what is put into a table and its index, or taken out of both, leaves the one that of the other.
func TestIndexesGoWithTheirTables(t *testing.T) {
	d := dice(47)
	s := stall()
	for i := range 500 {
		db := d.stallDb()
		cols := oneOf(&d, [][]int64{{0}, {1}, {2}, {1, 2}, {2, 0, 1}})
		l, ok := impl.IndexOf(s, db, 0, cols)
		if !ok || len(l) != len(db[0].Rows) {
			t.Fatalf("%d: %s", i, entriesText(l, ok))
		}
		for _, r := range db[0].Rows {
			key, _ := impl.KeyOf(cols, r.Vals)
			fewer := cloned(db)
			fewer[0].Rows = slices.DeleteFunc(fewer[0].Rows, func(x impl.Row) bool { return x.Id == r.Id })
			without, ok := impl.IndexDrop(l, entry(r.Id, key...))
			if !ok || !impl.IndexOk(s, fewer, 0, cols, without) || impl.IndexOk(s, db, 0, cols, without) {
				t.Fatalf("%d: without %d %s", i, r.Id, entriesText(without, ok))
			}
			with, ok := impl.IndexPut(without, entry(r.Id, key...))
			if !ok || !impl.IndexOk(s, db, 0, cols, with) || impl.IndexOk(s, fewer, 0, cols, with) {
				t.Fatalf("%d: with %d %s", i, r.Id, entriesText(with, ok))
			}
		}
		// The rows stand as in lines that are by the same columns.
		q := selecting(t, "p", "", cols, impl.MaxRows, "#0", "#1", "#2")
		lines, _ := impl.RunSelect(s, db, q)
		for k, e := range l {
			if key, _ := impl.KeyOf(cols, lines[k].Vals); !slices.Equal(key, e.Key) {
				t.Fatalf("%d: line %d is %v, entry %v", i, k, lines[k], e)
			}
		}
	}
}
