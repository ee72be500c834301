package tests

import (
	"fmt"
	"math"
	"slices"
	"strings"
	"testing"

	"loop.example/g00570/impl"
)

// filesOf reads files by name, as in "a:xy b:", where b is empty.
func filesOf(s string) []impl.File {
	var l []impl.File
	for _, word := range strings.Fields(s) {
		name, data, _ := strings.Cut(word, ":")
		l = append(l, impl.File{Name: name, Data: data})
	}
	return l
}

func appends(name string, data string) impl.DOp {
	return impl.DOp{Kind: impl.DkAppend, Name: name, Data: data}
}

func renames(name string, to string) impl.DOp {
	return impl.DOp{Kind: impl.DkRename, Name: name, To: to}
}

func removes(name string) impl.DOp { return impl.DOp{Kind: impl.DkRemove, Name: name} }

// opsOf reads ops: a+xy, a>b and -a.
func opsOf(s string) []impl.DOp {
	var l []impl.DOp
	for _, word := range strings.Fields(s) {
		if name, ok := strings.CutPrefix(word, "-"); ok {
			l = append(l, removes(name))
		} else if name, to, ok := strings.Cut(word, ">"); ok {
			l = append(l, renames(name, to))
		} else {
			name, data, _ := strings.Cut(word, "+")
			l = append(l, appends(name, data))
		}
	}
	return l
}

// opDone is what the chapter says of an op, told here once more: the files with it done, and what it is refused for, as far as files tell.
func opDone(l []impl.File, op impl.DOp) ([]impl.File, int64) {
	wrong := func(name string) bool { return len(name) < 1 || len(name) > 100 }
	rename, put := op.Kind == impl.DkRename, op.Kind == impl.DkAppend
	if op.Kind < 1 || op.Kind > 3 || wrong(op.Name) || rename && wrong(op.To) || !rename && op.To != "" || !put && op.Data != "" {
		return nil, impl.DkForm
	}
	l = slices.Clone(l)
	at := func(name string) int { return slices.IndexFunc(l, func(f impl.File) bool { return f.Name == name }) }
	i := at(op.Name)
	switch {
	case i < 0 && !put:
		return l, impl.DkNone
	case i < 0:
		l = append(l, impl.File{Name: op.Name, Data: op.Data})
	case put:
		l[i].Data += op.Data
	case !rename:
		l = slices.Delete(l, i, i+1)
	case op.Name != op.To:
		if k := at(op.To); k >= 0 {
			l[k].Name = ""
		}
		l[i].Name = op.To
		l = slices.DeleteFunc(l, func(f impl.File) bool { return f.Name == "" })
	}
	slices.SortFunc(l, func(a impl.File, b impl.File) int { return strings.Compare(a.Name, b.Name) })
	if !roomFor(l) {
		return l, impl.DkFull
	}
	return l, impl.DkOk
}

func roomFor(l []impl.File) bool {
	n := 0
	for _, f := range l {
		n += len(f.Data)
	}
	return len(l) <= 60 && n <= 200000
}

// crashed is what the chapter says of the files that are left, there being room for them or not.
func crashed(d impl.Disk, keep []int64, torn int64) []impl.File {
	l := d.Safe
	for i, place := range keep {
		op := d.Ops[place]
		if i == len(keep)-1 && op.Kind == impl.DkAppend && torn < int64(len(op.Data)) {
			op.Data = op.Data[:torn]
		}
		l, _ = opDone(l, op)
	}
	return l
}

// diskWith is a right disk: safe files, and ops that were done since.
func diskWith(t *testing.T, safe []impl.File, ops []impl.DOp) impl.Disk {
	t.Helper()
	d := impl.Disk{Live: safe, Safe: safe, Ops: ops}
	for i, op := range ops {
		l, code := opDone(d.Live, op)
		if code != impl.DkOk {
			t.Fatalf("op %d can not be done: %d", i, code)
		}
		d.Live = l
	}
	return d
}

func diskOf(t *testing.T, safe string, ops string) impl.Disk {
	t.Helper()
	return diskWith(t, filesOf(safe), opsOf(ops))
}

// diskText is short, as a disk may be large.
func diskText(d impl.Disk) string {
	var out strings.Builder
	for _, l := range [][]impl.File{d.Live, d.Safe} {
		for _, f := range l {
			fmt.Fprintf(&out, "%.20q:%d:%.60q ", f.Name, len(f.Data), f.Data)
		}
		out.WriteString("| ")
	}
	for _, op := range d.Ops {
		fmt.Fprintf(&out, "%d:%.20q:%.20q:%d:%.60q ", op.Kind, op.Name, op.To, len(op.Data), op.Data)
	}
	return fmt.Sprintf("%.1500s", out.String())
}

func isNoDisk(d impl.Disk) bool { return same(d, impl.Disk{}) }

// sameDisk holds a disk that was answered against what it should be.
func sameDisk(t *testing.T, what string, got impl.Disk, want impl.Disk) {
	t.Helper()
	if !same(got, want) {
		t.Errorf("%s: the disk is\n%s, want\n%s", what, diskText(got), diskText(want))
	}
	if !impl.DiskOk(got) {
		t.Errorf("%s: the disk is not right:\n%s", what, diskText(got))
	}
}

// checkDo wants the disk as it is when the op is refused.
func checkDo(t *testing.T, what string, d impl.Disk, op impl.DOp, wantCode int64, want []impl.File) {
	t.Helper()
	got, code := impl.Do(d, op)
	if code != wantCode {
		t.Errorf("%s: code %d, want %d", what, code, wantCode)
	}
	if wantCode == impl.DkOk {
		d = impl.Disk{Live: want, Safe: d.Safe, Ops: append(slices.Clone(d.Ops), op)}
	}
	sameDisk(t, what, got, d)
}

// checkNoDisk asks all there is to ask of a disk that is not right.
func checkNoDisk(t *testing.T, what string, d impl.Disk) {
	t.Helper()
	if impl.DiskOk(d) {
		t.Errorf("%s: the disk is right: %s", what, diskText(d))
	}
	for _, op := range []impl.DOp{appends("a", "x"), renames("a", "b"), removes("a"), {}} {
		if got, code := impl.Do(d, op); code != impl.DkDisk || !isNoDisk(got) {
			t.Errorf("%s: do is %d, %s", what, code, diskText(got))
		}
	}
	if got := impl.Sync(d); !isNoDisk(got) {
		t.Errorf("%s: sync is %s", what, diskText(got))
	}
	for _, keep := range [][]int64{nil, {0}, {-1}} {
		if got, ok := impl.Crash(d, keep, 0); ok || !isNoDisk(got) {
			t.Errorf("%s: crash is %s", what, diskText(got))
		}
	}
	for _, name := range []string{"a", "b", ""} {
		if data, ok := impl.ReadFile(d, name); ok || data != "" {
			t.Errorf("%s: %q has %q", what, name, data)
		}
		if got, code := impl.Replace(d, name, "x"); code != impl.DkDisk || !isNoDisk(got) {
			t.Errorf("%s: replace is %d, %s", what, code, diskText(got))
		}
	}
}

// rightFileNames rise.
func rightFileNames() []string {
	return []string{"\x00", "\n", " ", "/", "A", "a", "a\x00", "a b", "aa", strings.Repeat("a", 99) + "b", "base", strings.Repeat("b", 99), strings.Repeat("b", 100), "\u00e9", "\xff", "\xff\xff"}
}

func wrongFileNames() []string {
	return []string{"", strings.Repeat("a", 101), strings.Repeat("\x00", 101), strings.Repeat("\u00e9", 51), strings.Repeat("a", 1000)}
}

// manyFiles has as many files, of as many bytes each.
func manyFiles(n int, size int) []impl.File {
	var l []impl.File
	for i := range n {
		l = append(l, impl.File{Name: fmt.Sprintf("f%02d", i), Data: strings.Repeat("d", size)})
	}
	return l
}

func bytesOf(n int) string { return strings.Repeat("x", n) }

// TestNumbersOfDisks has those that the chapter names.
func TestNumbersOfDisks(t *testing.T) {
	if got := []int64{impl.DkAppend, impl.DkRename, impl.DkRemove}; !slices.Equal(got, []int64{1, 2, 3}) {
		t.Error("kinds:", got)
	}
	if got := []int64{impl.DkOk, impl.DkDisk, impl.DkForm, impl.DkNone, impl.DkFull}; !slices.Equal(got, []int64{0, 1, 2, 3, 4}) {
		t.Error("codes:", got)
	}
	if got := []int64{impl.MaxFiles, impl.MaxBytes, impl.MaxOps}; !slices.Equal(got, []int64{60, 200000, 200}) {
		t.Error("limits:", got)
	}
}

func TestDisksThatAreRight(t *testing.T) {
	for _, d := range []impl.Disk{
		{}, diskOf(t, "a:", ""), diskOf(t, "a:1 b:2", ""), diskOf(t, "", "a+"), diskOf(t, "", "a+ a+ a+x"), diskOf(t, "a:1 b:2", "a+x b>a a>c c+y c>c -c d+"),
		diskOf(t, "a:1 b:2", "-a -b"), diskOf(t, "a:1", "-a a+1"), diskOf(t, "", "a+1 a>b b>a -a"), diskOf(t, "a:1", "a>b b>a"),
		// There may be ops though both lists are the same.
		{Live: filesOf("a:1"), Safe: filesOf("a:1"), Ops: opsOf("a+")},
		{Live: filesOf("a:1"), Safe: filesOf("a:1"), Ops: opsOf("a>a a+ a>a")},
	} {
		if !impl.DiskOk(d) {
			t.Errorf("not right: %s", diskText(d))
		}
	}
	for _, wrong := range []impl.Disk{
		{Live: filesOf("a:1")}, {Safe: filesOf("a:1")}, {Live: filesOf("a:1"), Safe: filesOf("a:2")}, {Live: filesOf("a:1"), Safe: filesOf("b:1")}, {Live: filesOf("a: b:"), Safe: filesOf("a:")}, {Live: filesOf("a:"), Safe: filesOf("a: b:")},
		{Live: filesOf("a:x"), Ops: opsOf("a+y")}, {Live: filesOf("a:x b:"), Ops: opsOf("a+x")}, {Live: filesOf(""), Ops: opsOf("a+")}, {Live: filesOf("a:yx"), Ops: opsOf("a+x a+y")}, {Live: filesOf("a:x"), Ops: opsOf("a+x a+y")},
		{Live: filesOf("b:1"), Safe: filesOf("a:1"), Ops: opsOf("a>c")}, {Live: filesOf("a:1 b:1"), Safe: filesOf("a:1"), Ops: opsOf("a>b")}, {Live: filesOf("a:1"), Safe: filesOf("a:1"), Ops: opsOf("-a")}, {Live: filesOf("b:2"), Safe: filesOf("a:1 b:2"), Ops: opsOf("a>b")},
		{Live: filesOf(""), Safe: filesOf("a:1"), Ops: opsOf("a>a")},
		// They find no file, though what comes of them is so.
		{Safe: nil, Ops: opsOf("-a")}, {Ops: opsOf("a>b")}, {Ops: opsOf("a>a")}, {Live: filesOf("a:1"), Safe: filesOf("a:1"), Ops: opsOf("b>a")}, {Live: filesOf("a:1"), Safe: filesOf("a:1"), Ops: opsOf("-b")}, {Live: filesOf("a:"), Ops: opsOf("-a a+")},
		{Live: filesOf("b:1"), Safe: filesOf("a:1"), Ops: opsOf("a>b a>b")}, {Safe: filesOf("a:1"), Ops: opsOf("-a -a")}, {Safe: filesOf("a:1 b:1"), Ops: opsOf("a>b -b -a")},
	} {
		checkNoDisk(t, "a disk that its ops do not make", wrong)
	}
}

// TestNamesOfFiles has each as the only file of a disk, and as one that an op is about.
func TestNamesOfFiles(t *testing.T) {
	for _, name := range rightFileNames() {
		what := fmt.Sprintf("%.10q of %d bytes", name, len(name))
		l := []impl.File{{Name: name, Data: "1"}}
		checkDo(t, what+" is put in", impl.Disk{}, appends(name, "1"), impl.DkOk, l)
		d := diskWith(t, l, nil)
		checkDo(t, what+" is added to", d, appends(name, "2"), impl.DkOk, []impl.File{{Name: name, Data: "12"}})
		checkDo(t, what+" is renamed", d, renames(name, "x"), impl.DkOk, filesOf("x:1"))
		checkDo(t, what+" is the new name", diskOf(t, "x:1", ""), renames("x", name), impl.DkOk, l)
		checkDo(t, what+" is removed", d, removes(name), impl.DkOk, nil)
		if data, ok := impl.ReadFile(d, name); !ok || data != "1" {
			t.Errorf("%s: %q, %v", what, data, ok)
		}
	}
	for _, name := range wrongFileNames() {
		what := fmt.Sprintf("%.10q of %d bytes", name, len(name))
		l := []impl.File{{Name: name, Data: "1"}}
		checkNoDisk(t, what, impl.Disk{Live: l, Safe: l})
		checkNoDisk(t, what+", safe", impl.Disk{Safe: l, Ops: []impl.DOp{removes(name)}})
		checkNoDisk(t, what+", safe and renamed", impl.Disk{Live: filesOf("x:1"), Safe: l, Ops: []impl.DOp{renames(name, "x")}})
		checkNoDisk(t, what+", seen", impl.Disk{Live: l, Ops: []impl.DOp{appends(name, "1")}})
		checkNoDisk(t, what+", on the way", impl.Disk{Ops: []impl.DOp{appends(name, "1"), removes(name)}})
		checkNoDisk(t, what+", a name on the way", impl.Disk{Live: filesOf("x:1"), Safe: filesOf("x:1"), Ops: []impl.DOp{renames("x", name), renames(name, "x")}})
		for _, d := range []impl.Disk{{}, diskOf(t, "a:1 x:2", "x+3")} {
			checkDo(t, what+" is put in", d, appends(name, "1"), impl.DkForm, nil)
			checkDo(t, what+" is renamed", d, renames(name, "x"), impl.DkForm, nil)
			checkDo(t, what+" is the new name", d, renames("x", name), impl.DkForm, nil)
			checkDo(t, what+" is the new name of none", d, renames("y", name), impl.DkForm, nil)
			checkDo(t, what+" is removed", d, removes(name), impl.DkForm, nil)
			if data, ok := impl.ReadFile(d, name); ok || data != "" {
				t.Errorf("%s: %q, %v", what, data, ok)
			}
		}
	}
}

func TestNamesThatRise(t *testing.T) {
	names := rightFileNames()
	var l []impl.File
	for _, name := range names {
		l = append(l, impl.File{Name: name, Data: name[:1]})
	}
	if !impl.DiskOk(impl.Disk{Live: l, Safe: l}) {
		t.Error("all right names do not rise")
	}
	// They are put in from the last one to the first.
	var d impl.Disk
	for i := range l {
		d, _ = impl.Do(d, appends(l[len(l)-1-i].Name, l[len(l)-1-i].Data))
	}
	if !slices.Equal(d.Live, l) {
		t.Errorf("in order: %s", diskText(d))
	}
	for i := range l {
		for k := range i + 1 {
			wrong := slices.Clone(l)
			if wrong[i], wrong[k] = wrong[k], wrong[i]; i == k {
				wrong = slices.Insert(wrong, i, l[i])
			}
			checkNoDisk(t, fmt.Sprint(i, " and ", k), impl.Disk{Live: wrong, Safe: wrong})
			checkNoDisk(t, fmt.Sprint(i, " and ", k, ", safe"), impl.Disk{Live: l, Safe: wrong})
			checkNoDisk(t, fmt.Sprint(i, " and ", k, ", seen"), impl.Disk{Live: wrong, Safe: l})
		}
	}
	// Files of one name are not alike when their Data are not.
	checkNoDisk(t, "one name twice", impl.Disk{Live: filesOf("a:1 a:2"), Safe: filesOf("a:1 a:2")})
	checkNoDisk(t, "one name twice, the last one is seen", impl.Disk{Live: filesOf("a:2"), Safe: filesOf("a:1 a:2")})
	checkNoDisk(t, "one name twice, then none", impl.Disk{Safe: filesOf("a:1 a:1"), Ops: opsOf("-a")})
}

func TestDo(t *testing.T) {
	d := diskOf(t, "a:1 c:3", "b+2")
	for op, want := range map[string]string{
		"b+x": "a:1 b:2x c:3", "a+xyz": "a:1xyz b:2 c:3", "d+x": "a:1 b:2 c:3 d:x", "A+": "A: a:1 b:2 c:3", "a+": "a:1 b:2 c:3", "aa+": "a:1 aa: b:2 c:3",
		"a>b": "b:1 c:3", "b>a": "a:2 c:3", "c>a": "a:3 b:2", "a>c": "b:2 c:1", "a>a": "a:1 b:2 c:3", "c>c": "a:1 b:2 c:3", "a>z": "b:2 c:3 z:1", "c>A": "A:3 a:1 b:2", "-a": "b:2 c:3", "-b": "a:1 c:3", "-c": "a:1 b:2",
	} {
		checkDo(t, op, d, opsOf(op)[0], impl.DkOk, filesOf(want))
	}
	for _, op := range []string{"-d", "-A", "-aa", "d>a", "d>d", "d>e", "A>a"} {
		checkDo(t, op, d, opsOf(op)[0], impl.DkNone, nil)
		checkDo(t, op+" without files", impl.Disk{}, opsOf(op)[0], impl.DkNone, nil)
	}
	// What was seen and is not any more.
	gone := diskOf(t, "a:1 b:2", "-a b>c")
	for _, op := range []string{"-a", "-b", "a>c", "b>c", "b>b", "a>a"} {
		checkDo(t, op+", gone", gone, opsOf(op)[0], impl.DkNone, nil)
	}
	checkDo(t, "a file that is gone is put in again", gone, appends("a", "x"), impl.DkOk, filesOf("a:x c:2"))
	checkDo(t, "any bytes", impl.Disk{}, appends("a", "\x00\xff \n:"), impl.DkOk, []impl.File{{Name: "a", Data: "\x00\xff \n:"}})
	checkDo(t, "any bytes behind others", diskOf(t, "a:1", ""), appends("a", "\x00\xff"), impl.DkOk, []impl.File{{Name: "a", Data: "1\x00\xff"}})
}

func TestFormOfOps(t *testing.T) {
	d := diskOf(t, "a:1 b:2", "")
	for _, op := range []impl.DOp{
		{}, {Name: "a"}, {Kind: 4, Name: "a"}, {Kind: -1, Name: "a"}, {Kind: 4, Name: "a", To: "b"}, {Kind: 4, Name: "a", Data: "x"}, {Kind: math.MaxInt64, Name: "a"}, {Kind: math.MinInt64, Name: "a"}, {Kind: 1<<32 + 1, Name: "a"},
		{Kind: impl.DkAppend}, {Kind: impl.DkAppend, Name: "a", To: "b"}, {Kind: impl.DkAppend, Name: "a", To: "a", Data: "x"}, {Kind: impl.DkAppend, To: "b", Data: "x"}, {Kind: impl.DkAppend, Name: "a", To: bytesOf(101)},
		{Kind: impl.DkRename}, {Kind: impl.DkRename, Name: "a"}, {Kind: impl.DkRename, To: "a"}, {Kind: impl.DkRename, Name: "a", To: "b", Data: "x"}, {Kind: impl.DkRename, Name: "a", To: "a", Data: "1"}, {Kind: impl.DkRename, Name: "x", To: "b", Data: "x"},
		{Kind: impl.DkRemove}, {Kind: impl.DkRemove, Name: "a", To: "b"}, {Kind: impl.DkRemove, Name: "a", To: "a"}, {Kind: impl.DkRemove, Name: "a", Data: "1"}, {Kind: impl.DkRemove, Name: "x", Data: "1"}, {Kind: impl.DkRemove, Name: "x", To: "y"},
	} {
		checkDo(t, fmt.Sprintf("%.60q", fmt.Sprint(op)), d, op, impl.DkForm, nil)
		// Whatever it might have made.
		for _, live := range []string{"a:1 b:2", "b:2", "a:1", "b:1", "a:1x b:2", "a:1 b:2 x:", "a:11 b:2", ""} {
			checkNoDisk(t, fmt.Sprintf("%.60q is one of its ops", fmt.Sprint(op)), impl.Disk{Live: filesOf(live), Safe: filesOf("a:1 b:2"), Ops: []impl.DOp{op}})
		}
	}
}

func TestMostFiles(t *testing.T) {
	l := manyFiles(impl.MaxFiles, 1)
	if !impl.DiskOk(impl.Disk{Live: l, Safe: l}) {
		t.Error("as many files as there may be")
	}
	long := manyFiles(impl.MaxFiles+1, 1)
	checkNoDisk(t, "one more", impl.Disk{Live: long, Safe: long})
	checkNoDisk(t, "one more, put in", impl.Disk{Live: long, Safe: l, Ops: opsOf("f60+d")})
	checkNoDisk(t, "one more, taken out", impl.Disk{Live: l, Safe: long, Ops: opsOf("-f60")})
	checkNoDisk(t, "one more on the way", impl.Disk{Live: l, Safe: l, Ops: opsOf("z+ -z")})
	checkNoDisk(t, "one more on the way, renamed onto another", impl.Disk{Live: append(filesOf("f00:"), l[1:]...), Safe: l, Ops: opsOf("z+ z>f00")})
	checkNoDisk(t, "very many", impl.Disk{Live: manyFiles(100, 1), Safe: manyFiles(100, 1)})
	almost := diskWith(t, l[:impl.MaxFiles-1], nil)
	checkDo(t, "the last one", almost, appends("f59", "d"), impl.DkOk, l)
	checkDo(t, "the last one, empty", almost, appends("f59", ""), impl.DkOk, append(slices.Clone(l[:59]), filesOf("f59:")...))
	for _, d := range []impl.Disk{diskWith(t, l, nil), diskWith(t, l[:59], opsOf("f59+d")), diskWith(t, l[1:], opsOf("f00+d"))} {
		checkDo(t, "one more", d, appends("z", "x"), impl.DkFull, nil)
		checkDo(t, "one more, empty", d, appends("z", ""), impl.DkFull, nil)
		checkDo(t, "one more ahead", d, appends("a", ""), impl.DkFull, nil)
		checkDo(t, "the first one is added to", d, appends("f00", "x"), impl.DkOk, append(filesOf("f00:dx"), l[1:]...))
		checkDo(t, "another name", d, renames("f59", "z"), impl.DkOk, append(slices.Clone(l[:59]), filesOf("z:d")...))
		checkDo(t, "another's name", d, renames("f59", "f00"), impl.DkOk, l[:59])
		checkDo(t, "its own name", d, renames("f59", "f59"), impl.DkOk, l)
		checkDo(t, "one less", d, removes("f00"), impl.DkOk, l[1:])
		d, _ = impl.Do(d, removes("f00"))
		checkDo(t, "one less, one more", d, appends("z", "x"), impl.DkOk, append(slices.Clone(l[1:]), filesOf("z:x")...))
	}
}

func TestMostBytes(t *testing.T) {
	const most = impl.MaxBytes
	one := func(n int) []impl.File { return []impl.File{{Name: "a", Data: bytesOf(n)}} }
	two := func(n int, m int) []impl.File { return append(one(n), impl.File{Name: "b", Data: bytesOf(m)}) }
	for _, l := range [][]impl.File{one(most), two(most, 0), two(0, most), two(most-1, 1), two(most/2, most/2), manyFiles(50, most/50), manyFiles(60, most/60)} {
		d := diskWith(t, l, nil)
		if !impl.DiskOk(d) {
			t.Error("as many bytes as there may be:", diskText(d))
		}
		l = slices.Clone(l)
		l[0].Data += bytesOf(most%60 + 1)
		checkNoDisk(t, "too many bytes", impl.Disk{Live: l, Safe: l})
	}
	checkNoDisk(t, "one more byte", impl.Disk{Live: one(most + 1), Safe: one(most + 1)})
	checkNoDisk(t, "one more byte in two files", impl.Disk{Live: two(most, 1), Safe: two(most, 1)})
	checkNoDisk(t, "one more byte in the first of two", impl.Disk{Live: two(most+1, 0), Safe: two(most+1, 0)})
	checkNoDisk(t, "one more byte, taken out", impl.Disk{Safe: one(most + 1), Ops: opsOf("-a")})
	checkNoDisk(t, "one more byte, put in", impl.Disk{Live: one(most + 1), Ops: []impl.DOp{appends("a", bytesOf(most+1))}})
	checkNoDisk(t, "one more byte on the way", impl.Disk{Live: one(most), Safe: one(most), Ops: opsOf("b+x -b")})
	checkNoDisk(t, "one more byte on the way, in the same file", impl.Disk{Live: two(0, 1), Safe: two(most, 1), Ops: opsOf("a+x -a a+")})
	checkNoDisk(t, "one more byte on the way, then renamed onto another", impl.Disk{Live: one(1), Safe: one(most), Ops: opsOf("b+x b>a")})
	if !impl.DiskOk(diskWith(t, two(most-1, 1), append(opsOf("-b b+x -a"), appends("a", bytesOf(most-1)), renames("b", "a")))) {
		t.Error("as many bytes on the way as there may be")
	}
	checkDo(t, "by one op", impl.Disk{}, appends("a", bytesOf(most)), impl.DkOk, one(most))
	checkDo(t, "by one op, one more", impl.Disk{}, appends("a", bytesOf(most+1)), impl.DkFull, nil)
	checkDo(t, "by one op, very many", impl.Disk{}, appends("a", bytesOf(10*most)), impl.DkFull, nil)
	for _, d := range []impl.Disk{diskWith(t, one(most-5), nil), diskWith(t, nil, []impl.DOp{appends("a", bytesOf(most-7)), appends("a", "xx")}), diskWith(t, one(most), append(opsOf("-a"), appends("a", bytesOf(most-5))))} {
		checkDo(t, "the rest", d, appends("a", bytesOf(5)), impl.DkOk, one(most))
		checkDo(t, "the rest in another file", d, appends("b", bytesOf(5)), impl.DkOk, two(most-5, 5))
		checkDo(t, "one more than the rest", d, appends("a", bytesOf(6)), impl.DkFull, nil)
		checkDo(t, "one more than the rest in another file", d, appends("b", bytesOf(6)), impl.DkFull, nil)
	}
	full := diskWith(t, two(most-1, 1), nil)
	checkDo(t, "nothing more", full, appends("a", ""), impl.DkOk, full.Live)
	checkDo(t, "nothing more, in another file", full, appends("c", ""), impl.DkOk, append(two(most-1, 1), filesOf("c:")...))
	checkDo(t, "one more byte", full, appends("b", "x"), impl.DkFull, nil)
	checkDo(t, "another name", full, renames("a", "b"), impl.DkOk, []impl.File{{Name: "b", Data: bytesOf(most - 1)}})
	less, _ := impl.Do(full, removes("b"))
	checkDo(t, "one byte less, one more", less, appends("c", "x"), impl.DkOk, append(one(most-1), filesOf("c:x")...))
}

func TestMostOps(t *testing.T) {
	for _, op := range []string{"a+", "a+x", "a>a"} {
		d := diskWith(t, filesOf("a:"), slices.Repeat(opsOf(op), impl.MaxOps))
		if !impl.DiskOk(d) {
			t.Errorf("%s: as many ops as there may be", op)
		}
		long := diskWith(t, d.Safe, slices.Repeat(opsOf(op), impl.MaxOps+1))
		checkNoDisk(t, op+": one more op", long)
		checkNoDisk(t, op+": very many ops", diskWith(t, d.Safe, slices.Repeat(opsOf(op), 1000)))
		for _, more := range []string{"a+", "a+x", "b+", "a>b", "a>a", "-a"} {
			checkDo(t, op+": one more op: "+more, d, opsOf(more)[0], impl.DkFull, nil)
			synced := impl.Sync(d)
			l, _ := opDone(synced.Live, opsOf(more)[0])
			checkDo(t, op+": behind a sync: "+more, synced, opsOf(more)[0], impl.DkOk, l)
		}
		last := diskWith(t, d.Safe, d.Ops[:impl.MaxOps-1])
		checkDo(t, op+": the last op", last, d.Ops[0], impl.DkOk, d.Live)
	}
	// Back and forth, so that nothing is left.
	d := diskWith(t, nil, slices.Repeat(opsOf("a+x -a"), impl.MaxOps/2))
	if !impl.DiskOk(d) || len(d.Live) != 0 {
		t.Error("as many ops as there may be, and no files")
	}
}

// TestChecksOfDoInOrder has more than one thing that is wrong.
func TestChecksOfDoInOrder(t *testing.T) {
	full := diskWith(t, filesOf("a:"), slices.Repeat(opsOf("a+"), impl.MaxOps))
	for _, op := range []string{"-b", "b>a", "b>b"} {
		checkDo(t, op+": no file and no room", full, opsOf(op)[0], impl.DkNone, nil)
	}
	for _, op := range []impl.DOp{{}, {Kind: 4, Name: "b"}, {Kind: impl.DkRemove, Name: "b", To: "a"}, {Kind: impl.DkRename, Name: "b"}, {Kind: impl.DkAppend, Name: "a", To: "b"}, {Kind: impl.DkAppend, Data: bytesOf(impl.MaxBytes + 1)}} {
		checkDo(t, "no form, no file and no room", full, op, impl.DkForm, nil)
		checkDo(t, "no form and no file", impl.Disk{}, op, impl.DkForm, nil)
	}
	checkDo(t, "no form and too many bytes", impl.Disk{}, impl.DOp{Kind: impl.DkAppend, Name: "a", To: "b", Data: bytesOf(impl.MaxBytes + 1)}, impl.DkForm, nil)
	checkDo(t, "too many ops and bytes", full, appends("a", bytesOf(impl.MaxBytes+1)), impl.DkFull, nil)
}

func TestSync(t *testing.T) {
	for _, d := range []impl.Disk{{}, diskOf(t, "a:1", ""), diskOf(t, "a:1 b:2", "a+x b>c d+"), diskOf(t, "a:1", "-a"), diskOf(t, "", "a+ -a"), diskWith(t, filesOf("a:"), slices.Repeat(opsOf("a+x"), impl.MaxOps)), diskWith(t, manyFiles(60, 3333), nil)} {
		sameDisk(t, diskText(d), impl.Sync(d), impl.Disk{Live: d.Live, Safe: d.Live})
		sameDisk(t, "twice: "+diskText(d), impl.Sync(impl.Sync(d)), impl.Disk{Live: d.Live, Safe: d.Live})
	}
}

func TestReadFile(t *testing.T) {
	d := diskOf(t, "a:1 b:2 c:3", "a+x b>d -c e+ f+y")
	for name, want := range map[string]string{"a": "1x", "d": "2", "e": "", "f": "y"} {
		if data, ok := impl.ReadFile(d, name); !ok || data != want {
			t.Errorf("%s: %q, %v, want %q", name, data, ok, want)
		}
	}
	for _, name := range []string{"b", "c", "A", "aa", "a ", "", "\x00", bytesOf(100), bytesOf(101)} {
		if data, ok := impl.ReadFile(d, name); ok || data != "" {
			t.Errorf("%.20q: %q, %v", name, data, ok)
		}
		if data, ok := impl.ReadFile(impl.Disk{}, name); ok || data != "" {
			t.Errorf("%.20q without files: %q, %v", name, data, ok)
		}
	}
	for _, f := range manyFiles(60, 7) {
		if data, ok := impl.ReadFile(diskWith(t, manyFiles(60, 7), nil), f.Name); !ok || data != f.Data {
			t.Errorf("%s: %q, %v", f.Name, data, ok)
		}
	}
}

// checkCrash wants no disk when it can not be.
func checkCrash(t *testing.T, what string, d impl.Disk, keep []int64, torn int64, wantOk bool, want []impl.File) {
	t.Helper()
	got, ok := impl.Crash(d, keep, torn)
	if ok != wantOk {
		t.Errorf("%s: %v, want %v", what, ok, wantOk)
	}
	if !wantOk {
		if !isNoDisk(got) {
			t.Errorf("%s: %s", what, diskText(got))
		}
		return
	}
	sameDisk(t, what, got, impl.Disk{Live: want, Safe: want})
}

func TestCrash(t *testing.T) {
	d := diskOf(t, "a:1 b:2", "a+xyz c+pq a>d -b c>b c+rs")
	for _, c := range []struct {
		keep []int64
		torn int64
		want string
	}{
		{nil, 0, "a:1 b:2"}, {nil, 99, "a:1 b:2"}, {[]int64{}, 0, "a:1 b:2"}, {[]int64{0, 1, 2, 3, 4, 5}, 99, "b:pq c:rs d:1xyz"}, {[]int64{0, 1, 2, 3, 4, 5}, 2, "b:pq c:rs d:1xyz"}, {[]int64{0, 1, 2, 3, 4, 5}, 1, "b:pq c:r d:1xyz"}, {[]int64{0, 1, 2, 3, 4, 5}, 0, "b:pq c: d:1xyz"},
		{[]int64{0}, 0, "a:1 b:2"}, {[]int64{0}, 1, "a:1x b:2"}, {[]int64{0}, 2, "a:1xy b:2"}, {[]int64{0}, 3, "a:1xyz b:2"}, {[]int64{0}, 4, "a:1xyz b:2"}, {[]int64{0}, math.MaxInt64, "a:1xyz b:2"},
		{[]int64{1}, 0, "a:1 b:2 c:"}, {[]int64{1}, 1, "a:1 b:2 c:p"}, {[]int64{5}, 1, "a:1 b:2 c:r"}, {[]int64{1, 5}, 1, "a:1 b:2 c:pqr"}, {[]int64{1, 5}, 0, "a:1 b:2 c:pq"}, {[]int64{0, 1}, 1, "a:1xyz b:2 c:p"},
		// Only the last op that is kept is torn, and only when it adds to a file.
		{[]int64{0, 2}, 0, "b:2 d:1xyz"}, {[]int64{0, 3}, 0, "a:1xyz"}, {[]int64{1, 4}, 0, "a:1 b:pq"}, {[]int64{2}, 0, "b:2 d:1"}, {[]int64{3}, 0, "a:1"},
		// What is lost is not there to be renamed.
		{[]int64{4}, 0, "a:1 b:2"}, {[]int64{3, 4}, 9, "a:1"}, {[]int64{4, 5}, 9, "a:1 b:2 c:rs"}, {[]int64{2, 4}, 9, "b:2 d:1"},
	} {
		checkCrash(t, fmt.Sprint(c.keep, " torn at ", c.torn), d, c.keep, c.torn, true, filesOf(c.want))
	}
	twice := diskOf(t, "a:1", "-a a+x -a a+y a>b")
	for keep, want := range map[string]string{"0": "", "1": "a:1x", "2": "", "3": "a:1y", "4": "b:1", "0 2": "", "1 3": "a:1xy", "0 4": "", "0 1 4": "b:x", "0 2 3": "a:y", "1 2 3 4": "b:y", "0 1 2 4": ""} {
		checkCrash(t, keep, twice, placesOf(keep), 9, true, filesOf(want))
	}
	for _, synced := range []impl.Disk{{}, diskOf(t, "a:1 b:2", "")} {
		checkCrash(t, "nothing was done", synced, nil, 0, true, synced.Safe)
		checkCrash(t, "nothing was done, one is kept", synced, []int64{0}, 0, false, nil)
	}
}

func placesOf(s string) []int64 {
	var l []int64
	for _, v := range valsOf(s) {
		l = append(l, v.N)
	}
	return l
}

func TestCrashesThatCanNotBe(t *testing.T) {
	d := diskOf(t, "a:1", "a+x b+ b>c -a")
	for _, keep := range []string{"0 0", "1 1", "3 3", "1 0", "0 2 1", "3 2 1 0", "0 1 1", "0 1 2 3 3", "-1", "-1 0", "-2 -1", "0 -1", "4", "0 4", "3 4", "0 1 2 3 4", "5", "1000000000", "-1000000000"} {
		for _, torn := range []int64{0, 1, 99, -1} {
			checkCrash(t, keep, d, placesOf(keep), torn, false, nil)
		}
	}
	for _, p := range []int64{math.MaxInt64, math.MinInt64, 1 << 32, -1 << 32, 1<<32 + 1} {
		checkCrash(t, fmt.Sprint(p), d, []int64{p}, 0, false, nil)
		checkCrash(t, fmt.Sprint("0 and ", p), d, []int64{0, p}, 0, false, nil)
	}
	for _, torn := range []int64{-1, -2, math.MinInt64} {
		for _, keep := range []string{"", "0", "3", "0 1 2 3"} {
			checkCrash(t, fmt.Sprint(keep, " torn at ", torn), d, placesOf(keep), torn, false, nil)
		}
		checkCrash(t, fmt.Sprint("nothing, torn at ", torn), impl.Disk{}, nil, torn, false, nil)
	}
	full := diskWith(t, filesOf("a:"), slices.Repeat(opsOf("a+x"), impl.MaxOps))
	checkCrash(t, "the last of most ops", full, []int64{impl.MaxOps - 1}, 9, true, filesOf("a:x"))
	checkCrash(t, "one behind the last of most ops", full, []int64{impl.MaxOps}, 9, false, nil)
}

// TestCrashesAndLimits keeps ops for which only those that are lost made room.
func TestCrashesAndLimits(t *testing.T) {
	a := impl.File{Name: "a", Data: bytesOf(150000)}
	b := impl.File{Name: "b", Data: bytesOf(100000)}
	d := diskWith(t, []impl.File{a}, []impl.DOp{removes("a"), appends("b", b.Data), removes("b"), appends("c", bytesOf(50001)), appends("c", "x")})
	checkCrash(t, "bytes: room was made", d, []int64{0, 1}, 200000, true, []impl.File{b})
	checkCrash(t, "bytes: too many at the end", d, []int64{1}, 200000, false, nil)
	checkCrash(t, "bytes: too many in the middle", d, []int64{1, 2}, 200000, true, []impl.File{a})
	checkCrash(t, "bytes: too many in the middle and at the end", d, []int64{1, 2, 3}, 200000, false, nil)
	checkCrash(t, "bytes: the most", d, []int64{1}, 50000, true, []impl.File{a, {Name: "b", Data: bytesOf(50000)}})
	checkCrash(t, "bytes: one more", d, []int64{1}, 50001, false, nil)
	checkCrash(t, "bytes: nothing of it", d, []int64{1}, 0, true, []impl.File{a, {Name: "b"}})
	checkCrash(t, "bytes: one more, of two", d, []int64{3, 4}, 0, false, nil)
	l := manyFiles(impl.MaxFiles, 1)
	d = diskWith(t, l, opsOf("-f00 y+x -f01 z+ z>y"))
	checkCrash(t, "files: room was made", d, []int64{0, 1}, 9, true, append(slices.Clone(l[1:]), filesOf("y:x")...))
	checkCrash(t, "files: too many at the end", d, []int64{1}, 9, false, nil)
	checkCrash(t, "files: too many, one empty", d, []int64{1}, 0, false, nil)
	checkCrash(t, "files: too many in the middle", d, []int64{1, 2}, 9, true, append(append(slices.Clone(l[:1]), l[2:]...), filesOf("y:x")...))
	checkCrash(t, "files: two too many in the middle", d, []int64{1, 3, 4}, 9, false, nil)
	checkCrash(t, "files: two too many in the middle, none at the end", d, []int64{0, 1, 3, 4}, 9, true, append(slices.Clone(l[1:]), filesOf("y:")...))
	// As many bytes on the way as ops can have.
	var ops []impl.DOp
	var keep []int64
	for i := range int64(impl.MaxOps / 2) {
		ops = append(ops, appends("a", bytesOf(impl.MaxBytes)), removes("a"))
		keep = append(keep, 2*i)
	}
	d = diskWith(t, nil, ops)
	checkCrash(t, "very many bytes", d, keep, impl.MaxBytes, false, nil)
	checkCrash(t, "very many bytes on the way", d, append(keep, impl.MaxOps-1), impl.MaxBytes, true, nil)
}

// checkReplace holds a replace against its three ops, one behind the other.
func checkReplace(t *testing.T, what string, d impl.Disk, name string, data string, wantCode int64) {
	t.Helper()
	want, code := d, int64(impl.DkOk)
	ops := []impl.DOp{appends(name+".new", data), renames(name+".new", name)}
	if slices.ContainsFunc(d.Live, func(f impl.File) bool { return f.Name == name+".new" }) {
		ops = append([]impl.DOp{removes(name + ".new")}, ops...)
	}
	for _, op := range ops {
		next, refused := impl.Do(want, op)
		if refused != impl.DkOk {
			want, code = d, refused
			break
		}
		want = next
	}
	got, gotCode := impl.Replace(d, name, data)
	if gotCode != wantCode || code != wantCode {
		t.Errorf("%s: code %d, its ops %d, want %d", what, gotCode, code, wantCode)
	}
	sameDisk(t, what, got, want)
	if read, ok := impl.ReadFile(got, name); wantCode == impl.DkOk && (!ok || read != data) {
		t.Errorf("%s: %.40q, %v", what, read, ok)
	}
}

func TestReplace(t *testing.T) {
	checkReplace(t, "no files", impl.Disk{}, "a", "x", impl.DkOk)
	checkReplace(t, "no files, nothing", impl.Disk{}, "a", "", impl.DkOk)
	for _, d := range []impl.Disk{diskOf(t, "a:1 b:2", ""), diskOf(t, "a:1", "b+2"), diskOf(t, "a:1 a.new:5 b:2", ""), diskOf(t, "a.new:5", ""), diskOf(t, "a:1", "a.new+5 a.new+6"), diskOf(t, "a.new:5 a.new.new:6", "a.new>b")} {
		for _, name := range []string{"a", "b", "c", "a.new", ".new", "a.new.new"} {
			for _, data := range []string{"", "x", "\x00\n:"} {
				checkReplace(t, name+" of "+diskText(d), d, name, data, impl.DkOk)
			}
		}
		checkReplace(t, "no name", d, "", "x", impl.DkForm)
	}
	got, _ := impl.Replace(diskOf(t, "a:1 a.new:5 b:2", "b+3"), "a", "xy")
	sameDisk(t, "in full", got, impl.Disk{Live: filesOf("a:xy b:23"), Safe: filesOf("a:1 a.new:5 b:2"), Ops: opsOf("b+3 -a.new a.new+xy a.new>a")})
	got, _ = impl.Replace(diskOf(t, "b:2", ""), "a", "xy")
	sameDisk(t, "in full, a new one", got, impl.Disk{Live: filesOf("a:xy b:2"), Safe: filesOf("b:2"), Ops: opsOf("a.new+xy a.new>a")})
	// Without a name there is one for what is new, but not for what it is to be.
	checkReplace(t, "no name, and what is new is there", diskOf(t, ".new:5", ""), "", "x", impl.DkForm)
	for n, code := range map[int]int64{1: impl.DkOk, 95: impl.DkOk, 96: impl.DkOk, 97: impl.DkForm, 100: impl.DkForm, 101: impl.DkForm, 1000: impl.DkForm} {
		name := bytesOf(n)
		checkReplace(t, fmt.Sprint("a name of ", n), impl.Disk{}, name, "y", code)
		if n <= 100 {
			checkReplace(t, fmt.Sprint("a name of ", n, " that is there"), diskWith(t, []impl.File{{Name: name, Data: "1"}}, nil), name, "y", code)
		}
		if n <= 96 {
			checkReplace(t, fmt.Sprint("a name of ", n, " that is there with what is new"), diskWith(t, []impl.File{{Name: name, Data: "1"}, {Name: name + ".new", Data: "2"}}, nil), name, "y", code)
		}
	}
}

func TestReplaceAndLimits(t *testing.T) {
	for n := impl.MaxOps - 4; n <= impl.MaxOps; n++ {
		codeFor := func(more int) int64 { return codeIf(n+more <= impl.MaxOps, impl.DkFull) }
		what := fmt.Sprint("behind ", n, " ops")
		checkReplace(t, what, diskWith(t, filesOf("a:"), slices.Repeat(opsOf("a+"), n)), "a", "x", codeFor(2))
		checkReplace(t, what+", what is new is there", diskWith(t, filesOf("a: a.new:"), slices.Repeat(opsOf("a+"), n)), "a", "x", codeFor(3))
		// Of what is refused the first is told.
		checkReplace(t, what+", no name", diskWith(t, filesOf("a:"), slices.Repeat(opsOf("a+"), n)), "", "x", max(impl.DkForm, codeFor(1)))
		checkReplace(t, what+", no name, what is new is there", diskWith(t, filesOf(".new: a:"), slices.Repeat(opsOf("a+"), n)), "", "x", max(impl.DkForm, codeFor(2)))
		checkReplace(t, what+", a long name", diskWith(t, filesOf("a:"), slices.Repeat(opsOf("a+"), n)), bytesOf(97), "x", impl.DkForm)
	}
	sized := func(sizes ...int) impl.Disk {
		var l []impl.File
		for i, n := range sizes {
			l = append(l, impl.File{Name: []string{"a", "a.new"}[i], Data: bytesOf(n)})
		}
		return diskWith(t, l, nil)
	}
	const half = impl.MaxBytes / 2
	checkReplace(t, "the old and the new one", sized(half), "a", bytesOf(half), impl.DkOk)
	checkReplace(t, "the old and the new one, one byte more", sized(half), "a", bytesOf(half+1), impl.DkFull)
	checkReplace(t, "what is new is there, and goes", sized(half, half), "a", bytesOf(half), impl.DkOk)
	checkReplace(t, "what is new is there, and one byte more", sized(half, half), "a", bytesOf(half+1), impl.DkFull)
	checkReplace(t, "the most bytes", sized(), "a", bytesOf(2*half), impl.DkOk)
	checkReplace(t, "one more than the most bytes", sized(), "a", bytesOf(2*half+1), impl.DkFull)
	checkReplace(t, "nothing", sized(2*half), "a", "", impl.DkOk)
	checkReplace(t, "one byte", sized(2*half), "a", "x", impl.DkFull)
	l := manyFiles(impl.MaxFiles, 1)
	checkReplace(t, "the most files", diskWith(t, l, nil), "f00", "x", impl.DkFull)
	checkReplace(t, "the most files but one", diskWith(t, l[1:], nil), "f01", "x", impl.DkOk)
	checkReplace(t, "the most files but one, a new one", diskWith(t, l[1:], nil), "f00", "x", impl.DkOk)
	checkReplace(t, "the most files, one of them what is new", diskWith(t, append(filesOf("f00:1 f00.new:2"), l[2:]...), nil), "f00", "x", impl.DkOk)
	checkReplace(t, "the most files, one of them what is new, without the old one", diskWith(t, append(filesOf("f00.new:2"), l[1:]...), nil), "f00", "x", impl.DkOk)
}

// someOp is mostly one that can be done.
func (d *dice) someOp() impl.DOp {
	names := []string{"a", "b", "c", "a.new", "A"}
	op := impl.DOp{Kind: int64(1 + d.below(3)), Name: oneOf(d, names)}
	switch op.Kind {
	case impl.DkAppend:
		op.Data = oneOf(d, []string{"", "x", "yz", "pqr", "\x00\xff\n", bytesOf(110000)})
	case impl.DkRename:
		op.To = oneOf(d, names)
	}
	switch d.below(30) {
	case 0:
		op.Data += "x"
	case 1:
		op.To += "b"
	case 2:
		op.Name = ""
	case 3:
		op.Kind = int64(d.below(9) - 3)
	}
	return op
}

// someKeep has places of so many ops that rise.
func (d *dice) someKeep(n int) []int64 {
	var keep []int64
	for i := range int64(n) {
		if d.below(3) > 0 {
			keep = append(keep, i)
		}
	}
	return keep
}

// TestDisksAgainstTheModel has what is done, one behind the other, synced, lost and replaced.
func TestDisksAgainstTheModel(t *testing.T) {
	d := dice(71)
	met := map[int64]int{}
	for i := range 150 {
		var disk impl.Disk
		for k := range 40 {
			what := fmt.Sprint("disk ", i, ", step ", k)
			op := d.someOp()
			l, code := opDone(disk.Live, op)
			checkDo(t, what, disk, op, code, l)
			met[code]++
			disk, _ = impl.Do(disk, op)
			if d.below(12) == 0 {
				disk = impl.Sync(disk)
			}
			keep, torn := d.someKeep(len(disk.Ops)), int64(d.below(6))
			left := crashed(disk, keep, torn)
			checkCrash(t, what+", lost", disk, keep, torn, roomFor(left), left)
			if t.Failed() {
				return
			}
		}
	}
	for code := range int64(5) {
		if code != impl.DkDisk && met[code] < 50 {
			t.Errorf("code %d was met %d times", code, met[code])
		}
	}
}

// TestAllIsKeptOrNothing has what was seen behind a loss of power, and what was synced.
func TestAllIsKeptOrNothing(t *testing.T) {
	d := dice(72)
	for i := range 150 {
		var disk impl.Disk
		for range d.below(60) {
			next, code := impl.Do(disk, d.someOp())
			if code == impl.DkOk {
				disk = next
			}
			if d.below(15) == 0 {
				disk = impl.Sync(disk)
			}
		}
		var all []int64
		for k := range disk.Ops {
			all = append(all, int64(k))
		}
		what := fmt.Sprint("disk ", i)
		checkCrash(t, what+", all", disk, all, impl.MaxBytes, true, disk.Live)
		checkCrash(t, what+", nothing", disk, nil, int64(d.below(9)), true, disk.Safe)
		checkCrash(t, what+", all, synced", impl.Sync(disk), nil, 0, true, disk.Live)
		if t.Failed() {
			return
		}
	}
}

// TestReplacedIsTheOldOneOrTheNewOne keeps any of the ops of a replace.
func TestReplacedIsTheOldOneOrTheNewOne(t *testing.T) {
	for _, old := range []string{"", "a:", "a:1 b:2", "A:0 a:old", "b:2 c:3"} {
		for _, data := range []string{"", "1", "new", "older"} {
			synced := diskOf(t, old, "")
			d, code := impl.Replace(synced, "a", data)
			if code != impl.DkOk || len(d.Ops) != 2 {
				t.Fatalf("%s: %d, %s", old, code, diskText(d))
			}
			was, there := impl.ReadFile(synced, "a")
			for _, keep := range []string{"", "0", "1", "0 1"} {
				for torn := range int64(7) {
					left, ok := impl.Crash(d, placesOf(keep), torn)
					got, is := impl.ReadFile(left, "a")
					if keep == "0 1" {
						was, there = data, true
					}
					if !ok || got != was || is != there {
						t.Errorf("%s, %q, %s kept, torn at %d: %v, %q, %v", old, data, keep, torn, ok, got, is)
					}
					for _, f := range synced.Safe {
						if other, _ := impl.ReadFile(left, f.Name); f.Name != "a" && other != f.Data {
							t.Errorf("%s, %s kept: %s has %q", old, keep, f.Name, other)
						}
					}
				}
			}
		}
	}
}
