package tests

import (
	"encoding/binary"
	"fmt"
	"hash/crc32"
	"maps"
	"math"
	"regexp"
	"slices"
	"strconv"
	"strings"
	"testing"

	"loop.example/g00570/impl"
)

const mostFramed = 100000

// framed is what the chapter says of a frame, told here once more.
func framed(data string) string {
	head := binary.BigEndian.AppendUint32(nil, uint32(len(data)))
	head = binary.LittleEndian.AppendUint32(head, crc32.ChecksumIEEE([]byte(data)))
	return string(head) + data
}

// unframed has the data of the frames ahead, and what is left.
func unframed(s string) ([]string, string) {
	var l []string
	for len(s) >= 8 {
		n := int(binary.BigEndian.Uint32([]byte(s)))
		if n > mostFramed || len(s) < 8+n || framed(s[8:8+n]) != s[:8+n] {
			break
		}
		l = append(l, s[8:8+n])
		s = s[8+n:]
	}
	return l, s
}

// TestNumbersOfTheJournal has those that the chapter names.
func TestNumbersOfTheJournal(t *testing.T) {
	if got := []int64{impl.AcNew, impl.AcRun, impl.AcSave, impl.AcOpen, impl.AcCrash}; !slices.Equal(got, []int64{1, 2, 3, 4, 5}) {
		t.Error("kinds:", got)
	}
	if got := []int64{impl.StOk, impl.StDisk, impl.StBad, impl.StForm, impl.StFull, impl.StPower, impl.StTorn, impl.StNone, impl.StNot}; !slices.Equal(got, []int64{0, 1, 2, 3, 4, 5, 6, 7, 8}) {
		t.Error("codes:", got)
	}
}

func TestFrames(t *testing.T) {
	check := func(data string) {
		t.Helper()
		f := impl.FrameOf(data)
		if f != framed(data) {
			t.Errorf("%.20q of %d bytes: the frame is %.40q of %d", data, len(data), f, len(f))
		}
		for behind, more := range map[string]int{"": 0, "x": 0, f: 1, f + "x": 1, f[:len(f)-1]: 0, "\x00\x00\x00\x01": 0} {
			l, end := impl.TakeFrames(f + behind)
			if len(l) != 1+more || l[0] != data || l[more] != data || end != int64(len(f)*(1+more)) {
				t.Errorf("%.20q of %d bytes, %d behind: %d frames, %d", data, len(data), len(behind), len(l), end)
			}
		}
	}
	for n := range 300 {
		check(bytesOf(n))
		check(strings.Repeat("\x00", n))
		check(string([]byte{byte(n)}))
		check(string([]byte{0, byte(n), byte(3 * n), 0xff}))
	}
	for _, n := range []int{255, 256, 257, 65535, 65536, 65537, mostFramed - 1, mostFramed} {
		check(bytesOf(n))
		check(strings.Repeat("\x00\xff\n", n/3))
	}
	for _, n := range []int{mostFramed + 1, mostFramed + 2, 2 * mostFramed, 1 << 20} {
		if f := impl.FrameOf(bytesOf(n)); f != "" {
			t.Errorf("%d bytes: the frame has %d", n, len(f))
		}
		// Such a frame is none, even where it is whole.
		if l, end := impl.TakeFrames(framed(bytesOf(n))); len(l) != 0 || end != 0 {
			t.Errorf("a frame of %d bytes: %d frames, %d", n, len(l), end)
		}
		if l, end := impl.TakeFrames(framed("x") + framed(bytesOf(n)) + framed("x")); len(l) != 1 || end != 9 {
			t.Errorf("a frame of %d bytes between others: %d frames, %d", n, len(l), end)
		}
	}
	if f := impl.FrameOf(""); f != "\x00\x00\x00\x00\x00\x00\x00\x00" {
		t.Errorf("the frame of nothing is %q", f)
	}
	if f := impl.FrameOf("123456789"); f != "\x00\x00\x00\x09\x26\x39\xf4\xcb123456789" {
		t.Errorf("the frame of nine digits is %q", f)
	}
}

// checkTaken holds the frames of any bytes against those of the chapter told once more.
func checkTaken(t *testing.T, what string, s string) {
	t.Helper()
	want, rest := unframed(s)
	got, end := impl.TakeFrames(s)
	if !slices.Equal(got, want) || end != int64(len(s)-len(rest)) {
		t.Errorf("%s: %d frames, %d, want %d, %d", what, len(got), end, len(want), len(s)-len(rest))
	}
}

func TestFramesThatAreBroken(t *testing.T) {
	s := framed("") + framed("a") + framed("\x00\x01") + framed("") + framed("some more")
	for i := range len(s) + 1 {
		checkTaken(t, fmt.Sprint("cut ahead of ", i), s[:i])
		checkTaken(t, fmt.Sprint("from ", i), s[i:])
		checkTaken(t, fmt.Sprint("a byte more at ", i), s[:i]+"\x00"+s[i:])
		checkTaken(t, fmt.Sprint("a byte less at ", i), s[:i]+s[min(i+1, len(s)):])
		for bit := range 8 {
			if i < len(s) {
				checkTaken(t, fmt.Sprint("byte ", i, ", bit ", bit), s[:i]+string([]byte{s[i] ^ 1<<bit})+s[i+1:])
			}
		}
	}
	// Where nothing is wrong but the one thing.
	for what, wrong := range map[string]string{
		"nothing": "", "seven noughts": "\x00\x00\x00\x00\x00\x00\x00", "a length of one more": "\x00\x00\x00\x04" + framed("abc")[4:], "a length of one less": "\x00\x00\x00\x02" + framed("abc")[4:], "the length the other way round": "\x03\x00\x00\x00" + framed("abc")[4:],
		"the CRC the other way round": "\x00\x00\x00\x03\x35\x24\x41\xc2abc", "the CRC of nothing": "\x00\x00\x00\x03\x00\x00\x00\x00abc", "the CRC of others": framed("abd")[:8] + "abc", "a length below 0": "\xff\xff\xff\xff" + framed("abc")[4:], "a length that is halfway": "\x80\x00\x00\x03" + framed("abc")[4:], "the CRC turned over": "\x00\x00\x00\x03\x3d\xbe\xdb\xcaabc",
	} {
		if l, end := impl.TakeFrames(wrong); len(l) != 0 || end != 0 {
			t.Errorf("%s: %q, %d", what, l, end)
		}
		if l, end := impl.TakeFrames(framed("x") + wrong); len(l) != 1 || end != 9 {
			t.Errorf("%s, behind a frame: %q, %d", what, l, end)
		}
	}
	many := strings.Repeat(framed(""), 25000)
	checkTaken(t, "very many", many)
	checkTaken(t, "very many, and a byte", many+"x")
}

// baseOf is what the chapter says of the file base.
func baseOf(s []impl.Table, n int64, db []impl.Data) string {
	return framed(fmt.Sprintf("%d\n%s", n, dbLines(s, db)))
}

func logOf(entries ...string) string {
	var log string
	for _, entry := range entries {
		log += framed(entry)
	}
	return log
}

// diskHolding has these files, synced.
func diskHolding(t *testing.T, files map[string]string) impl.Disk {
	t.Helper()
	var l []impl.File
	for _, name := range slices.Sorted(maps.Keys(files)) {
		l = append(l, impl.File{Name: name, Data: files[name]})
	}
	return diskWith(t, l, nil)
}

// bankDisk has a base with that number and database, and a log of these entries.
func bankDisk(t *testing.T, n int64, db string, entries ...string) impl.Disk {
	t.Helper()
	return diskHolding(t, map[string]string{"base": baseOf(bank(), n, dbOf(db)), "log": logOf(entries...)})
}

// A journal is what lies on a disk, gone through as the chapter says, told here once more.
type journal struct {
	db   []impl.Data
	n    int64
	good bool
}

var decimal = regexp.MustCompile("^(0|[1-9][0-9]{0,9})$")

// numbered is a text that begins with a number and that mark, cut in two.
func numbered(text string, mark string) (int64, string, bool) {
	i := strings.Index(text, mark)
	if i < 0 || !decimal.MatchString(text[:i]) {
		return 0, "", false
	}
	n, _ := strconv.ParseInt(text[:i], 10, 64)
	return n, text[i+1:], n <= impl.MaxNum
}

func journalOf(s []impl.Table, d impl.Disk) (journal, int64) {
	base, there := impl.ReadFile(d, "base")
	if !there {
		return journal{}, impl.StNone
	}
	frames, rest := unframed(base)
	if len(frames) != 1 || rest != "" {
		return journal{}, impl.StBad
	}
	n, text, ok := numbered(frames[0], "\n")
	db, read := impl.ReadDb(s, text)
	if !ok || !read || !impl.Sound(s, db) {
		return journal{}, impl.StBad
	}
	log, _ := impl.ReadFile(d, "log")
	frames, rest = unframed(log)
	j := journal{db, n, false}
	for _, frame := range frames {
		n, text, ok := numbered(frame, " ")
		if ok && n <= j.n {
			continue
		}
		x, read := impl.ReadStmt(text)
		if !ok || n != j.n+1 || !read || !impl.StmtOk(s, x) {
			return j, impl.StOk
		}
		next, code, _ := impl.Exec(s, j.db, x)
		if code != impl.EcOk || !impl.Sound(s, next) {
			return j, impl.StOk
		}
		j.db, j.n = next, n
	}
	j.good = rest == ""
	return j, impl.StOk
}

// A machine makes the steps of an act, told here once more, as long as it has power.
type machine struct {
	d     impl.Disk
	power int64
	code  int64
}

// powered is whether one more step is to be made and can be.
func (m *machine) powered() bool {
	if m.code == impl.StOk && m.power == 0 {
		m.code = impl.StPower
	}
	m.power--
	return m.code == impl.StOk
}

func (m *machine) do(op impl.DOp) {
	if !m.powered() {
		return
	}
	next, code := impl.Do(m.d, op)
	if code != impl.DkOk {
		m.code = impl.StFull
		return
	}
	m.d = next
}

func (m *machine) sync() {
	if m.powered() {
		m.d = impl.Sync(m.d)
	}
}

func (m *machine) gone(name string) {
	if _, there := impl.ReadFile(m.d, name); there && m.code == impl.StOk {
		m.do(removes(name))
		m.sync()
	}
}

func (m *machine) save(s []impl.Table, n int64, db []impl.Data) {
	m.sync()
	m.gone("base.new")
	m.do(appends("base.new", baseOf(s, n, db)))
	m.do(renames("base.new", "base"))
	m.sync()
	m.gone("log")
}

// act makes the steps of an act, or tells what it is refused for ahead of them.
func (m *machine) act(s []impl.Table, a impl.Act) int64 {
	j, code := journalOf(s, m.d)
	switch {
	case a.Kind == impl.AcNew:
		if code != impl.StNone {
			return impl.StForm
		}
		for _, f := range m.d.Live {
			m.do(removes(f.Name))
		}
		m.save(s, 0, make([]impl.Data, len(s)))
	case code != impl.StOk:
		return code
	case a.Kind == impl.AcRun:
		next, refused, _ := impl.Exec(s, j.db, a.Stmt)
		switch {
		case !impl.StmtOk(s, a.Stmt):
			return impl.StForm
		case !j.good:
			return impl.StTorn
		case refused != impl.EcOk || !impl.Sound(s, next):
			return impl.StNot
		case j.n == impl.MaxNum:
			return impl.StFull
		}
		m.do(appends("log", framed(fmt.Sprintf("%d %s", j.n+1, stmtWords(a.Stmt)))))
		if a.Sync {
			m.sync()
		}
	case a.Kind == impl.AcSave && !j.good:
		return impl.StTorn
	case a.Kind == impl.AcSave || !j.good:
		m.save(s, j.n, j.db)
	}
	return impl.StOk
}

// acted is what an act leaves of a right disk and a right schema.
func acted(s []impl.Table, d impl.Disk, a impl.Act) (impl.Disk, int64) {
	if a.Kind < 1 || a.Kind > 5 {
		return d, impl.StForm
	}
	if a.Kind == impl.AcCrash {
		left, ok := impl.Crash(d, a.Keep, a.Torn)
		if !ok {
			return d, impl.StForm
		}
		d = left
	}
	m := machine{d, max(a.Power, -1), impl.StOk}
	if code := m.act(s, a); code != impl.StOk {
		return d, code
	}
	if m.code == impl.StFull {
		return d, impl.StFull
	}
	return m.d, m.code
}

// checkAct holds an act against the code that it should have, and its disk against the model.
func checkAct(t *testing.T, what string, s []impl.Table, d impl.Disk, a impl.Act, wantCode int64) impl.Disk {
	t.Helper()
	got, code := impl.StoreDo(s, d, a)
	want, modelCode := acted(s, d, a)
	if code != wantCode || modelCode != wantCode {
		t.Errorf("%s: code %d, the model's is %d, want %d", what, code, modelCode, wantCode)
	}
	sameDisk(t, what, got, want)
	return got
}

// checkView wants no database where the code says that there is none.
func checkView(t *testing.T, what string, s []impl.Table, d impl.Disk, wantCode int64, want []impl.Data) {
	t.Helper()
	got, code := impl.StoreView(s, d)
	if code != wantCode || !same(got, want) {
		t.Errorf("%s: the view is %d, %q, want %d, %q", what, code, dbText(got), wantCode, dbText(want))
	}
}

func act(kind int64) impl.Act { return impl.Act{Kind: kind, Power: -1} }

func running(x impl.Stmt, sync bool) impl.Act {
	return impl.Act{Kind: impl.AcRun, Stmt: x, Sync: sync, Power: -1}
}

func crashing(keep string, torn int64) impl.Act {
	return impl.Act{Kind: impl.AcCrash, Keep: placesOf(keep), Torn: torn, Power: -1}
}

func withPower(a impl.Act, power int64) impl.Act {
	a.Power = power
	return a
}

// putting is a statement that can be done on most databases of these tests.
func putting(n int64) impl.Stmt { return inserting(impl.PoAbort, "p", fmt.Sprint(n)) }

// entryOf is an entry of the log.
func entryOf(n int64, x impl.Stmt) string { return fmt.Sprintf("%d %s", n, stmtWords(x)) }

// checkStored looks at what lies on a disk by all that is told of it: the database, the number that it ends with, and whether the log is good.
func checkStored(t *testing.T, what string, d impl.Disk, want string, n int64, good bool) {
	t.Helper()
	s, db := bank(), dbOf(want)
	checkView(t, what, s, d, impl.StOk, db)
	log, _ := impl.ReadFile(d, "log")
	ran := checkAct(t, what+", run", s, d, running(putting(77), false), codeIfTorn(good, n))
	if grown, _ := impl.ReadFile(ran, "log"); good && n < impl.MaxNum && grown != log+framed(entryOf(n+1, putting(77))) {
		t.Errorf("%s: the log becomes %.300q", what, grown)
	}
	saved := checkAct(t, what+", save", s, d, act(impl.AcSave), codeIf(good, impl.StTorn))
	opened := checkAct(t, what+", open", s, d, act(impl.AcOpen), impl.StOk)
	lost := checkAct(t, what+", crash", s, d, crashing("", 0), impl.StOk)
	sameDisk(t, what+", open and crash", opened, lost)
	if good {
		sameDisk(t, what+", open", opened, d)
		opened = saved
	}
	base, _ := impl.ReadFile(opened, "base")
	if _, there := impl.ReadFile(opened, "log"); there || base != baseOf(s, n, db) {
		t.Errorf("%s: the base becomes %.300q, the log is there: %v", what, base, there)
	}
	checkView(t, what+", saved", s, opened, impl.StOk, db)
}

func codeIfTorn(good bool, n int64) int64 {
	if !good {
		return impl.StTorn
	}
	return codeIf(n < impl.MaxNum, impl.StFull)
}

func TestBases(t *testing.T) {
	for _, db := range []string{"/", bankDb, "9 -5 /", "1 -1000000000 / 4 4 null; 1000000000 5 -1000000000"} {
		for _, n := range []int64{0, 1, 9, 10, 12345, impl.MaxNum - 1, impl.MaxNum} {
			what := fmt.Sprint(n, " ", db)
			checkStored(t, what, bankDisk(t, n, db), db, n, true)
			checkStored(t, what+", without a log", diskHolding(t, map[string]string{"base": baseOf(bank(), n, dbOf(db))}), db, n, true)
			checkStored(t, what+", beside others", diskHolding(t, map[string]string{"base": baseOf(bank(), n, dbOf(db)), "Base": "", "base.new": "x", "log.new": "x", "bas": "x", "logs": "x"}), db, n, true)
		}
	}
	// Live is looked at, not Safe.
	d := diskWith(t, filesOf("base:x log:y"), append(opsOf("-base -log"), appends("base", baseOf(bank(), 3, dbOf(bankDb))[:7]), appends("base", baseOf(bank(), 3, dbOf(bankDb))[7:])))
	checkView(t, "a base in two pieces", bank(), d, impl.StOk, dbOf(bankDb))
	checkView(t, "a base that is lost", bank(), diskWith(t, bankDisk(t, 3, bankDb).Safe, opsOf("base>b")), impl.StNone, nil)
	// A schema without tables has one database.
	checkView(t, "no tables", nil, diskHolding(t, map[string]string{"base": framed("0\n")}), impl.StOk, nil)
	checkView(t, "no tables, and no byte 10", nil, diskHolding(t, map[string]string{"base": framed("0")}), impl.StBad, nil)
	checkView(t, "no tables, and one more byte 10", nil, diskHolding(t, map[string]string{"base": framed("0\n\n")}), impl.StBad, nil)
}

func TestBasesThatAreBroken(t *testing.T) {
	s := bank()
	text := dbLines(s, dbOf(bankDb))
	right := framed("3\n" + text)
	wrong := map[string]string{
		"empty": "", "a byte": "x", "no frame": "3\n" + text, "two frames": right + right, "a frame of nothing behind it": right + framed(""), "a frame of nothing ahead of it": framed("") + right, "a frame of nothing": framed(""), "a byte behind it": right + "x", "a byte 10 behind it": right + "\n", "a byte ahead of it": "x" + right,
		"part of a frame behind it": right + right[:9], "another CRC": right[:4] + "abcd" + right[8:], "a longer length": right[:3] + string([]byte{right[3] + 1}) + right[4:],
		"without rows or tables": framed("3\n"), "another number behind": framed("3\n3\n" + text), "without its byte 10": framed("3" + text), "a blank for it": framed("3 " + text), "a number only": framed("3"), "a carriage return": framed("3\r\n" + text), "two bytes 10": framed("3\n\n" + text),
		"no table c": framed("3\ntable p\n1 1,1\n"), "tables the other way round": framed("3\ntable c\ntable p\n"), "a row that is not right": framed("3\ntable p\n1 1,'a'\ntable c\n"), "text behind": framed("3\n" + text + "x"), "no byte 10 at the end": framed("3\n" + text[:len(text)-1]),
		"one that waits": baseOf(s, 3, dbOf(waiting)), "a Key twice": baseOf(s, 3, dbOf(twice)), "a null": baseOf(s, 3, dbOf(wrongNow)), "one that is not right": baseOf(s, 3, dbOf(noDb)), "what is never true": framed("3\n" + text + text),
	}
	for _, n := range []string{"", "00", "01", "007", "0x1", "-0", "-1", "+1", " 1", "1 ", "1000000001", "1000000000000", "9223372036854775808", "01000000000", "1.", "1e1", "a", "3,", "\u0663"} {
		wrong["number "+n] = framed(n + "\n" + text)
	}
	for i := range len(right) {
		wrong[fmt.Sprint("cut ahead of ", i)] = right[:i]
	}
	for what, base := range wrong {
		for _, log := range []string{"", logOf(entryOf(4, putting(9))), "x"} {
			d := diskHolding(t, map[string]string{"base": base, "log": log, "a": "1"})
			checkView(t, what, s, d, impl.StBad, nil)
			for _, a := range []impl.Act{running(putting(9), true), running(impl.Stmt{}, false), act(impl.AcSave), act(impl.AcOpen), crashing("", 0)} {
				sameDisk(t, what, checkAct(t, what, s, d, a, impl.StBad), d)
			}
			sameDisk(t, what, checkAct(t, what, s, d, act(impl.AcNew), impl.StForm), d)
		}
	}
}

func TestLogs(t *testing.T) {
	const three, four = "1 1; 2 2; 3 3 / 1 1 1", "1 1; 2 2; 3 3; 4 4 / 1 1 1"
	put3, put4 := "6 insert abort p 1,3", "7 insert abort p 1,4"
	for what, c := range map[string]struct {
		log  []string
		want string
		n    int64
		good bool
	}{
		"none": {nil, bankDb, 5, true}, "one": {[]string{put3}, three, 6, true}, "two": {[]string{put3, put4}, four, 7, true},
		"no rows": {[]string{"6 insert abort p"}, bankDb, 6, true}, "all policies": {[]string{"6 insert fail p 1,3", "7 insert ignore p 1,4", "8 update replace p where 0", "9 delete rollback c where 0"}, four, 9, true},
		"changed and taken out": {[]string{"6 update abort c set 1 2 where ", "7 delete abort p where #0 1 =", put4}, "2 2 / 1 1 2", 7, true},
		"one that is ignored":   {[]string{"6 insert ignore p 1,1 1,3"}, three, 6, true}, "one that replaces": {[]string{"6 insert replace c 2,1,2"}, "1 1; 2 2 / 2 1 2", 6, true},
		"passed over": {[]string{"5 ", "0 ", "1 x", "4 insert abort p 1,1", "3 \x00\n", "5 6 insert abort p 1,3", "2  "}, bankDb, 5, true}, "passed over, then one": {[]string{"5 ", put3, "5 insert abort p 1,8", put4}, four, 7, true},
		"twice": {[]string{put3, put3, "6 ", "6 insert abort p 1,9", put4, put3, put4}, four, 7, true}, "passed over, then none": {[]string{"5 ", "x"}, bankDb, 5, false},
		"one left out": {[]string{"7 insert abort p 1,3"}, bankDb, 5, false}, "one left out later": {[]string{put3, "8 insert abort p 1,4"}, three, 6, false}, "the wrong way round": {[]string{put4, put3}, bankDb, 5, false}, "one left out, then there": {[]string{"7 insert abort p 1,4", put3, put4}, bankDb, 5, false}, "far ahead": {[]string{"1000000000 insert abort p 1,3"}, bankDb, 5, false},
		"refused": {[]string{"6 insert abort p 1,1"}, bankDb, 5, false}, "refused, then another": {[]string{"6 insert abort p 1,1", put3}, bankDb, 5, false}, "refused later": {[]string{put3, "7 insert abort p 1,3", "7 insert abort p 1,4"}, three, 6, false},
		"refused, but something is done": {[]string{"6 insert fail p 1,3 1,1", put4}, bankDb, 5, false}, "refused, but rolled back": {[]string{"6 insert rollback p 1,1"}, bankDb, 5, false}, "refused for a null": {[]string{"6 insert abort p 1,null"}, bankDb, 5, false}, "no truth": {[]string{"6 delete abort p where 'a'"}, bankDb, 5, false}, "no value": {[]string{"6 update abort c set 1 'a' where "}, bankDb, 5, false},
		"waiting": {[]string{"6 insert abort c 2,2,9"}, bankDb, 5, false}, "waiting for the next one": {[]string{"6 insert abort c 2,2,3", "7 insert abort p 1,3"}, bankDb, 5, false}, "waiting by what it takes out": {[]string{put3, "7 delete abort p where #0 1 ="}, three, 6, false},
		"another table": {[]string{"6 insert abort x 1,3"}, bankDb, 5, false}, "too many values": {[]string{"6 insert abort p 2,3,3"}, bankDb, 5, false}, "no such column": {[]string{"6 delete abort p where #1"}, bankDb, 5, false}, "a column twice": {[]string{"6 update abort c set 1 2 set 1 2 where "}, bankDb, 5, false},
	} {
		d := bankDisk(t, 5, bankDb, c.log...)
		checkStored(t, what, d, c.want, c.n, c.good)
		checkStored(t, what+", a base.new beside", diskHolding(t, map[string]string{"base": d.Live[0].Data, "base.new": "x", "log": d.Live[1].Data}), c.want, c.n, c.good)
		if c.good {
			d.Live[1].Data += "x"
			checkStored(t, what+", a byte behind", impl.Disk{Live: d.Live, Safe: d.Live}, c.want, c.n, false)
		}
	}
	for _, wrong := range []string{"", "6", "5", "0", " ", "6\ninsert abort p 1,3", "5\n", "5\x00", "5\t", " 5 x", "05 x", "00 x", "-1 x", "-0 x", "+5 x", "5. x", "x y", "insert abort p 1,3", "1000000001 x", "99999999999 x", "6insert abort p 1,3",
		"6 ", "6  insert abort p 1,3", "6 insert  abort p 1,3", "6 insert abort p 1,3 ", "6 insert abort p 1,3\n", "06 insert abort p 1,3", "6 insert none p 1,3", "6 Insert abort p 1,3", "6 6 insert abort p 1,3", "6 update abort p", "6 delete abort p where", "6 insert abort p 1,3,", "6 begin"} {
		checkStored(t, "no entry: "+wrong, bankDisk(t, 5, bankDb, wrong), bankDb, 5, false)
		checkStored(t, "no entry, then one: "+wrong, bankDisk(t, 5, bankDb, wrong, put3), bankDb, 5, false)
		if strings.HasPrefix(wrong, "6") {
			wrong = "7" + wrong[1:]
		}
		checkStored(t, "one, then no entry: "+wrong, bankDisk(t, 5, bankDb, put3, wrong, put4), three, 6, false)
	}
}

// TestLogsThatAreCutOff has whole entries ahead of one that is not.
func TestLogsThatAreCutOff(t *testing.T) {
	dbs := []string{bankDb, "1 1; 2 2; 3 3 / 1 1 1", "1 1; 2 2; 3 3 / 1 1 1", "1 1; 2 2; 3 3; 4 4 / 1 1 1"}
	entries := []string{"1 insert abort p 1,3", "0 ", "2 insert abort p 1,4"}
	numbers := []int64{0, 1, 1, 2}
	base := baseOf(bank(), 0, dbOf(bankDb))
	ends := map[int]int{0: 0}
	for i := range entries {
		ends[len(logOf(entries[:i+1]...))] = i + 1
	}
	log := logOf(entries...)
	whole := 0
	for i := range len(log) + 1 {
		at, good := ends[i]
		if good {
			whole = at
		}
		checkStored(t, fmt.Sprint("cut ahead of ", i), diskHolding(t, map[string]string{"base": base, "log": log[:i]}), dbs[whole], numbers[whole], good)
		if i < len(log) {
			broken := log[:i] + string([]byte{log[i] ^ 4}) + log[i+1:]
			checkStored(t, fmt.Sprint("byte ", i), diskHolding(t, map[string]string{"base": base, "log": broken}), dbs[whole], numbers[whole], false)
		}
	}
	long := framed("0 " + bytesOf(mostFramed))
	checkStored(t, "an entry that is too long", diskHolding(t, map[string]string{"base": base, "log": long + log}), bankDb, 0, false)
	long = framed("0 " + bytesOf(mostFramed-2))
	checkStored(t, "an entry that is just not", diskHolding(t, map[string]string{"base": base, "log": long + log}), dbs[3], 2, true)
}

// TestBasesThatAreNewer have part of their log in them, all of it, or more.
func TestBasesThatAreNewer(t *testing.T) {
	dbs := []string{"/", "1 1 /", "1 1; 2 2 /", "1 1; 2 2; 3 3 /"}
	var entries []string
	for n := range int64(3) {
		entries = append(entries, entryOf(n+1, putting(n+1)))
	}
	for n := range int64(len(dbs)) {
		for from := range len(entries) {
			for to := from; to <= len(entries); to++ {
				// The log has the entries from + 1 .. to.
				last, good := n, true
				if to > from && int64(from) > n {
					good = false
				} else if to > from {
					last = max(n, int64(to))
				}
				checkStored(t, fmt.Sprintf("base %d, log %d .. %d", n, from+1, to), bankDisk(t, n, dbs[n], entries[from:to]...), dbs[last], last, good)
			}
		}
	}
	checkStored(t, "far newer", bankDisk(t, 1000, "4 4 /", entries...), "4 4 /", 1000, true)
	checkStored(t, "far newer, and more", bankDisk(t, 1000, "/", append(entries, entryOf(1001, putting(5)))...), "1 5 /", 1001, true)
	checkStored(t, "the last number", bankDisk(t, impl.MaxNum-1, "/", entryOf(impl.MaxNum, putting(5))), "1 5 /", impl.MaxNum, true)
	checkStored(t, "one more than the last number", bankDisk(t, impl.MaxNum, "/", entryOf(impl.MaxNum+1, putting(5))), "/", impl.MaxNum, false)
	checkStored(t, "the last number, and one more", bankDisk(t, impl.MaxNum-1, "/", entryOf(impl.MaxNum, putting(5)), entryOf(impl.MaxNum+1, putting(6))), "1 5 /", impl.MaxNum, false)
	checkStored(t, "the last number, twice", bankDisk(t, impl.MaxNum, "/", entryOf(impl.MaxNum, putting(5)), "1000000000 "), "/", impl.MaxNum, true)
}

// wrongDisks are not right, each with a base.
func wrongDisks(t *testing.T) []impl.Disk {
	d := bankDisk(t, 3, bankDb, entryOf(4, putting(5)))
	back := slices.Clone(d.Live)
	slices.Reverse(back)
	return []impl.Disk{{Live: d.Live}, {Live: d.Live, Safe: d.Live[:1]}, {Live: back, Safe: back}, {Live: d.Live, Safe: d.Live, Ops: []impl.DOp{{}}}, diskWith(t, d.Live, slices.Repeat(opsOf("log+"), impl.MaxOps+1)), {Live: append(slices.Clone(d.Live), impl.File{Name: "z", Data: bytesOf(impl.MaxBytes)}), Safe: d.Live}}
}

func TestStoresOfWhatIsNotRight(t *testing.T) {
	right := bankDisk(t, 3, bankDb)
	acts := []impl.Act{act(impl.AcNew), running(putting(9), true), act(impl.AcSave), act(impl.AcOpen), crashing("", 0), act(0), act(6), withPower(act(impl.AcNew), 0)}
	refuse := func(what string, s []impl.Table, d impl.Disk, code int64) {
		t.Helper()
		checkView(t, what, s, d, code, nil)
		for _, a := range acts {
			if got, code := impl.StoreDo(s, d, a); code != impl.StDisk || !isNoDisk(got) {
				t.Errorf("%s: act %d is %d, %s", what, a.Kind, code, diskText(got))
			}
		}
		for _, list := range [][]impl.Act{nil, acts[:1], acts} {
			if got, codes := impl.StorePlay(s, d, list); len(codes) != 0 || !isNoDisk(got) {
				t.Errorf("%s: %d acts are %v, %s", what, len(list), codes, diskText(got))
			}
		}
	}
	wrong := bank()
	wrong[1].Fks[0].Table = "x"
	for i, d := range append(wrongDisks(t), impl.Disk{Live: filesOf("a:1")}) {
		refuse(fmt.Sprint("disk ", i), bank(), d, impl.StDisk)
		refuse(fmt.Sprint("disk ", i, " and the schema"), wrong, d, impl.StForm)
		refuse(fmt.Sprint("disk ", i, ", no tables"), nil, d, impl.StDisk)
	}
	refuse("the schema", wrong, right, impl.StForm)
	refuse("the schema, and no base", wrong, impl.Disk{}, impl.StForm)
	refuse("the schema, and a broken base", wrong, diskOf(t, "base:x", ""), impl.StForm)
}

func TestKindsOfActs(t *testing.T) {
	s := bank()
	torn := bankDisk(t, 3, bankDb, "x")
	for what, d := range map[string]impl.Disk{"no files": {}, "no base": diskOf(t, "a:1 base.new:x log:x", "b+2"), "a broken base": diskOf(t, "base:x", "b+2"), "a right one": diskWith(t, bankDisk(t, 3, bankDb).Live, opsOf("b+2")), "a log that is not good": torn} {
		for _, kind := range []int64{0, -1, 6, math.MaxInt64, math.MinInt64, 1<<32 + 1} {
			for _, power := range []int64{-1, 0, 1} {
				a := impl.Act{Kind: kind, Stmt: putting(9), Sync: true, Power: power, Keep: []int64{0}}
				sameDisk(t, what, checkAct(t, fmt.Sprint(what, ", kind ", kind), s, d, a, impl.StForm), d)
			}
		}
	}
	for _, d := range []impl.Disk{{}, diskOf(t, "a:1 base.new:x log:x", "a+2 Base+")} {
		checkView(t, "no base", s, d, impl.StNone, nil)
		for _, a := range []impl.Act{running(putting(9), true), running(impl.Stmt{}, true), act(impl.AcSave), act(impl.AcOpen), withPower(act(impl.AcSave), 0), withPower(act(impl.AcOpen), 0)} {
			sameDisk(t, "no base", checkAct(t, fmt.Sprint("no base, kind ", a.Kind), s, d, a, impl.StNone), d)
		}
	}
}

// What a kind of act does not need is not asked.
func TestFieldsOfOtherActs(t *testing.T) {
	s := bank()
	d := bankDisk(t, 3, bankDb, entryOf(4, putting(5)))
	odd := func(a impl.Act) impl.Act {
		if a.Kind != impl.AcRun {
			a.Stmt, a.Sync = impl.Stmt{Kind: 9, Table: "x"}, true
		}
		if a.Kind != impl.AcCrash {
			a.Keep, a.Torn = []int64{7, 7, -1}, -5
		}
		return a
	}
	for _, a := range []impl.Act{running(putting(9), true), running(putting(9), false), act(impl.AcSave), act(impl.AcOpen), crashing("", 0)} {
		sameDisk(t, fmt.Sprint("kind ", a.Kind), checkAct(t, fmt.Sprint("kind ", a.Kind), s, d, odd(a), impl.StOk), checkAct(t, "the same", s, d, a, impl.StOk))
	}
	sameDisk(t, "new", checkAct(t, "new", s, impl.Disk{}, odd(act(impl.AcNew)), impl.StOk), checkAct(t, "the same", s, impl.Disk{}, act(impl.AcNew), impl.StOk))
}

// syncing is the step that is no op.
var syncing = impl.DOp{}

// checkSteps has power for none of the steps, for each number of them, for one more, and for all.
func checkSteps(t *testing.T, what string, s []impl.Table, d impl.Disk, a impl.Act, steps ...impl.DOp) {
	t.Helper()
	now := d
	if a.Kind == impl.AcCrash {
		now, _ = impl.Crash(d, a.Keep, a.Torn)
	}
	for i := range len(steps) + 1 {
		sameDisk(t, fmt.Sprint(what, ", power ", i), checkAct(t, fmt.Sprint(what, ", power ", i), s, d, withPower(a, int64(i)), codeIf(i == len(steps), impl.StPower)), now)
		if i == len(steps) {
			break
		}
		if steps[i] == syncing {
			now = impl.Sync(now)
			continue
		}
		next, code := impl.Do(now, steps[i])
		if code != impl.DkOk {
			t.Fatalf("%s: step %d is %d", what, i, code)
		}
		now = next
	}
	for _, power := range []int64{int64(len(steps)) + 1, 1000, math.MaxInt64, -1, -2, math.MinInt64} {
		sameDisk(t, fmt.Sprint(what, ", power ", power), checkAct(t, fmt.Sprint(what, ", power ", power), s, d, withPower(a, power), impl.StOk), now)
	}
}

func TestStepsOfNew(t *testing.T) {
	s := bank()
	base := framed("0\ntable p\ntable c\n")
	save := []impl.DOp{syncing, appends("base.new", base), renames("base.new", "base"), syncing}
	checkSteps(t, "no files", s, impl.Disk{}, act(impl.AcNew), save...)
	checkSteps(t, "no tables", nil, impl.Disk{}, act(impl.AcNew), syncing, appends("base.new", framed("0\n")), renames("base.new", "base"), syncing)
	checkSteps(t, "others", s, diskOf(t, "a:1 z:2", "m+3 Z+ z>y"), act(impl.AcNew), append(opsOf("-Z -a -m -y"), save...)...)
	checkSteps(t, "a log and a base.new", s, diskOf(t, "Base:0 base.new:x log:y log.new:z", ""), act(impl.AcNew), append(opsOf("-Base -base.new -log -log.new"), save...)...)
	checkSteps(t, "a base that is gone", s, diskOf(t, "base:x", "-base log+y"), act(impl.AcNew), append(opsOf("-log"), save...)...)
	checkSteps(t, "the most files", s, diskWith(t, manyFiles(impl.MaxFiles, 3), nil), act(impl.AcNew), append(removesOf(manyFiles(impl.MaxFiles, 0)), save...)...)
	checkSteps(t, "the most bytes", s, diskWith(t, []impl.File{{Name: "log", Data: bytesOf(impl.MaxBytes)}}, nil), act(impl.AcNew), append(opsOf("-log"), save...)...)
	// What was done already does not stand in the way, as long as there are no files.
	checkSteps(t, "the most ops", s, diskWith(t, nil, slices.Repeat(opsOf("a+x -a"), impl.MaxOps/2)), act(impl.AcNew), save...)
	got, _ := impl.StoreDo(s, diskOf(t, "log:x", ""), act(impl.AcNew))
	sameDisk(t, "in full", got, impl.Disk{Live: []impl.File{{Name: "base", Data: base}}, Safe: []impl.File{{Name: "base", Data: base}}})
	for what, d := range map[string]impl.Disk{"a base": got, "an empty one": diskOf(t, "base:", ""), "one that is not synced": diskOf(t, "", "base+x"), "one that was renamed": diskOf(t, "a:1", "a>base")} {
		for _, power := range []int64{-1, 0, 9} {
			sameDisk(t, what, checkAct(t, what, s, d, withPower(act(impl.AcNew), power), impl.StForm), d)
		}
	}
}

func removesOf(l []impl.File) []impl.DOp {
	var ops []impl.DOp
	for _, f := range l {
		ops = append(ops, removes(f.Name))
	}
	return ops
}

func TestStepsOfRun(t *testing.T) {
	s := bank()
	x := putting(9)
	for what, d := range map[string]impl.Disk{
		"no log": diskHolding(t, map[string]string{"base": baseOf(s, 4, dbOf(bankDb))}), "an empty log": bankDisk(t, 4, bankDb), "a log": bankDisk(t, 2, bankDb, entryOf(3, putting(5)), entryOf(4, putting(6))), "a newer base": bankDisk(t, 4, bankDb, entryOf(3, putting(5))),
		"not synced": diskWith(t, bankDisk(t, 3, bankDb).Live, []impl.DOp{appends("log", framed(entryOf(4, putting(5)))), appends("a", "x")}), "a base.new": diskHolding(t, map[string]string{"base": baseOf(s, 4, dbOf(bankDb)), "base.new": "x"}),
	} {
		add := appends("log", framed("5 insert abort p 1,9"))
		checkSteps(t, what, s, d, running(x, false), add)
		checkSteps(t, what+", sync", s, d, running(x, true), add, syncing)
	}
	d := bankDisk(t, 4, bankDb)
	for _, x := range append(rightBankStmts(t), inserting(impl.PoIgnore, "p", "1", "1"), updating(t, impl.PoReplace, "c", "", "1=2"), deleting(t, impl.PoRollback, "p", "0")) {
		checkSteps(t, stmtWords(x), s, d, running(x, true), appends("log", framed("5 "+stmtWords(x))), syncing)
	}
	for what, x := range map[string]impl.Stmt{"none": {}, "no kind": {Kind: 4, Table: "p"}, "no table": inserting(0, "x", "1"), "too many values": inserting(0, "p", "1 1"), "no policy": inserting(5, "p", "9"), "no such column": {Kind: impl.StDelete, Table: "p", Where: []impl.Tok{col(1)}}} {
		sameDisk(t, what, checkAct(t, what, s, d, running(x, true), impl.StForm), d)
		torn := bankDisk(t, 4, bankDb, "x")
		sameDisk(t, what, checkAct(t, what+", and a log that is not good", s, torn, running(x, true), impl.StForm), torn)
	}
	refused := map[string]impl.Stmt{
		"a Key twice": putting(1), "a null": inserting(0, "p", "null"), "one of two": inserting(impl.PoFail, "p", "9", "1"), "no truth": deleting(t, 0, "p", "'a'"), "no value": updating(t, 0, "c", "", "1='a'"),
		"one that waits": inserting(0, "c", "2 9"), "one that waits by what it takes out": deleting(t, 0, "p", "#0 1 ="), "one of those that are ignored waits": inserting(impl.PoIgnore, "c", "1 1", "2 9"),
	}
	for what, x := range refused {
		for _, n := range []int64{4, impl.MaxNum} {
			d := bankDisk(t, n, bankDb)
			sameDisk(t, what, checkAct(t, what, s, d, running(x, true), impl.StNot), d)
			sameDisk(t, what, checkAct(t, what+", no power", s, d, withPower(running(x, true), 0), impl.StNot), d)
		}
		torn := bankDisk(t, 4, bankDb, "6 ")
		sameDisk(t, what, checkAct(t, what+", and a log that is not good", s, torn, running(x, true), impl.StTorn), torn)
	}
	for what, d := range map[string]impl.Disk{"in the base": bankDisk(t, impl.MaxNum, bankDb), "in the log": bankDisk(t, impl.MaxNum-1, bankDb, entryOf(impl.MaxNum, putting(5)))} {
		for _, power := range []int64{-1, 0, 9} {
			sameDisk(t, what, checkAct(t, "the last number "+what, s, d, withPower(running(x, true), power), impl.StFull), d)
		}
	}
	checkSteps(t, "the last number but one", s, bankDisk(t, impl.MaxNum-1, bankDb), running(x, true), appends("log", framed("1000000000 insert abort p 1,9")), syncing)
	for _, torn := range []impl.Disk{bankDisk(t, 4, bankDb, "6 "), bankDisk(t, impl.MaxNum, bankDb, "x"), diskWith(t, bankDisk(t, 4, bankDb).Live, opsOf("log+x"))} {
		sameDisk(t, "a log that is not good", checkAct(t, "a log that is not good", s, torn, withPower(running(x, true), 0), impl.StTorn), torn)
	}
}

// rightBankStmts can be done, each on bankDb.
func rightBankStmts(t *testing.T) []impl.Stmt {
	return []impl.Stmt{
		inserting(impl.PoAbort, "p", "5", "6", "7"), inserting(impl.PoFail, "c", "5 1", "6 null"), inserting(impl.PoReplace, "c", "1 2"), inserting(impl.PoRollback, "p"), updating(t, impl.PoAbort, "c", "#0 1 =", "1=#1 1 +"), updating(t, impl.PoIgnore, "p", "#0 2 =", "0=8"),
		deleting(t, impl.PoAbort, "c", ""), deleting(t, impl.PoFail, "p", "#0 1 = not"),
	}
}

func TestStepsOfSave(t *testing.T) {
	s := bank()
	grown := "1 1; 2 2; 3 5 / 1 1 1"
	entry := entryOf(4, putting(5))
	for _, torn := range []bool{false, true} {
		for _, fresh := range []bool{false, true} {
			for _, log := range []bool{false, true} {
				if torn && !log {
					continue
				}
				files := map[string]string{"base": baseOf(s, 3, dbOf(bankDb)), "a": "1", "z": ""}
				steps := []impl.DOp{syncing}
				if fresh {
					files["base.new"] = "abc"
					steps = append(steps, removes("base.new"), syncing)
				}
				n, db := int64(3), bankDb
				if log {
					files["log"] = framed(entry)
					n, db = 4, grown
				}
				steps = append(steps, appends("base.new", baseOf(s, n, dbOf(db))), renames("base.new", "base"), syncing)
				if log {
					steps = append(steps, removes("log"), syncing)
				}
				kind := int64(impl.AcSave)
				if torn {
					files["log"] += "x"
					kind = impl.AcOpen
				}
				what := fmt.Sprint("torn ", torn, ", base.new ", fresh, ", log ", log)
				d := diskHolding(t, files)
				checkSteps(t, what, s, d, act(kind), steps...)
				checkSteps(t, what+", not synced", s, diskWith(t, d.Live, opsOf("z+1 b+2 -a z>y")), act(kind), steps...)
				checkSteps(t, what+", all not synced", s, diskWith(t, nil, appendsOf(d.Live)), act(kind), steps...)
				if torn {
					checkSteps(t, what+", crash", s, d, crashing("", 0), steps...)
					checkSteps(t, what+", crash, what is kept", s, diskWith(t, d.Live, opsOf("z+1 b+2 -a z>y")), crashing("1 3", 0), steps...)
				}
			}
		}
	}
	for _, d := range []impl.Disk{bankDisk(t, 3, bankDb), bankDisk(t, 3, bankDb, entry), diskWith(t, bankDisk(t, 3, bankDb).Live, append(opsOf("b+x base.new+y"), appends("log", framed(entry))))} {
		checkSteps(t, "open, and the log is good", s, d, act(impl.AcOpen))
		checkSteps(t, "crash, and the log is good", s, d, crashing("", 0))
	}
	for _, d := range []impl.Disk{bankDisk(t, 3, bankDb, "x"), bankDisk(t, 3, bankDb, entry, "6 "), diskWith(t, bankDisk(t, 3, bankDb).Live, opsOf("log+x"))} {
		for _, power := range []int64{-1, 0, 9} {
			sameDisk(t, "a log that is not good", checkAct(t, "a log that is not good", s, d, withPower(act(impl.AcSave), power), impl.StTorn), d)
		}
	}
}

func appendsOf(l []impl.File) []impl.DOp {
	var ops []impl.DOp
	for _, f := range l {
		ops = append(ops, appends(f.Name, f.Data))
	}
	return ops
}

func TestCrashedStores(t *testing.T) {
	s := bank()
	kept := bankDisk(t, 3, bankDb)
	one, two := framed(entryOf(4, putting(5))), framed(entryOf(5, putting(6)))
	d := diskWith(t, kept.Live, []impl.DOp{appends("log", one), appends("a", "x"), appends("log", two), removes("a")})
	full := int64(len(two))
	for _, c := range []struct {
		keep string
		torn int64
		want string
		good bool
	}{
		{"", 0, bankDb, true}, {"0", full, "1 1; 2 2; 3 5 / 1 1 1", true}, {"0", 0, bankDb, true}, {"0", 1, bankDb, false}, {"0", full - 1, bankDb, false}, {"2", full, bankDb, false}, {"2", 0, bankDb, true}, {"2", 7, bankDb, false}, {"0 2", full, "1 1; 2 2; 3 5; 4 6 / 1 1 1", true},
		{"0 2", full - 1, "1 1; 2 2; 3 5 / 1 1 1", false}, {"0 2", 0, "1 1; 2 2; 3 5 / 1 1 1", true}, {"0 1 2 3", 0, "1 1; 2 2; 3 5; 4 6 / 1 1 1", true}, {"1 2 3", 0, bankDb, false}, {"1", 0, bankDb, true}, {"3", 0, bankDb, true},
	} {
		what := fmt.Sprint(c.keep, " torn at ", c.torn)
		left, _ := impl.Crash(d, placesOf(c.keep), c.torn)
		got := checkAct(t, what, s, d, crashing(c.keep, c.torn), impl.StOk)
		checkView(t, what, s, got, impl.StOk, dbOf(c.want))
		if c.good {
			sameDisk(t, what, got, left)
		}
		sameDisk(t, what+", no power", checkAct(t, what+", no power", s, d, withPower(crashing(c.keep, c.torn), 0), codeIf(c.good, impl.StPower)), left)
	}
	// A crash that can not be leaves the disk as it is, whatever lies on it.
	for _, d := range []impl.Disk{d, {}, diskOf(t, "base:x", "a+x"), diskWith(t, bankDisk(t, 3, bankDb, "x").Live, opsOf("a+x"))} {
		for _, a := range []impl.Act{crashing("0 0", 0), crashing("4", 0), crashing("-1", 0), crashing("1 0", 0), crashing("", -1), withPower(crashing("9", 0), 0), {Kind: impl.AcCrash, Keep: []int64{math.MinInt64}, Power: -1}, {Kind: impl.AcCrash, Torn: math.MinInt64, Power: -1}} {
			sameDisk(t, "no crash", checkAct(t, fmt.Sprint("no crash: ", a.Keep, a.Torn), s, d, a, impl.StForm), d)
		}
	}
	most := diskWith(t, append(kept.Live[:1:1], impl.File{Name: "c", Data: bytesOf(150000)}), []impl.DOp{removes("c"), appends("d", bytesOf(150000))})
	sameDisk(t, "too many bytes", checkAct(t, "too many bytes", s, most, crashing("1", 150000), impl.StForm), most)
	// There is none, or none that is right, any more, or only now.
	right := baseOf(s, 3, dbOf(bankDb))
	for what, c := range map[string]struct {
		d    impl.Disk
		keep string
		torn int64
		code int64
	}{
		"it was never synced": {diskWith(t, nil, []impl.DOp{appends("a", "1"), appends("base", right)}), "0", 9, impl.StNone}, "it was renamed": {diskWith(t, kept.Live, opsOf("base>b a+1")), "0 1", 9, impl.StNone}, "it was removed": {diskWith(t, kept.Live, append(opsOf("-base"), appends("base", right))), "0", 9, impl.StNone},
		"it was torn": {diskWith(t, nil, []impl.DOp{appends("base", right)}), "0", 9, impl.StBad}, "it was added to": {diskWith(t, kept.Live, opsOf("base+x -base a+ a>base")), "0", 9, impl.StBad}, "nothing of it was kept": {diskWith(t, nil, []impl.DOp{appends("base", right)}), "0", 0, impl.StBad},
		"it comes back": {diskWith(t, kept.Live, opsOf("base>b a+1")), "1", 9, impl.StOk}, "it comes back whole": {diskWith(t, kept.Live, opsOf("base+x a+1")), "1", 9, impl.StOk},
	} {
		left, ok := impl.Crash(c.d, placesOf(c.keep), c.torn)
		if !ok {
			t.Fatal(what)
		}
		for _, power := range []int64{-1, 0} {
			sameDisk(t, what, checkAct(t, what, s, c.d, withPower(crashing(c.keep, c.torn), power), c.code), left)
		}
	}
}

// TestStepsThatAreRefused for want of room leave the disk as it was, also when some were made.
func TestStepsThatAreRefused(t *testing.T) {
	s := bank()
	refused := func(what string, d impl.Disk, a impl.Act, made int64) {
		t.Helper()
		as := d
		if a.Kind == impl.AcCrash {
			as, _ = impl.Crash(d, a.Keep, a.Torn)
		}
		for _, power := range []int64{-1, made + 1, made + 2, 1000} {
			sameDisk(t, what, checkAct(t, fmt.Sprint(what, ", power ", power), s, d, withPower(a, power), impl.StFull), as)
		}
		// With less power it does not come to that.
		for power := range made + 1 {
			checkAct(t, fmt.Sprint(what, ", power ", power), s, d, withPower(a, power), impl.StPower)
		}
	}
	kept := map[string]string{"base": baseOf(s, 3, dbOf(bankDb))}
	with := func(more ...string) map[string]string {
		files := maps.Clone(kept)
		for _, f := range more {
			name, data, _ := strings.Cut(f, "=")
			files[name] = data
		}
		return files
	}
	filled := func(files map[string]string, most int) impl.Disk {
		for i := 0; len(files) < most; i++ {
			files[fmt.Sprintf("f%02d", i)] = ""
		}
		return diskHolding(t, files)
	}
	ops := func(n int) []impl.DOp { return slices.Repeat(opsOf("a+"), n) }
	x := putting(9)
	add := appends("log", framed(entryOf(4, x)))
	// Ops.
	d := diskWith(t, diskHolding(t, kept).Live, ops(impl.MaxOps))
	refused("ops, run", d, running(x, false), 0)
	refused("ops, run and sync", d, running(x, true), 0)
	checkAct(t, "ops, save", s, d, act(impl.AcSave), impl.StOk)
	checkAct(t, "ops, open", s, d, act(impl.AcOpen), impl.StOk)
	checkSteps(t, "one op less, run and sync", s, diskWith(t, d.Safe, ops(impl.MaxOps-1)), running(x, true), add, syncing)
	refused("ops, new", diskWith(t, filesOf("a:"), ops(impl.MaxOps)), act(impl.AcNew), 0)
	refused("one op less, new", diskWith(t, filesOf("a: b:"), ops(impl.MaxOps-1)), act(impl.AcNew), 1)
	checkAct(t, "two ops less, new", s, diskWith(t, filesOf("a: b:"), ops(impl.MaxOps-2)), act(impl.AcNew), impl.StOk)
	// Files.
	refused("files, run", filled(with(), impl.MaxFiles), running(x, true), 0)
	checkAct(t, "files, run, a log", s, filled(with("log="), impl.MaxFiles), running(x, true), impl.StOk)
	checkAct(t, "one file less, run", s, filled(with(), impl.MaxFiles-1), running(x, true), impl.StOk)
	refused("files, save", filled(with(), impl.MaxFiles), act(impl.AcSave), 1)
	refused("files, save, not synced", diskWith(t, filled(with(), impl.MaxFiles-1).Live, opsOf("z+")), act(impl.AcSave), 1)
	refused("files, save, a log", filled(with("log="), impl.MaxFiles), act(impl.AcSave), 1)
	checkAct(t, "one file less, save", s, filled(with("log="), impl.MaxFiles-1), act(impl.AcSave), impl.StOk)
	checkAct(t, "files, save, a base.new", s, filled(with("base.new=x"), impl.MaxFiles), act(impl.AcSave), impl.StOk)
	refused("files, open", filled(with("log=x"), impl.MaxFiles), act(impl.AcOpen), 1)
	refused("files, crash", diskWith(t, filled(with("log=x"), impl.MaxFiles-1).Live, opsOf("z+ log+y")), crashing("0", 0), 1)
	checkAct(t, "files, crash, one is lost", s, diskWith(t, filled(with("log=x"), impl.MaxFiles-1).Live, opsOf("z+ log+y")), crashing("1", 0), impl.StOk)
	checkAct(t, "files, open, a base.new", s, filled(with("log=x", "base.new="), impl.MaxFiles), act(impl.AcOpen), impl.StOk)
	// Bytes.
	size := len(kept["base"])
	sized := func(room int, more ...string) impl.Disk {
		files := with(more...)
		left := impl.MaxBytes - room
		for _, data := range files {
			left -= len(data)
		}
		files["z"] = bytesOf(left)
		return diskHolding(t, files)
	}
	refused("bytes, run", sized(len(add.Data)-1), running(x, true), 0)
	checkAct(t, "bytes, run, just enough", s, sized(len(add.Data)), running(x, true), impl.StOk)
	refused("bytes, save", sized(size-1), act(impl.AcSave), 1)
	checkAct(t, "bytes, save, just enough", s, sized(size), act(impl.AcSave), impl.StOk)
	refused("bytes, save, a base.new that is short", sized(size-2, "base.new=x"), act(impl.AcSave), 3)
	checkAct(t, "bytes, save, a base.new that makes room", s, sized(size-1, "base.new=x"), act(impl.AcSave), impl.StOk)
	refused("bytes, open", sized(size-1, "log=xyz"), act(impl.AcOpen), 1)
	refused("bytes, open, a base.new", sized(size-2, "log=xyz", "base.new=x"), act(impl.AcOpen), 3)
	refused("bytes, crash", sized(size-1, "log=xyz"), crashing("", 0), 1)
	checkAct(t, "bytes, crash, just enough", s, sized(size, "log=xyz"), crashing("", 0), impl.StOk)
}

func TestPlays(t *testing.T) {
	s := bank()
	check := func(what string, d impl.Disk, list []impl.Act, want ...int64) {
		t.Helper()
		now := d
		for _, a := range list {
			now, _ = impl.StoreDo(s, now, a)
		}
		for k := range len(list) + 1 {
			first, codes := impl.StorePlay(s, d, list[:k])
			got, more := impl.StorePlay(s, first, list[k:])
			if !slices.Equal(append(codes, more...), want) {
				t.Errorf("%s, in two pieces at %d: %v, %v, want %v", what, k, codes, more, want)
			}
			sameDisk(t, fmt.Sprint(what, ", in two pieces at ", k), got, now)
		}
	}
	torn := bankDisk(t, 3, bankDb, "x")
	check("none", impl.Disk{}, nil)
	check("none, of a disk", diskWith(t, torn.Live, opsOf("a+x")), []impl.Act{})
	check("on no disk", impl.Disk{}, []impl.Act{running(putting(1), true), act(impl.AcSave), act(impl.AcOpen), crashing("", 0), act(9)}, impl.StNone, impl.StNone, impl.StNone, impl.StNone, impl.StForm)
	check("from the first one", impl.Disk{}, []impl.Act{act(impl.AcNew), running(putting(1), false), running(putting(1), false), running(putting(2), true), act(impl.AcSave), act(impl.AcNew), running(impl.Stmt{}, true), crashing("", 0)}, impl.StOk, impl.StOk, impl.StNot, impl.StOk, impl.StOk, impl.StForm, impl.StForm, impl.StOk)
	check("a log that is not good", torn, []impl.Act{running(putting(9), true), act(impl.AcSave), withPower(act(impl.AcOpen), 2), running(putting(9), true), act(impl.AcOpen), running(putting(9), true), act(impl.AcSave)}, impl.StTorn, impl.StTorn, impl.StPower, impl.StTorn, impl.StOk, impl.StOk, impl.StOk)
	check("power", impl.Disk{}, []impl.Act{withPower(act(impl.AcNew), 2), withPower(act(impl.AcNew), 4), withPower(running(putting(1), true), 1), withPower(act(impl.AcSave), 0), withPower(act(impl.AcSave), 3), act(impl.AcSave), crashing("", 0)}, impl.StPower, impl.StPower, impl.StPower, impl.StPower, impl.StPower, impl.StOk, impl.StOk)
	check("a crash", impl.Disk{}, []impl.Act{act(impl.AcNew), running(putting(1), false), running(putting(2), false), crashing("1", 99), running(putting(3), true), crashing("0", 0), crashing("", 0)}, impl.StOk, impl.StOk, impl.StOk, impl.StOk, impl.StOk, impl.StForm, impl.StOk)
	long := slices.Repeat([]impl.Act{running(inserting(impl.PoAbort, "p"), false)}, impl.MaxOps+1)
	_, codes := impl.StorePlay(s, bankDisk(t, 0, bankDb), long)
	if len(codes) != len(long) || codes[impl.MaxOps-1] != impl.StOk || codes[impl.MaxOps] != impl.StFull {
		t.Errorf("more acts than ops: %v", codes)
	}
}

// seenOn is what the view says, as a text.
func seenOn(s []impl.Table, d impl.Disk) string {
	db, code := impl.StoreView(s, d)
	return fmt.Sprintf("%d: %s", code, dbText(db))
}

// A history is what may be there behind a loss of power: what was there at the last sync, and behind each act since.
type history struct {
	seen []string
}

// step takes note of one more step, which left d.
func (h *history) step(s []impl.Table, d impl.Disk) {
	now := seenOn(s, d)
	if len(d.Ops) == 0 {
		h.seen = nil
	}
	if len(h.seen) == 0 || h.seen[len(h.seen)-1] != now {
		h.seen = append(slices.Clone(h.seen), now)
	}
}

// loses has power lost on d, and once more between any two steps of opening it again.
func (h *history) loses(t *testing.T, what string, s []impl.Table, d impl.Disk, keep []int64, torn int64) impl.Disk {
	t.Helper()
	a := impl.Act{Kind: impl.AcCrash, Keep: keep, Torn: torn, Power: -1}
	opened, code := impl.StoreDo(s, d, a)
	now := seenOn(s, opened)
	if !slices.Contains(h.seen, now) {
		t.Errorf("%s, %v kept, torn at %d: there is %q (code %d), want one of %q", what, keep, torn, now, code, h.seen)
	}
	for power := int64(0); ; power++ {
		cut, code := impl.StoreDo(s, d, withPower(a, power))
		for again := range 4 {
			var all []int64
			for i := range cut.Ops {
				if again&(1<<i) != 0 || again == 3 {
					all = append(all, int64(i))
				}
			}
			back, _ := impl.StoreDo(s, cut, impl.Act{Kind: impl.AcCrash, Keep: all, Torn: torn, Power: -1})
			if got := seenOn(s, back); got != now {
				t.Errorf("%s, %v kept, torn at %d, power %d, %v kept: there is %q, want %q", what, keep, torn, power, all, got, now)
			}
		}
		if code != impl.StPower {
			break
		}
	}
	return opened
}

// losesAll keeps any of the ops.
func (h *history) losesAll(t *testing.T, what string, s []impl.Table, d impl.Disk) {
	t.Helper()
	for set := range 1 << len(d.Ops) {
		var keep []int64
		torn := []int64{0, 1, 8, 20, impl.MaxBytes}
		for i := range d.Ops {
			if set&(1<<i) != 0 {
				keep = append(keep, int64(i))
				torn[4] = int64(len(d.Ops[i].Data))
			}
		}
		for _, at := range append(torn, torn[4]-1) {
			h.loses(t, what, s, d, keep, max(at, 0))
		}
		if set == 1<<len(d.Ops)-1 {
			opened, _ := impl.StoreDo(s, d, impl.Act{Kind: impl.AcCrash, Keep: keep, Torn: impl.MaxBytes, Power: -1})
			if got := seenOn(s, opened); got != h.seen[len(h.seen)-1] || got != seenOn(s, d) {
				t.Errorf("%s, all kept: there is %q, want %q", what, got, h.seen)
			}
		}
	}
}

// TestAnyLossOfPower loses power between any two steps of some acts, and keeps any of what was not synced.
func TestAnyLossOfPower(t *testing.T) {
	s := bank()
	runs := []impl.Act{running(putting(1), false), running(putting(2), false), running(inserting(impl.PoAbort, "c", "1 1", "2 2"), false)}
	changes := []impl.Act{running(updating(t, impl.PoAbort, "c", "", "1=null"), false), running(deleting(t, impl.PoAbort, "p", "#0 1 ="), true), running(putting(4), false)}
	for what, list := range map[string][]impl.Act{
		"runs": append(slices.Clone(runs), changes...), "runs and saves": {runs[0], act(impl.AcSave), runs[1], runs[2], act(impl.AcSave), act(impl.AcSave), changes[0], act(impl.AcOpen), changes[1]}, "synced runs": {running(putting(1), true), running(putting(2), true), runs[2], changes[1]},
		"saves that are cut off": {runs[0], withPower(act(impl.AcSave), 2), runs[1], withPower(act(impl.AcSave), 5), runs[2], withPower(act(impl.AcSave), 4), changes[0], withPower(act(impl.AcSave), 3), act(impl.AcSave)}, "a save that is cut off and goes on": {runs[0], withPower(act(impl.AcSave), 3), runs[1], runs[2], withPower(act(impl.AcSave), 1), changes[0]},
		"a log that was not gone": {runs[0], runs[1], withPower(act(impl.AcSave), 4), runs[2], crashing("", 0), changes[0], act(impl.AcSave)}, "a log that was almost gone": {runs[0], runs[1], withPower(act(impl.AcSave), 5), runs[2], changes[0], changes[1]},
		"crashes": {runs[0], runs[1], runs[2], crashing("0 2", 99), runs[1], runs[2], crashing("0 1", 5), runs[2], withPower(crashing("0", 9), 2), act(impl.AcOpen), changes[0]},
	} {
		var d impl.Disk
		h := history{[]string{seenOn(s, d)}}
		for i, a := range append([]impl.Act{withPower(act(impl.AcNew), 2), act(impl.AcNew)}, list...) {
			if a.Kind == impl.AcCrash {
				// What is kept is there at the next sync, which is that of the crash.
				h = history{}
			}
			for power := int64(0); ; power++ {
				if a.Power >= 0 && power > a.Power {
					break
				}
				cut, code := impl.StoreDo(s, d, withPower(a, power))
				h.step(s, cut)
				h.losesAll(t, fmt.Sprint(what, ", act ", i, ", power ", power), s, cut)
				if code != impl.StPower {
					break
				}
			}
			d, _ = impl.StoreDo(s, d, a)
			if t.Failed() {
				return
			}
		}
	}
}

// someAct is mostly one that can be done.
func (d *dice) someAct(t *testing.T, s []impl.Table, disk impl.Disk) impl.Act {
	db, _ := impl.StoreView(s, disk)
	a := impl.Act{Kind: oneOf(d, []int64{impl.AcNew, impl.AcRun, impl.AcRun, impl.AcRun, impl.AcRun, impl.AcRun, impl.AcSave, impl.AcOpen}), Sync: d.below(4) == 0, Power: -1}
	if len(db) > 0 {
		a.Stmt = d.stmt(t, s, db)
	}
	if d.below(3) == 0 {
		a.Power = int64(d.below(9))
	}
	if d.below(8) == 0 {
		a.Kind, a.Keep, a.Torn = impl.AcCrash, d.someKeep(len(disk.Ops)), int64(d.below(40))
	}
	if d.below(40) == 0 {
		a.Kind = int64(d.below(10) - 2)
	}
	return a
}

// TestStoresAgainstTheModel plays many acts on many disks; each time power might be lost.
func TestStoresAgainstTheModel(t *testing.T) {
	d := dice(81)
	met := map[int64]int{}
	for i := range 60 {
		s := d.schema()
		var disk impl.Disk
		h := history{[]string{seenOn(s, disk)}}
		for k := range 30 {
			what := fmt.Sprint("store ", i, ", act ", k)
			a := d.someAct(t, s, disk)
			next, code := acted(s, disk, a)
			met[code]++
			checkAct(t, what, s, disk, a, code)
			j, seen := journalOf(s, next)
			checkView(t, what, s, next, seen, j.db)
			if a.Kind == impl.AcCrash && code != impl.StForm {
				if !slices.Contains(h.seen, seenOn(s, next)) {
					t.Errorf("%s: there is %q, want one of %q", what, seenOn(s, next), h.seen)
				}
				h = history{}
			}
			for power := int64(1); code == impl.StOk || code == impl.StPower; power++ {
				cut, code := impl.StoreDo(s, disk, withPower(a, power))
				if a.Power >= 0 && power > a.Power {
					break
				}
				h.step(s, cut)
				if code != impl.StPower {
					break
				}
			}
			if len(h.seen) == 0 {
				h.step(s, next)
			}
			disk = next
			h.loses(t, what, s, disk, d.someKeep(len(disk.Ops)), int64(d.below(60)))
			if t.Failed() {
				return
			}
		}
	}
	for _, code := range []int64{impl.StOk, impl.StForm, impl.StPower, impl.StTorn, impl.StNone, impl.StNot} {
		if met[code] < 10 {
			t.Errorf("code %d was met %d times", code, met[code])
		}
	}
}

// TestDamagedStoresAgainstTheModel has bases and logs with some bytes that are others, and entries of all kinds.
func TestDamagedStoresAgainstTheModel(t *testing.T) {
	d := dice(82)
	met := map[int64]int{}
	for i := range 600 {
		s := d.schema()
		db := make([]impl.Data, len(s))
		if d.below(3) == 0 {
			db = d.soundDb(s)
		}
		n := int64(d.below(4))
		files := map[string]string{"base": baseOf(s, n, db), "log": ""}
		for range d.below(6) {
			x := d.stmt(t, s, db)
			entry := entryOf(n+1, x)
			switch d.below(12) {
			case 0:
				entry = fmt.Sprint(d.below(4), " ", oneOf(&d, []string{"", "x", entry}))
			case 1:
				entry = oneOf(&d, []string{"", "1", "9 x", entryOf(n+2, x)})
			}
			files["log"] += framed(entry)
			if next, code, _ := impl.Exec(s, db, x); code == impl.EcOk && impl.Sound(s, next) && entry == entryOf(n+1, x) {
				db, n = next, n+1
			}
		}
		if d.below(3) == 0 {
			name := oneOf(&d, []string{"base", "log", "log"})
			data := files[name]
			at := d.below(len(data) + 1)
			files[name] = data[:at] + oneOf(&d, []string{"", "x", "\x00", "0"}) + data[min(at+d.below(3), len(data)):]
		}
		if d.below(5) == 0 {
			files["base.new"] = "x"
		}
		disk := diskHolding(t, files)
		what := fmt.Sprint("store ", i)
		j, code := journalOf(s, disk)
		checkView(t, what, s, disk, code, j.db)
		for _, a := range []impl.Act{act(impl.AcNew), running(d.stmt(t, s, make([]impl.Data, len(s))), false), act(impl.AcSave), act(impl.AcOpen), withPower(act(impl.AcOpen), int64(d.below(8))), crashing("", 0)} {
			_, code := acted(s, disk, a)
			met[code]++
			checkAct(t, fmt.Sprint(what, ", act ", a.Kind), s, disk, a, code)
		}
		if t.Failed() {
			return
		}
	}
	for _, code := range []int64{impl.StOk, impl.StForm, impl.StPower, impl.StTorn, impl.StBad, impl.StNot} {
		if met[code] < 20 {
			t.Errorf("code %d was met %d times", code, met[code])
		}
	}
}
