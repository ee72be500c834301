package tests

import (
	"fmt"
	"slices"
	"strings"
	"testing"

	"loop.example/g00570/impl"
)

// linesOf ends each line.
func linesOf(lines ...string) string {
	out := ""
	for _, line := range lines {
		out += line + "\n"
	}
	return out
}

// A play has lines of a script, and behind => what each of them says; without that it says nothing.
func scriptOf(play string) ([]string, []string) {
	var lines, said []string
	for _, part := range strings.Split(strings.TrimSpace(play), "\n") {
		line, says, saysIt := strings.Cut(strings.TrimLeft(part, "\t"), " => ")
		lines = append(lines, line)
		if saysIt {
			said = append(said, says)
		}
	}
	return lines, said
}

func checkSaid(t *testing.T, what string, s []impl.Table, text string, want string) {
	t.Helper()
	if got := impl.RunScript(s, text); got != want {
		t.Errorf("%s: %.500q says\n%q, want\n%q", what, text, got, want)
	}
}

// checkPlay looks at all first lines of the script, too, and at the script with lines between that ask.
func checkPlay(t *testing.T, what string, s []impl.Table, play string) {
	t.Helper()
	lines, said := scriptOf(play)
	checkSaid(t, what, s, linesOf(lines...), linesOf(said...))
	checkCuts(t, what, s, lines)
	checkAsked(t, what, s, lines)
}

func isMute(line string) bool { return strings.Count(line, " ") == len(line) }

// saidBy is how many lines these lines say.
func saidBy(lines []string) int {
	n := 0
	for _, line := range lines {
		if !isMute(line) {
			n++
		}
	}
	return n
}

// saidLines is for a script that is not too long.
func saidLines(t *testing.T, what string, s []impl.Table, lines []string) []string {
	t.Helper()
	said := strings.SplitAfter(impl.RunScript(s, linesOf(lines...)), "\n")
	said = said[:len(said)-1]
	if len(said) != saidBy(lines) {
		t.Fatalf("%s: %q says %q", what, lines, said)
	}
	return said
}

// checkCuts: what the first lines say alone is said with more lines behind them.
func checkCuts(t *testing.T, what string, s []impl.Table, lines []string) {
	t.Helper()
	said := saidLines(t, what, s, lines)
	for n := range lines {
		if first := saidLines(t, what, s, lines[:n]); !slices.Equal(first, said[:len(first)]) {
			t.Errorf("%s: %q says %q alone, %q with more behind", what, lines[:n], first, said)
		}
	}
}

// checkAsked: lines that ask change nothing, wherever they stand, as many as there is room for.
func checkAsked(t *testing.T, what string, s []impl.Table, lines []string) {
	t.Helper()
	said := saidLines(t, what, s, lines)
	asks := []string{"flaws", "show p", "show c", "show", "show x"}
	for start := range lines {
		var with []string
		asked := map[int]bool{}
		for i, line := range lines {
			for k := 0; i >= start && k <= i%3 && len(with)+len(lines)-i < impl.MaxScript; k++ {
				asked[saidBy(with)] = true
				with = append(with, asks[(i+k+start)%len(asks)])
			}
			with = append(with, line)
		}
		if len(linesOf(with...)) > impl.MaxLines {
			continue
		}
		var rest []string
		for i, line := range saidLines(t, what, s, with) {
			if !asked[i] {
				rest = append(rest, line)
			}
		}
		if !slices.Equal(rest, said) {
			t.Errorf("%s: %q says %q, with lines that ask %q", what, lines, said, rest)
		}
	}
}

// desk has a table p of a Key below 100, a text and a number that no other row has; c that refers to it at once, e that refers to itself, and r that refers twice and may wait.
func desk() []impl.Table {
	return []impl.Table{
		{
			Name: "p", Cols: []impl.Col{notNull(intCol("k")), textCol("t"), notNull(intCol("u"))}, Key: []int64{0},
			Uniques: []impl.Unique{{Cols: []int64{2}}},
			Checks:  []impl.Check{{Expr: []impl.Tok{col(0), constant(num(100)), opTok(impl.EtLess)}}},
		},
		{Name: "c", Cols: []impl.Col{notNull(intCol("k")), intCol("p")}, Key: []int64{0}, Fks: []impl.Fk{{Cols: []int64{1}, Table: "p"}}},
		{Name: "e", Cols: []impl.Col{notNull(intCol("k")), intCol("up")}, Key: []int64{0}, Fks: []impl.Fk{{Cols: []int64{1}, Table: "e", OnDelete: impl.FkCascade}}},
		{
			Name: "r", Cols: []impl.Col{notNull(intCol("k")), intCol("p"), intCol("e")}, Key: []int64{0},
			Fks: []impl.Fk{{Cols: []int64{1}, Table: "p", Deferred: true}, {Cols: []int64{2}, Table: "e", Deferred: true}},
		},
		plain("full", 1),
	}
}

func TestScriptOfALine(t *testing.T) {
	for line, said := range map[string]string{
		"begin": "ok", "rollback": "no", "commit": "no", "mark a": "no", "back a": "no", "keep a": "no", "flaws": "flaws", "show p": "rows", "show full": "rows",
		"insert abort p 3,1,'a',2": "done 0 1", "insert abort p": "done 0 0", "insert abort p 3,1,null,2 3,2,null,3": "done 0 2", "update fail p where ": "done 0 0", "delete rollback r where ": "done 0 0",
		"update ignore p set 0 1 where #1 isnull": "done 0 0", "delete replace e where #0 5 <": "done 0 0", "insert abort p 3,null,null,2": "done 2 0", "insert ignore p 3,100,null,2": "done 0 0", "insert abort p 3,100,null,2": "done 3 0",
		"insert abort c 2,1,9": "done 5 0", "insert abort r 3,1,9,null": "done 5 0", "insert fail p 3,1,null,2 3,1,null,3": "done 4 1",
	} {
		checkSaid(t, line, desk(), line+"\n", said+"\n")
		checkSaid(t, line, desk(), "\n  \n"+line+"\n\n \n", said+"\n")
	}
	checkSaid(t, "no lines", desk(), "", "")
	checkSaid(t, "no tables, no lines", nil, "", "")
	checkPlay(t, "no tables", []impl.Table{}, `
		begin => ok
		flaws => flaws
		show p => what
		insert abort p => what
		mark a => ok
		commit => done 0
		commit => no`)
}

// TestScriptOfASchemaThatIsNotRight: that is told ahead of all, whatever the text.
func TestScriptOfASchemaThatIsNotRight(t *testing.T) {
	six := []impl.Table{plain("a", 1), plain("b", 1), plain("d", 1), plain("e", 1), plain("f", 1), plain("g", 1)}
	key, name, fk, check := desk(), desk(), desk(), desk()
	key[4].Key = nil
	name[3].Name = "p"
	fk[2].Fks[0].Table = "x"
	check[0].Checks[0].Expr = nil
	for _, s := range [][]impl.Table{{{}}, six, key, name, fk, check} {
		for _, text := range []string{"", "\n", "begin\n", "begin", " ", strings.Repeat("\n", impl.MaxScript+1), strings.Repeat(" ", impl.MaxLines) + "\n", strings.Repeat("x", 100000)} {
			checkSaid(t, "a schema that is not right", s, text, "no schema\n")
		}
	}
	checkSaid(t, "as many tables as there may be", six[:5], "show f\n", "rows\n")
}

func TestScriptsOfManyLines(t *testing.T) {
	for _, line := range []string{"begin", "flaws", "show p", "x", "insert abort e", "", " ", "     ", "rollback"} {
		said := ""
		for n := range impl.MaxScript + 3 {
			text := strings.Repeat(line+"\n", n)
			switch {
			case n > impl.MaxScript:
				said = "too long\n"
			case line == "begin" && n == 1:
				said = "ok\n"
			case n > 0:
				said += map[string]string{"begin": "no\n", "flaws": "flaws\n", "show p": "rows\n", "x": "what\n", "insert abort e": "done 0 0\n", "rollback": "no\n"}[line]
			}
			checkSaid(t, fmt.Sprint(n, " lines"), desk(), text, said)
			// One that is not ended is one too many, or too long by itself.
			for _, last := range []string{"begin", " ", "x", "\r", "\x00"} {
				checkSaid(t, fmt.Sprint(n, " lines and one that is not ended"), desk(), text+last, "too long\n")
			}
		}
	}
	// Lines that say nothing count, wherever they stand.
	for at := range impl.MaxScript {
		lines := slices.Repeat([]string{"flaws"}, impl.MaxScript)
		for i, mute := range []string{"", " ", "   "} {
			lines[(at+i)%impl.MaxScript] = mute
		}
		checkSaid(t, "lines that say nothing", desk(), linesOf(lines...), strings.Repeat("flaws\n", impl.MaxScript-3))
		for _, more := range []string{"", " ", "flaws"} {
			checkSaid(t, "one line more", desk(), linesOf(slices.Insert(slices.Clone(lines), at, more)...), "too long\n")
			checkSaid(t, "one line more, behind", desk(), linesOf(append(slices.Clone(lines), more)...), "too long\n")
		}
	}
	checkSaid(t, "very many lines", desk(), strings.Repeat("\n", 1000000), "too long\n")
}

func TestScriptsOfManyBytes(t *testing.T) {
	for n := impl.MaxLines - 2; n <= impl.MaxLines+2; n++ {
		for first, said := range map[string]string{"": "", "begin\n": "ok\n", "insert abort e 2,1,null\nshow e\n": "done 0 1\nrows 1:2,1,null\n", "\n\n \n": ""} {
			rest := n - len(first) - 1
			for line, says := range map[string]string{strings.Repeat(" ", rest): "", strings.Repeat("x", rest): "what\n", "mark " + strings.Repeat("a", rest-5): "no\n", "flaws" + strings.Repeat(" ", rest-5): "what\n", strings.Repeat("\xff", rest): "what\n"} {
				want := said + says
				if n > impl.MaxLines {
					want = "too long\n"
				}
				checkSaid(t, fmt.Sprint(n, " bytes"), desk(), first+line+"\n", want)
				checkSaid(t, fmt.Sprint(n, " bytes, not ended"), desk(), first+line, "too long\n")
			}
		}
	}
	// Of these bytes none is too many, in as many lines as there may be.
	long := "insert abort p" + strings.Repeat(" 3,1,'%00%00%00%00',1", 4) + "0"
	text := strings.Repeat(long+"\n", impl.MaxScript)
	if len(text) != impl.MaxLines {
		t.Fatal("the text has", len(text), "bytes")
	}
	checkSaid(t, "as many lines and bytes", desk(), text, strings.Repeat("done 4 0\n", impl.MaxScript))
	checkSaid(t, "one byte more", desk(), " "+text, "too long\n")
	checkSaid(t, "very many bytes", desk(), strings.Repeat("x", 10000000)+"\n", "too long\n")
}

// TestLinesThatAreNone: blanks stand just as the chapter has them, and so do all other bytes.
func TestLinesThatAreNone(t *testing.T) {
	for _, line := range []string{
		"fly", "x", "what", "ok", "done", "a", "#", "'", "0", "1,1", ",", ";", "begin;", "table p", "schema", "set", "where", "abort", "p", "begin 1", "begin begin", "rollback a", "commit a", "commit 0", "flaws p", "flaws flaws",
		"mark", "back", "keep", "show", "show ", "mark a b", "back a b", "keep a b", "show p c", "show p p", "mark  a", "back  a", "keep  a", "show  p", "mark a ", "back a ", "keep a ", "show p ", "mark  ", "back  ", "keep  ", "show  ", " mark", "mark\ta", "show\tp", "mark,a", "marka", "showp", "mark:a", "mark\x00a",
		"show x", "show P", "show pp", "show 0", "show p\t", "show p\r", "show p\x00", "show 'p'", "show *", "show \xff", "show ,", "show flaws", "show e e",
		"insert", "update", "delete", "insert ", "update ", "delete ", "insert abort", "insert abort ", "update abort p", "update abort p where", "delete abort p", "delete abort p where", "delete abort where ", "insert abort x 1,1", "delete abort x where ", "update abort x where ", "insert abort P 3,1,null,1", "insert none p 3,1,null,1", "insert p 3,1,null,1", "replace abort p 3,1,null,1", "select p", "insert abort p set 0 1", "insert abort p where ",
		"insert abort p 2,1,null", "insert abort p 4,1,null,1,1", "insert abort p 3,'1',null,1", "insert abort p 3,1,1,1", "insert abort p 3,1,null", "insert abort p 3,1,null,1,1", "insert abort p 1,1", "insert abort p 0", "insert abort p 3,01,null,1", "insert abort p 3,1000000001,null,1", "insert abort p 3,1,'1234567890123',1",
		"insert abort full" + strings.Repeat(" 1,1", 9), "insert abort full 1,1 ", "insert abort full  1,1", "insert  abort full 1,1", "insert abort  full 1,1", "update abort p set 3 1 where ", "update abort p set 0 #3 where ", "update abort p set 0 1 set 0 2 where ", "update abort p set 0 where ", "update abort p set 0 1", "update abort p set 8 1 where ", "update abort p set -1 1 where ", "update abort p where #3", "delete abort p where #3", "delete abort p where #0 #0", "delete abort p where  ", "delete abort p where #0 ", "delete abort p set 0 1 where ", "delete abort p where =",
		"insert abort full 1,1\r", "update abort p where \r", "delete abort p where \r", "insert abort full\r", "insert\tabort full 1,1", "insert abort full 1,1\x00", "delete abort p where \x00", "\x00insert abort full 1,1",
		"\t", "\r", "\v", "\f", "\x00", "\xff", "\u00a0", "\u0085", "\u2028", "\ufeff", "\ufeffbegin", " \t", "\t ", " \r", " \x00 ", "\x1f", "!", "\u00e9", "\x80", "begin\u00a0", "begin\u2028", "Begin", "BEGIN", "beg\x00in",
	} {
		checkSaid(t, "no line", desk(), line+"\n", "what\n")
		checkSaid(t, "no line, begun", desk(), linesOf("begin", "mark a", line, "flaws", "back a", "commit"), linesOf("ok", "ok", "what", "flaws", "ok", "done 0"))
	}
	right := []string{"begin", "rollback", "commit", "flaws", "mark a", "back a", "keep a", "show p", "insert abort full 1,1", "update abort full set 0 1 where ", "delete abort full where #0 1 ="}
	for _, line := range right {
		for _, other := range []string{" " + line, "  " + line, "\t" + line, "\x00" + line, "x" + line, line + "  ", line + "  x", line + " x y", line + "; begin", strings.ToUpper(line), strings.Replace(line, "a", "A", 1) + " ", strings.ReplaceAll(line+"x ", " ", "  ")} {
			checkSaid(t, "a line with more", desk(), other+"\n", "what\n")
		}
		word, _, named := strings.Cut(line, " ")
		for n := 1; n < len(word); n++ {
			checkSaid(t, "the first letters of a word", desk(), word[:n]+"\n", "what\n")
			checkSaid(t, "the first letters of a word", desk(), line[:n]+line[len(word):]+"\n", "what\n")
			checkSaid(t, "the last letters of a word", desk(), line[n:]+"\n", "what\n")
		}
		if !named {
			for c := range 256 {
				if c != '\n' {
					checkSaid(t, "a byte more", desk(), line+string([]byte{byte(c)})+"\n", "what\n")
				}
			}
		}
	}
}

// TestNamesInScripts: what stands behind the blank is the name, and what is none can not be.
func TestNamesInScripts(t *testing.T) {
	for _, name := range rightNames() {
		checkPlay(t, "a name", desk(), strings.ReplaceAll(`
			mark W => no
			keep W => no
			begin => ok
			back W => no
			mark W => ok
			back W => ok
			keep W => ok
			back W => no`, "W", name))
	}
	for _, name := range wrongNames() {
		if len(name) > 1000 || strings.Contains(name, "\n") {
			continue
		}
		says := "no"
		if strings.Contains(name, " ") {
			says = "what"
		}
		for _, word := range []string{"mark", "back", "keep"} {
			line := word + " " + name
			checkSaid(t, "a name that is none", desk(), linesOf(line, "begin", line, "mark a", line, "keep a", "commit"), linesOf(says, "ok", says, "ok", says, "ok", "done 0"))
		}
		checkSaid(t, "a table that is none", desk(), "show "+name+"\n", "what\n")
	}
}

func TestSessionsInScripts(t *testing.T) {
	checkPlay(t, "begun twice", desk(), `
		begin => ok
		begin => no
		insert abort p 3,1,'a',1 => done 0 1
		begin => no
		rollback => ok
		show p => rows
		rollback => no
		begin => ok
		insert abort p 3,1,'b',1 => done 0 1
		commit => done 0
		commit => no
		show p => rows 1:3,1,'b',1
		begin => ok
		delete abort p where  => done 0 1
		show p => rows
		rollback => ok
		show p => rows 1:3,1,'b',1`)
	checkPlay(t, "nothing is open", desk(), `
		rollback => no
		commit => no
		mark a => no
		back a => no
		keep a => no
		insert abort p 3,1,'a',1 => done 0 1
		rollback => no
		back a => no
		show p => rows 1:3,1,'a',1`)
	checkPlay(t, "what waits is not committed", desk(), `
		begin => ok
		mark a => ok
		insert abort r 3,1,7,null => done 0 1
		commit => done 5
		begin => no
		flaws => flaws 4:r:1
		commit => done 5
		mark b => ok
		insert abort p 3,7,null,1 => done 0 1
		flaws => flaws
		back b => ok
		commit => done 5
		keep b => ok
		keep b => no
		insert abort p 3,7,null,2 => done 0 1
		commit => done 0
		back a => no
		show r => rows 1:3,1,7,null
		show p => rows 1:3,7,null,2`)
	checkPlay(t, "back to the begin from what waits", desk(), `
		insert abort p 3,1,null,1 => done 0 1
		begin => ok
		insert abort r 3,1,1,9 => done 0 1
		delete abort p where  => done 0 1
		commit => done 5
		flaws => flaws 4:r:1
		rollback => ok
		flaws => flaws
		show p => rows 1:3,1,null,1
		show r => rows`)
	checkPlay(t, "what waits is not even begun", desk(), `
		insert abort r 3,1,1,9 => done 5 0
		show r => rows
		insert abort p 3,1,null,1 => done 0 1
		insert abort r 3,1,1,null => done 0 1
		delete abort p where  => done 5 0
		update abort r set 2 4 where  => done 5 0
		show r => rows 1:3,1,1,null
		show p => rows 1:3,1,null,1`)
}

func TestMarksInScripts(t *testing.T) {
	checkPlay(t, "marks", desk(), `
		begin => ok
		mark a => ok
		insert abort full 1,1 => done 0 1
		mark b => ok
		insert abort full 1,2 => done 0 1
		mark a => ok
		delete abort full where #0 1 = => done 0 1
		show full => rows 2:1,2
		back a => ok
		show full => rows 1:1,1 2:1,2
		back b => ok
		show full => rows 1:1,1
		back a => ok
		show full => rows
		back b => no
		mark b => ok
		insert abort full 1,3 => done 0 1
		keep a => ok
		back b => no
		back a => no
		show full => rows 1:1,3
		commit => done 0
		back a => no
		show full => rows 1:1,3`)
	checkPlay(t, "names that are there already", desk(), `
		begin => ok
		mark a => ok
		insert abort full 1,1 => done 0 1
		mark a => ok
		insert abort full 1,2 => done 0 1
		keep a => ok
		back x => no
		show full => rows 1:1,1 2:1,2
		back a => ok
		show full => rows
		keep a => ok
		keep a => no
		rollback => ok
		begin => ok
		back a => no`)
	most := []string{"begin"}
	said := []string{"ok"}
	for i := range impl.MaxSaves {
		most = append(most, fmt.Sprintf("insert abort full 1,%d", i), []string{"mark a", "mark b"}[i%2])
		said = append(said, "done 0 1", "ok")
	}
	play := ""
	for i := range most {
		play += most[i] + " => " + said[i] + "\n"
	}
	checkPlay(t, "as many marks as there may be", desk(), play+`
		mark a => no
		mark c => no
		mark A => no
		keep c => no
		delete abort full where  => done 0 8
		back a => ok
		show full => rows 1:1,0 2:1,1 3:1,2 4:1,3 5:1,4 6:1,5 7:1,6
		mark c => ok
		mark d => no
		back b => ok
		show full => rows 1:1,0 2:1,1 3:1,2 4:1,3 5:1,4 6:1,5
		mark d => ok
		mark e => ok
		mark f => no
		keep d => ok
		mark f => ok`)
}

func TestShowInScripts(t *testing.T) {
	checkPlay(t, "rows", desk(), `
		show p => rows
		insert abort p 3,-1000000000,'',1000000000 3,0,'%00%25%20',-1 3,99,null,0 => done 0 3
		show p => rows 1:3,-1000000000,'',1000000000 2:3,0,'%00%25%20',-1 3:3,99,null,0
		show c => rows
		insert abort c 2,-5,null 2,5,99 => done 0 2
		delete abort c where #0 0 < => done 0 1
		show c => rows 2:2,5,99
		insert abort c 2,-5,0 => done 0 1
		update abort c set 1 null where #1 99 = => done 0 1
		show c => rows 2:2,5,null 3:2,-5,0
		delete abort c where  => done 0 2
		show c => rows
		delete abort p where #1 isnull => done 0 1
		show p => rows 1:3,-1000000000,'',1000000000 2:3,0,'%00%25%20',-1
		insert abort p 3,7,'~!',7 => done 0 1
		show p => rows 1:3,-1000000000,'',1000000000 2:3,0,'%00%25%20',-1 3:3,7,'~!',7
		show e => rows
		show r => rows
		show full => rows`)
	// Tables have names that are words of a script, too.
	words := []impl.Table{plain("show", 1), plain("flaws", 8), plain("begin", 1), plain("where", 1), plain("insert", 1)}
	checkPlay(t, "words", words, `
		insert abort show 1,1 => done 0 1
		insert abort insert 1,2 => done 0 1
		show show => rows 1:1,1
		show insert => rows 1:1,2
		insert abort flaws 8,1,2,3,4,5,6,7,8 => done 0 1
		show flaws => rows 1:8,1,2,3,4,5,6,7,8
		flaws => flaws
		begin => ok
		show begin => rows
		delete abort where where  => done 0 0
		delete abort where where #0 1 = => done 0 0
		mark show => ok
		mark mark => ok
		back show => ok
		mark => what
		flaws flaws => what
		show => what`)
}

// TestLongNumbersInScripts has Ids and numbers of rows of two digits.
func TestLongNumbersInScripts(t *testing.T) {
	lines := append([]string{"begin"}, puttingLines("r", "3,%,7,null", 1, 16)...)
	lines = append(lines, "delete abort r where #0 7 <", "update abort r set 2 #0 where ", "flaws", "show r", "commit")
	flaws, rows := "flaws", "rows"
	for id := 7; id <= 16; id++ {
		flaws += fmt.Sprintf(" 4:r:%d", id)
		rows += fmt.Sprintf(" %d:3,%d,7,%d", id, id, id)
	}
	checkSaid(t, "ids", desk(), linesOf(lines...), linesOf("ok", "done 0 8", "done 0 8", "done 0 6", "done 0 10", flaws, rows, "done 5"))
}

func TestFlawsInScripts(t *testing.T) {
	s := desk()
	s[4] = impl.Table{Name: "w", Cols: []impl.Col{notNull(intCol("k")), intCol("w")}, Key: []int64{0}, Fks: []impl.Fk{{Cols: []int64{1}, Table: "w", Deferred: true}}}
	checkPlay(t, "flaws", s, `
		flaws => flaws
		begin => ok
		flaws => flaws
		insert abort w 2,1,8 2,2,1 => done 0 2
		flaws => flaws 4:w:1
		insert abort r 3,1,8,null 3,2,null,null 3,3,8,9 3,4,null,9 => done 0 4
		flaws => flaws 4:r:1 4:r:3 4:r:4 4:w:1
		insert abort p 3,8,null,1 => done 0 1
		flaws => flaws 4:r:3 4:r:4 4:w:1
		update abort w set 1 #0 where #0 1 = => done 0 1
		flaws => flaws 4:r:3 4:r:4
		delete abort w where #0 1 = => done 0 1
		flaws => flaws 4:r:3 4:r:4 4:w:2
		insert abort e 2,9,null => done 0 1
		flaws => flaws 4:w:2
		commit => done 5
		flaws => flaws 4:w:2
		rollback => ok
		flaws => flaws`)
}

// refused has, by code, statements that are refused for it in the database of deskLines, with @ for the policy.
func refused() map[int64][]string {
	return map[int64][]string{
		impl.EcNull:   {"insert @ p 3,null,'x',9", "insert @ p 3,5,'x',null", "update @ p set 2 null where #0 2 ="},
		impl.EcCheck:  {"insert @ p 3,100,'x',9", "update @ p set 0 #0 98 + where #0 2 ="},
		impl.EcUnique: {"insert @ p 3,2,'x',9", "insert @ p 3,5,'x',2", "update @ e set 0 12 where #0 13 ="},
		impl.EcFk:     {"delete @ p where #0 1 =", "insert @ c 2,5,9", "update @ c set 1 9 where ", "update @ p set 0 3 where #0 1 ="},
		impl.EcDepth:  {"delete @ e where #0 1 ="},
		impl.EcFull:   {"insert @ full 1,99"},
		impl.EcEval:   {"delete @ p where #1", "update @ p where #1 #1 +", "update @ p set 2 #1 where #0 2 =", "update @ p set 1 #1 1 + where #0 2 ="},
	}
}

// puttingLines put in a row for each number, eight a line; in the record % stands for the number.
func puttingLines(table string, record string, from int, to int) []string {
	var lines []string
	for first := from; first <= to; first += 8 {
		line := "insert abort " + table
		for n := first; n < first+8 && n <= to; n++ {
			line += " " + strings.ReplaceAll(record, "%", fmt.Sprint(n))
		}
		lines = append(lines, line)
	}
	return lines
}

// deskLines put rows into the tables of desk: e is a chain, of which 14 rows would go with the first one.
func deskLines() []string {
	lines := []string{"insert abort p 3,1,'a',1 3,2,'b',2", "insert abort c 2,1,1"}
	lines = append(lines, puttingLines("full", "1,%", 1, impl.MaxRows)...)
	lines = append(lines, puttingLines("e", "2,%,null", 1, 14)...)
	return append(lines, "update abort e set 1 #0 1 - where #0 1 = not")
}

var policyNames = []string{"abort", "fail", "ignore", "replace", "rollback"}

// TestRefusalsInScripts has each code with each policy, where nothing is open and where something is.
func TestRefusalsInScripts(t *testing.T) {
	ahead := deskLines()
	shows := []string{"show p", "show c", "show e", "show full", "flaws"}
	was := saidLines(t, "the rows", desk(), append(slices.Clone(ahead), shows...))[len(ahead):]
	for code, list := range refused() {
		for _, x := range list {
			for policy, name := range policyNames {
				line := strings.Replace(x, "@", name, 1)
				wantCode, wantDone, _ := expected(int64(policy), code, 0, 1)
				if code == impl.EcUnique && policy == impl.PoReplace {
					// There the rivals go.
					wantCode, wantDone = impl.EcOk, 1
				}
				says := fmt.Sprintf("done %d %d\n", wantCode, wantDone)
				if strings.HasPrefix(line, "update replace e") {
					// Its rival is the row that it refers to, and takes it along.
					says = "done 9 0\n"
				}
				got := saidLines(t, line, desk(), slices.Concat(ahead, []string{line}, shows))[len(ahead):]
				if got[0] != says || !strings.HasPrefix(says, "done 0 1") && !slices.Equal(got[1:], was) {
					t.Errorf("%s: %q, want %q and the rows as they were", line, got, says)
				}
				begun := saidLines(t, line, desk(), slices.Concat(ahead, []string{"begin", "insert abort c 2,8,null", line, "begin", "rollback"}, shows))[len(ahead):]
				open, ends := "no\n", "ok\n"
				if policy == impl.PoRollback && wantCode != impl.EcOk {
					// It is closed already, and begun once more.
					open = "ok\n"
				}
				if want := slices.Concat([]string{"ok\n", "done 0 1\n", says, open, ends}, was); !slices.Equal(begun, want) {
					t.Errorf("%s, begun: %q, want %q", line, begun, want)
				}
			}
		}
	}
}

// TestPoliciesInScripts: of three rows the second one is refused.
func TestPoliciesInScripts(t *testing.T) {
	for policy, says := range []string{"done 4 0", "done 4 1", "done 0 2", "done 0 3", "done 4 0"} {
		rows := []string{"rows 1:1,1", "rows 1:1,1 2:1,2", "rows 1:1,1 2:1,2 3:1,3", "rows 2:1,2 3:1,1 4:1,3", "rows 1:1,1"}[policy]
		play := fmt.Sprintf("insert abort full 1,1 => done 0 1\ninsert %s full 1,2 1,1 1,3 => %s\nshow full => ", policyNames[policy], says)
		checkPlay(t, policyNames[policy], desk(), play+rows)
		open := "done 0"
		if policy == impl.PoRollback {
			open, rows = "no", "rows"
		}
		checkPlay(t, policyNames[policy]+", begun", desk(), "begin => ok\n"+play+rows+"\nback a => no\ncommit => "+open+"\nshow full => "+rows)
	}
}

// A teller is chapter 16 told once more.
type teller struct {
	session impl.Session
}

func (l *teller) step(next impl.Session, ok bool) string {
	if !ok {
		return "no"
	}
	l.session = next
	return "ok"
}

func (l *teller) line(line string) string {
	words := strings.Split(line, " ")
	switch {
	case line == "begin":
		return l.step(impl.Begin(l.session))
	case line == "rollback":
		return l.step(impl.Rollback(l.session))
	case line == "commit":
		next, code := impl.Commit(l.session)
		if isForm(code) {
			return "no"
		}
		l.session = next
		return fmt.Sprintf("done %d", code)
	case len(words) == 2 && slices.Contains([]string{"mark", "back", "keep"}, words[0]):
		return l.step(steps[words[0]](l.session, words[1]))
	case len(words) == 2 && words[0] == "show":
		for i, table := range l.session.Schema {
			if table.Name == words[1] {
				said := "rows"
				for _, r := range l.session.Db[i].Rows {
					said += fmt.Sprintf(" %d:%s", r.Id, recordOf(r.Vals))
				}
				return said
			}
		}
	case line == "flaws":
		said := "flaws"
		for _, f := range allFlaws(l.session.Schema, l.session.Db, true) {
			said += fmt.Sprintf(" %d:%s:%d", f.Kind, l.session.Schema[f.Table].Name, f.Id)
		}
		return said
	}
	if x, ok := impl.ReadStmt(line); ok && impl.StmtOk(l.session.Schema, x) {
		next, code, done := impl.Run(l.session, x)
		l.session = next
		return fmt.Sprintf("done %d %d", code, done)
	}
	return "what"
}

// told is what a script says, told once more.
func told(s []impl.Table, text string) string {
	session, ok := impl.SessionNew(s)
	if !ok {
		return "no schema\n"
	}
	lines := strings.Split(text, "\n")
	if last := len(lines) - 1; lines[last] != "" || last > impl.MaxScript || len(text) > impl.MaxLines {
		return "too long\n"
	}
	l := teller{session}
	said := ""
	for _, line := range lines {
		if !isMute(line) {
			said += l.line(line) + "\n"
		}
	}
	return said
}

// TestMisspeltScripts has scripts with a byte or a word that is another one, of which most say what.
func TestMisspeltScripts(t *testing.T) {
	texts := []string{
		linesOf("insert abort p 3,1,'a',1", "begin", "update fail p set 1 null where #0 1 =", "show p"),
		linesOf("begin", "insert ignore r 3,1,7,null", "mark a", "flaws", "back a", "keep a", "commit", "rollback"),
		linesOf("", "delete abort p where ", "  ", "rollback", "show c"),
	}
	met := map[string]int{}
	for _, text := range texts {
		for _, other := range append(append(misspelt(text), reworded(text, " ", "", "a", "p", "begin", "show")...), reworded(text, "\n", "", " ", "flaws", "show p", "begin", "x", "mark b")...) {
			checkSaid(t, "misspelt", desk(), other, told(desk(), other))
			for _, line := range strings.Split(told(desk(), other), "\n") {
				word, _, _ := strings.Cut(line, " ")
				met[word]++
			}
		}
	}
	for _, word := range []string{"what", "too", "no", "ok", "done", "rows", "flaws"} {
		if met[word] < 50 {
			t.Errorf("%q was said only %d times", word, met[word])
		}
	}
}

// someRows are lines that put some rows in, a row a line.
func (d *dice) someRows(l *teller) []string {
	var lines []string
	for range 40 {
		s := l.session
		table := d.below(len(s.Schema))
		line := stmtWords(impl.Stmt{Kind: impl.StInsert, Table: s.Schema[table].Name, Rows: []impl.Row{{Vals: d.row(s.Schema, s.Db, table)}}})
		if len(lines) < 10 && l.line(line) == "done 0 1" {
			lines = append(lines, line)
		}
	}
	return lines
}

// someLine is mostly one that can be done.
func (d *dice) someLine(t *testing.T, l *teller) string {
	s := l.session
	name := oneOf(d, []string{"a", "b", "a", "b", "a", "b", "c", "A", ""})
	asked := []string{"begin", "begin", "show " + name, "flaws", "mark " + name, "any", "", "  ", "stmt", "stmt", "stmt", "stmt"}
	if s.Open || d.below(4) == 0 {
		asked = append(asked, "mark "+name, "back "+name, "back "+name, "keep "+name, "commit", "rollback", "stmt", "stmt", "stmt", "stmt")
	}
	line := oneOf(d, asked)
	switch line {
	case "stmt":
		line = stmtWords(d.stmt(t, s.Schema, s.Db))
	case "any":
		line = stmtWords(d.anyStmt())
	}
	if line != "" && d.below(15) == 0 {
		i := d.below(len(line))
		line = line[:i] + oneOf(d, []string{"", " ", "x", "1", "\x00", "\r", "  ", "#"}) + line[min(i+d.below(2), len(line)):]
	}
	return line
}

// TestScriptsAgainstTheTeller: of many scripts, too, the first lines say what they say alone, and lines that ask change nothing.
func TestScriptsAgainstTheTeller(t *testing.T) {
	d := dice(91)
	met := map[string]int{}
	for i := range 400 {
		s := d.schema()
		session, _ := impl.SessionNew(s)
		l := teller{session}
		lines := d.someRows(&l)
		for range impl.MaxScript - len(lines) {
			line := d.someLine(t, &l)
			if len(linesOf(lines...))+len(line) >= impl.MaxLines {
				continue
			}
			lines = append(lines, line)
			if !isMute(line) {
				said := l.line(line)
				word, _, _ := strings.Cut(line, " ")
				met[word+", "+said[:min(len(said), 6)]]++
			}
		}
		what := fmt.Sprint("script ", i)
		text := linesOf(lines...)
		checkSaid(t, what, s, text, told(s, text))
		checkSaid(t, what+", again", s, text, told(s, text))
		if i%4 == 0 {
			checkCuts(t, what, s, lines)
			checkAsked(t, what, s, lines[:d.below(len(lines))])
		}
		if t.Failed() {
			return
		}
	}
	for _, what := range []string{
		"begin, ok", "begin, no", "rollback, ok", "rollback, no", "commit, no", "commit, done 0", "mark, ok", "mark, no", "back, ok", "back, no", "keep, ok", "keep, no", "show, rows", "show, rows 1", "show, what", "flaws, flaws",
		"insert, done 0", "insert, what", "insert, done 2", "insert, done 4", "insert, done 5", "update, done 0", "update, what", "update, done 5", "update, done 8", "delete, done 0", "delete, what", "delete, done 5",
	} {
		if met[what] < 20 {
			t.Errorf("%s: only %d times", what, met[what])
		}
	}
	if met["commit, done 5"] < 5 {
		t.Error("too few commits of what waits:", met["commit, done 5"])
	}
}
