package object_test

import (
	"math/rand"
	"regexp"
	"slices"
	"strconv"
	"strings"
	"testing"

	"gitlike/api"
	"gitlike/digest"
	"gitlike/object"
)

const (
	emptyTree = "4b825dc642cb6eb9a060e54bf8d69288fbee4904"
	parentOne = "parent 0700000000000000000000000000000000000000\n"
	parentTwo = "parent 0100000000000000000000000000000000000000\n"
	aCommit   = "tree " + emptyTree + "\n" + parentOne + parentTwo + "author Ann <ann@x> 1000000000 -0130\ncommitter Bob B. <> 7 +1359\n\na message\n\nof lines\n"
)

// ann and bob are the persons of aCommit.
func ann() api.Person { return api.Person{Name: "Ann", Mail: "ann@x", Time: 1000000000, Zone: -90} }

func bob() api.Person { return api.Person{Name: "Bob B.", Time: 7, Zone: 839} }

// plain is what aCommit says.
func plain(t *testing.T) api.CommitInfo {
	t.Helper()
	return api.CommitInfo{Tree: parse(t, emptyTree), Parents: []api.ID{{7}, {1}}, Author: ann(), Committer: bob(), Message: "a message\n\nof lines\n"}
}

// same tells whether two commits say the same.
func same(a, b api.CommitInfo) bool {
	return a.Tree == b.Tree && slices.Equal(a.Parents, b.Parents) && a.Author == b.Author && a.Committer == b.Committer && a.Message == b.Message
}

// wantCommit wants a commit to be written as these bytes, and these to be read as the commit.
func wantCommit(t *testing.T, c api.CommitInfo, want string) {
	t.Helper()
	if b, err := object.WriteCommit(c); err != nil || string(b) != want {
		t.Errorf("WriteCommit: %q, %v, not %q", b, err, want)
	}
	if got, err := object.ReadCommit([]byte(want)); err != nil || !same(got, c) {
		t.Errorf("ReadCommit of %q: %v, %v", want, got, err)
	}
}

// noCommit wants a commit not to be written.
func noCommit(t *testing.T, c api.CommitInfo) {
	t.Helper()
	if b, err := object.WriteCommit(c); b != nil || api.Tell(err) != api.ErrCommit {
		t.Errorf("WriteCommit of %.200v: %.200q, %v", c, b, err)
	}
}

// noCommitBytes wants bytes to be no commit.
func noCommitBytes(t *testing.T, s string) {
	t.Helper()
	if c, err := object.ReadCommit([]byte(s)); !same(c, api.CommitInfo{}) || api.Tell(err) != api.ErrCommit {
		t.Errorf("ReadCommit of %.300q: %.300v, %v", s, c, err)
	}
}

func TestCommits(t *testing.T) {
	wantCommit(t, plain(t), aCommit)
	c := plain(t)
	c.Parents = nil
	wantCommit(t, c, strings.NewReplacer(parentOne, "", parentTwo, "").Replace(aCommit))
	c.Parents = []api.ID{{1}, {7}}
	wantCommit(t, c, strings.Replace(aCommit, parentOne+parentTwo, parentTwo+parentOne, 1))
	zero := strings.Repeat("0", 40)
	wantCommit(t, api.CommitInfo{}, "tree "+zero+"\nauthor  <> 0 +0000\ncommitter  <> 0 +0000\n\n")
	wantCommit(t, api.CommitInfo{Parents: []api.ID{{}}}, "tree "+zero+"\nparent "+zero+"\nauthor  <> 0 +0000\ncommitter  <> 0 +0000\n\n")
}

// TestPersons has each that can be written as an author, as a committer and as a tagger.
func TestPersons(t *testing.T) {
	long, wide := strings.Repeat("n", 60), strings.Repeat("é", 30)
	for text, p := range map[string]api.Person{
		" <> 0 +0000":                               {},
		"A <b> 1 +0001":                             {Name: "A", Mail: "b", Time: 1, Zone: 1},
		"A <> 1 -0001":                              {Name: "A", Time: 1, Zone: -1},
		" <b> 1099511627776 +1400":                  {Mail: "b", Time: 1 << 40, Zone: 840},
		"A <b> 1099511627775 -1400":                 {Name: "A", Mail: "b", Time: 1<<40 - 1, Zone: -840},
		"A <b> 10 +0059":                            {Name: "A", Mail: "b", Time: 10, Zone: 59},
		"A <b> 10 -0059":                            {Name: "A", Mail: "b", Time: 10, Zone: -59},
		"A <b> 10 +0100":                            {Name: "A", Mail: "b", Time: 10, Zone: 60},
		"A <b> 10 -0100":                            {Name: "A", Mail: "b", Time: 10, Zone: -60},
		"A <b> 10 -0959":                            {Name: "A", Mail: "b", Time: 10, Zone: -599},
		"A <b> 10 +1000":                            {Name: "A", Mail: "b", Time: 10, Zone: 600},
		long + " <" + long + "> 9 +0000":            {Name: long, Mail: long, Time: 9},
		wide + " <" + wide + "> 9 +0000":            {Name: wide, Mail: wide, Time: 9},
		"A  B C <b  c d> 9 +0000":                   {Name: "A  B C", Mail: "b  c d", Time: 9},
		"\t\r <\t\r> 9 +0000":                       {Name: "\t\r", Mail: "\t\r", Time: 9},
		"\xff\xfe <\x80\x01> 9 +0000":               {Name: "\xff\xfe", Mail: "\x80\x01", Time: 9},
		"\u00a0 <\u2003> 9 +0000":                   {Name: "\u00a0", Mail: "\u2003", Time: 9},
		"0 +0000 <1 -0100> 9 +0000":                 {Name: "0 +0000", Mail: "1 -0100", Time: 9},
		"author A <parent \x7f> 123456789012 -0010": {Name: "author A", Mail: "parent \x7f", Time: 123456789012, Zone: -10},
	} {
		c := plain(t)
		c.Author = p
		wantCommit(t, c, strings.Replace(aCommit, "Ann <ann@x> 1000000000 -0130", text, 1))
		c = plain(t)
		c.Committer = p
		wantCommit(t, c, strings.Replace(aCommit, "Bob B. <> 7 +1359", text, 1))
		g := plainTag()
		g.Tagger = p
		wantTag(t, g, strings.Replace(aTag, "Ann <ann@x> 1000000000 -0130", text, 1))
	}
}

// badTexts are no names of persons, and no addresses.
func badTexts() []string {
	return []string{
		" ", "  ", " a", "a ", " a ", "\n", "a\n", "a\nb", "<", ">", "a<b", "a>b", "<a>", "\x00", "a\x00b", "a b ", "\xff<", "\xff\x00", "éééééééé\n",
		strings.Repeat("n", 61), strings.Repeat("n", 59) + "é", strings.Repeat("n", 60) + " ", " " + strings.Repeat("n", 60), strings.Repeat("n", 59) + " ", strings.Repeat("n", 59) + "<", strings.Repeat("n", 100000),
	}
}

// badPersons are persons that cannot be written.
func badPersons() []api.Person {
	var l []api.Person
	for _, s := range badTexts() {
		l = append(l, api.Person{Name: s, Mail: "m"}, api.Person{Name: "n", Mail: s}, api.Person{Name: s}, api.Person{Mail: s})
	}
	for _, n := range []int64{-1, 1<<40 + 1, 1 << 41, -1 << 63, 1<<63 - 1} {
		l = append(l, api.Person{Name: "n", Time: n})
	}
	for _, z := range []int{841, -841, 900, 1 << 40, 1440, -1440, -1 << 63, 1<<63 - 1} {
		l = append(l, api.Person{Name: "n", Zone: z})
	}
	return l
}

func TestPersonsThatCannotBeWritten(t *testing.T) {
	for _, p := range badPersons() {
		c := plain(t)
		c.Author = p
		noCommit(t, c)
		c = plain(t)
		c.Committer = p
		noCommit(t, c)
		g := plainTag()
		g.Tagger = p
		noTag(t, g)
	}
}

// badPersonTexts stand where a person should stand, and are none.
func badPersonTexts() []string {
	l := []string{
		"", " ", "A", "A <b>", "A <b> ", "A <b> 1", "A <b> 1 ", "A <b> +0000", "A <b>  +0000", "A <b> 1  +0000", "A <b>  1 +0000", "A  <b> 1 +0000", "A <b> 1 +0000 ", " A <b> 1 +0000",
		"A<b> 1 +0000", "A <b>1 +0000", "A <b> 1+0000", "A b> 1 +0000", "A <b 1 +0000", "A b 1 +0000", "<b> 1 +0000", "<> 1 +0000", "  <> 1 +0000", "A < b> 1 +0000", "A <b > 1 +0000", "A < > 1 +0000",
		"A <<b> 1 +0000", "A <b>> 1 +0000", "A <b> <c> 1 +0000", "A> <b> 1 +0000", "A < <b> 1 +0000", "A <b\x00> 1 +0000", "A\x00 <b> 1 +0000",
		"A <b> 01 +0000", "A <b> 00 +0000", "A <b> +1 +0000", "A <b> -1 +0000", "A <b> -0 +0000", "A <b> 1_0 +0000", "A <b> 0x1 +0000", "A <b> 1.0 +0000", "A <b> 1099511627777 +0000", "A <b> 10995116277760 +0000", "A <b> 18446744073709551617 +0000", "A <b> " + strings.Repeat("9", 3000) + " +0000", "A <b> one +0000", "A <b> １ +0000",
		"A <b> 1 -0000", "A <b> 1 0000", "A <b> 1 +000", "A <b> 1 +00000", "A <b> 1 +0", "A <b> 1 +", "A <b> 1 -", "A <b> 1 *0000", "A <b> 1 ++000", "A <b> 1 +-001", "A <b> 1 +0060", "A <b> 1 -0060", "A <b> 1 +0099", "A <b> 1 +1401", "A <b> 1 -1401", "A <b> 1 +1500", "A <b> 1 +1360", "A <b> 1 -1460", "A <b> 1 +9999", "A <b> 1 +1_00", "A <b> 1 +0x10", "A <b> 1 +00:0", "A <b> 1 Z", "A <b> 1 +" + strings.Repeat("0", 300), "A <b> 1 +18446744073709551616",
	}
	for _, s := range badTexts() {
		l = append(l, s+" <b> 1 +0000", "A <"+s+"> 1 +0000")
	}
	return l
}

func TestPersonsThatCannotBeRead(t *testing.T) {
	for _, s := range badPersonTexts() {
		noCommitBytes(t, strings.Replace(aCommit, "Ann <ann@x> 1000000000 -0130", s, 1))
		noCommitBytes(t, strings.Replace(aCommit, "Bob B. <> 7 +1359", s, 1))
		noTagBytes(t, strings.Replace(aTag, "Ann <ann@x> 1000000000 -0130", s, 1))
	}
}

// TestZones has each zone, and each text of four digits.
func TestZones(t *testing.T) {
	for n := range 20000 {
		sign, size, side := "+", n, 1
		if n >= 10000 {
			sign, size, side = "-", n-10000, -1
		}
		digits := strconv.Itoa(10000 + size)[1:]
		text := strings.Replace(aCommit, "-0130", sign+digits, 1)
		if size%100 >= 60 || size > 1400 || n == 10000 {
			noCommitBytes(t, text)
			continue
		}
		c := plain(t)
		c.Author.Zone = side * (size/100*60 + size%100)
		wantCommit(t, c, text)
	}
}

func TestMessages(t *testing.T) {
	for _, m := range []string{"", "\n", "\n\n\n", "no line's end", "tree x\nparent y\n", "\nauthor", "\xff\xfe", " ", "\r\n", strings.Repeat("m", 1999), strings.Repeat("m", 2000), strings.Repeat("\n", 2000), strings.Repeat("é", 1000)} {
		c := plain(t)
		c.Message = m
		wantCommit(t, c, strings.Replace(aCommit, "a message\n\nof lines\n", m, 1))
		g := plainTag()
		g.Message = m
		wantTag(t, g, aTag+m)
	}
	for _, m := range []string{"\x00", "a\x00b", "\x00a", "a\x00", "\n\x00", "\xff\x00", strings.Repeat("m", 2001), strings.Repeat("é", 1000) + "m", strings.Repeat("m", 1999) + "\x00", strings.Repeat("m", 1000000)} {
		c := plain(t)
		c.Message = m
		noCommit(t, c)
		noCommitBytes(t, strings.Replace(aCommit, "a message\n\nof lines\n", m, 1))
		g := plainTag()
		g.Message = m
		noTag(t, g)
		noTagBytes(t, aTag+m)
	}
}

// family makes so many parents, with their lines.
func family(n int) ([]api.ID, string) {
	var l []api.ID
	var text string
	for i := range n {
		l = append(l, api.ID{19: byte(i)})
		text += "parent " + digest.Hex(l[i]) + "\n"
	}
	return l, text
}

func TestParents(t *testing.T) {
	for n := range api.MaxParents + 1 {
		c := plain(t)
		var lines string
		c.Parents, lines = family(n)
		text := strings.Replace(aCommit, parentOne+parentTwo, lines, 1)
		wantCommit(t, c, text)
		for i := range n {
			if n == api.MaxParents {
				break
			}
			c.Parents, _ = family(n)
			c.Parents = append(c.Parents, c.Parents[i])
			noCommit(t, c)
			noCommitBytes(t, strings.Replace(aCommit, parentOne+parentTwo, lines+"parent "+digest.Hex(c.Parents[i])+"\n", 1))
		}
	}
	for _, n := range []int{9, 10, 100, 250} {
		c := plain(t)
		var lines string
		c.Parents, lines = family(n)
		noCommit(t, c)
		noCommitBytes(t, strings.Replace(aCommit, parentOne+parentTwo, lines, 1))
	}
	c := plain(t)
	c.Parents = make([]api.ID, 100000)
	noCommit(t, c)
	noCommitBytes(t, strings.Replace(aCommit, parentOne, strings.Repeat(parentOne, 100000), 1))
}

// TestCommitsThatAreTurned has aCommit with one thing that is otherwise.
func TestCommitsThatAreTurned(t *testing.T) {
	for _, turn := range [][2]string{
		{"tree ", "trees "}, {"tree ", "Tree "}, {"tree ", "tree  "}, {"tree ", "tree"}, {"tree ", ""}, {"tree ", " tree "}, {"tree ", "\ntree "}, {"tree ", "object "},
		{emptyTree, emptyTree[1:]}, {emptyTree, emptyTree + "0"}, {emptyTree, strings.ToUpper(emptyTree)}, {emptyTree, ""}, {emptyTree, emptyTree + " "}, {emptyTree, "g" + emptyTree[1:]},
		{"tree " + emptyTree + "\n", ""}, {"tree " + emptyTree + "\n", "tree " + emptyTree + "\ntree " + emptyTree + "\n"},
		{"parent ", "parents "}, {"parent ", "Parent "}, {"parent 07", "parent 0"}, {"parent 07", "parent 007"}, {"parent 07", "parent 0A"}, {"parent 07", "parent "}, {"parent 07", "parent 01"}, {"parent ", "parent\n"},
		{"author", "authors"}, {"author", "Author"}, {"author ", "author"}, {"author ", ""}, {"author ", "author  "}, {"author", "committer"}, {"author", "tagger"},
		{"committer", "committers"}, {"committer", "author"}, {"committer ", ""}, {"committer ", "committer  "},
		{"\nauthor", "\n\nauthor"}, {"\ncommitter", "\n\ncommitter"}, {"\nauthor", "\r\nauthor"}, {"\nauthor", "author"}, {"\ncommitter", "committer"}, {"\nparent", ""},
		{"\n\na", "\na"}, {"\n\na", "\n \na"}, {"\n\na", "a"}, {"\n\na", "\nencoding x\n\na"}, {"\n\na", "\n" + parentOne + "\na"},
		{"author Ann <ann@x> 1000000000 -0130\n", ""}, {"committer Bob B. <> 7 +1359\n", ""},
	} {
		s := strings.Replace(aCommit, turn[0], turn[1], 1)
		if s == aCommit {
			t.Fatalf("%q is not there", turn[0])
		}
		noCommitBytes(t, s)
	}
	noCommitBytes(t, "")
	noCommitBytes(t, "\n")
	noCommitBytes(t, strings.Repeat("\n", 1000))
	noCommitBytes(t, "author Ann <ann@x> 1000000000 -0130\ncommitter Bob B. <> 7 +1359\n"+"tree "+emptyTree+"\n\n")
	noCommitBytes(t, parentOne+"tree "+emptyTree+"\nauthor Ann <ann@x> 1 +0000\ncommitter B <> 7 +1359\n\n")
	noCommitBytes(t, "tree "+emptyTree+"\ncommitter B <> 7 +1359\nauthor Ann <ann@x> 1 +0000\n\n")
	noCommitBytes(t, "tree "+emptyTree+"\nauthor Ann <ann@x> 1 +0000\n"+parentOne+"committer B <> 7 +1359\n\n")
}

func TestCommitsThatAreCut(t *testing.T) {
	head := strings.Index(aCommit, "\n\n") + 2
	for n := range len(aCommit) {
		if n < head {
			noCommitBytes(t, aCommit[:n])
		} else if c, err := object.ReadCommit([]byte(aCommit[:n])); err != nil || c.Message != aCommit[head:n] {
			t.Errorf("%d bytes: %v, %v", n, c, err)
		}
	}
}

const (
	textForm   = `(?:[^<>\n\x00 ](?:[^<>\n\x00]{0,58}[^<>\n\x00 ])?)?`
	personForm = textForm + ` <` + textForm + `> (0|[1-9][0-9]{0,12}) (\+(?:0[0-9]|1[0-3])[0-5][0-9]|\+1400|-(?:0[0-9]|1[0-3])[0-5][0-9]|-1400)`
	commitForm = `^tree [0-9a-f]{40}\n((?:parent [0-9a-f]{40}\n){0,8})author ` + personForm + `\ncommitter ` + personForm + `\n\n([^\x00]*)$`
)

// byForm tells another way whether bytes (without signs of more than a byte) are a commit.
func byForm(form *regexp.Regexp, s string) bool {
	m := form.FindStringSubmatch(s)
	if m == nil || len(m[6]) > 2000 {
		return false
	}
	parents := strings.Split(m[1], "\n")
	slices.Sort(parents)
	if len(slices.Compact(slices.Clone(parents))) != len(parents) {
		return false
	}
	for _, i := range []int{2, 4} {
		if n, err := strconv.ParseInt(m[i], 10, 64); err != nil || n > 1<<40 || m[i+1] == "-0000" {
			return false
		}
	}
	return true
}

// TestCommitsByForm turns, drops and doubles bytes of commits, and holds what is read against what a form tells.
func TestCommitsByForm(t *testing.T) {
	form := regexp.MustCompile(commitForm)
	r := rand.New(rand.NewSource(3))
	right := 0
	for range 60000 {
		b := []byte(aCommit)
		for range 1 + r.Intn(2) {
			at := r.Intn(len(b))
			switch r.Intn(4) {
			case 0:
				b[at] = byte(r.Intn(128))
			case 1:
				b[at] = aCommit[r.Intn(len(aCommit))]
			case 2:
				b = slices.Delete(b, at, min(at+1+r.Intn(3), len(b)))
			case 3:
				b = slices.Insert(b, at, aCommit[r.Intn(len(aCommit))])
			}
		}
		c, err := object.ReadCommit(b)
		if byForm(form, string(b)) != (err == nil) {
			t.Fatalf("%q: %v, %v", b, c, err)
		}
		if err == nil {
			right++
			if again, err := object.WriteCommit(c); err != nil || string(again) != string(b) {
				t.Fatalf("%q is written as %q, %v", b, again, err)
			}
		}
	}
	if right < 3000 {
		t.Errorf("only %d were right", right)
	}
}
