package refs_test

import (
	"bytes"
	"crypto/sha1"
	"fmt"
	"math/rand"
	"strings"
	"testing"

	"gitlike/api"
	"gitlike/refs"
)

// TestOpenNone: 7.2, at first there are no refs.
func TestOpenNone(t *testing.T) {
	d := roomy()
	r := open(t, d)
	lists(t, r, "")
	for _, name := range used {
		reads(t, r, name, nought, api.ErrNoRef)
		leads(t, r, name, "", api.ErrNoRef)
		noLog(t, r, name, api.ErrNoRef)
	}
	bothTell(t, "none", r, d)
	if l := d.List(); len(l) != 0 {
		t.Errorf("Open made files: %q", l)
	}
}

// TestNoDisk: 7.2 and P1, no disk, and one that NewDisk has not made.
func TestNoDisk(t *testing.T) {
	r, err := refs.Open(nil)
	if r != nil {
		t.Errorf("refs of no disk")
	}
	is(t, "no disk", err, api.ErrDisk)
	r = open(t, &api.Disk{})
	is(t, "Update", r.Update([]api.Change{from("refs/a", nought, id(1))}, ann, ""), api.ErrDisk)
	is(t, "Link", r.Link("refs/a", "refs/b"), api.ErrDisk)
	is(t, "Pack", r.Pack(), api.ErrDisk)
	lists(t, r, "")
}

// TestOpenFails: 7.2, each operation of Open failing.
func TestOpenFails(t *testing.T) {
	for _, lay := range []func(*testing.T, *api.Disk) *refs.Refs{open, mixed} {
		for _, times := range []int{1, 2, forever} {
			d := roomy()
			want := told(lay(t, d))
			after := 0
			for ; ; after++ {
				d.Fail(after, times)
				r, err := refs.Open(d)
				left := stillFails(d, after)
				d.Fail(0, 0)
				if err == nil {
					if !left {
						t.Errorf("behind %d operations: opened all the same", after)
					}
					break
				}
				is(t, "Open", err, api.ErrDisk)
				if r != nil {
					t.Errorf("behind %d operations: %v", after, r)
				}
			}
			if after == 0 || told(open(t, d)) != want {
				t.Errorf("%d operations; or they tell otherwise", after)
			}
		}
	}
}

// stillFails tells whether the operation that was to fail behind so many has not come yet.
func stillFails(d *api.Disk, after int) bool {
	for range after + 1 {
		if _, err := d.Size("no such file"); api.Tell(err) == api.ErrDisk {
			return true
		}
	}
	return false
}

// TestOtherFiles: 7.2, files that are none of refs' are not looked at, and stay as they are.
func TestOtherFiles(t *testing.T) {
	d := roomy()
	others := []string{"objects/00/11", "index", "refs", "logs", "HEADS", "head", "Refs/a", "ref/a", "log/a", "xrefs/a", "packed-refs2", "packed", "x/packed-refs", "x/HEAD", ".new", "new", "", "/", "packed-refs.lock"}
	for _, name := range others {
		write(t, d, name, []byte("noise of "+name))
	}
	r := mixed(t, d)
	expire(t, r, "HEAD", 1)
	if err := r.Pack(); err != nil {
		t.Error(err)
	}
	bothTell(t, "beside others", r, d)
	alone := roomy()
	expire(t, mixed(t, alone), "HEAD", 1)
	if told(r) != told(open(t, alone)) {
		t.Error("they tell otherwise than alone")
	}
	for _, name := range others {
		if string(bytesOf(t, d, name)) != "noise of "+name {
			t.Errorf("%q is changed", name)
		}
	}
	if n := len(d.List()); n != len(others)+1 {
		t.Errorf("files: %q", d.List())
	}
}

// TestForeign: 7.2, files that have names of refs', and are none of their own.
func TestForeign(t *testing.T) {
	good := roomy()
	mixed(t, good)
	file := bytesOf(t, good, theFile)
	for _, name := range []string{"HEAD", "refs/a", "refs/heads/main", "refs/", "logs/HEAD", "logs/refs/a", "logs/"} {
		for _, b := range [][]byte{nil, []byte("noise"), file, []byte(strings.Repeat("0", 40) + "\n"), []byte("ref: refs/heads/main\n")} {
			for _, d := range []*api.Disk{roomy(), good.Copy()} {
				write(t, d, name, b)
				corrupt(t, name, d)
				d.Fail(0, forever)
				_, err := refs.Open(d)
				is(t, "ahead of it", err, api.ErrDisk)
			}
		}
	}
}

// corrupt wants Open to answer ErrCorrupt.
func corrupt(t *testing.T, name string, d *api.Disk) {
	t.Helper()
	before := d.List()
	r, err := refs.Open(d)
	if r != nil {
		t.Errorf("%s: there are refs", name)
	}
	is(t, name, err, api.ErrCorrupt)
	if strings.Join(before, " ") != strings.Join(d.List(), " ") {
		t.Errorf("%s: %q are %q", name, before, d.List())
	}
}

// TestNotWhole: 7.2, files whose names end with .new mean nothing, and are no hindrance.
func TestNotWhole(t *testing.T) {
	good := roomy()
	want := told(mixed(t, good))
	file := bytesOf(t, good, theFile)
	for _, name := range []string{"packed-refs.new", "HEAD.new", "refs/a.new", "logs/HEAD.new"} {
		for _, b := range [][]byte{nil, []byte("noise"), file, file[:len(file)/2]} {
			d := good.Copy()
			write(t, d, name, b)
			r := open(t, d)
			if told(r) != want {
				t.Errorf("%s: they tell otherwise", name)
			}
			update(t, r, "more", from("refs/z", nought, id(7)))
			expire(t, r, "HEAD", 1)
			bothTell(t, name, r, d)
			d = roomy()
			write(t, d, name, b)
			r = open(t, d)
			lists(t, r, "")
			update(t, r, "more", from("refs/z", nought, id(7)))
			bothTell(t, name+" alone", r, d)
			lists(t, open(t, d), "", api.Ref{Name: "refs/z", ID: id(7)})
		}
	}
}

// TestBitsTurned: 7.2, each bit of the file turned.
func TestBitsTurned(t *testing.T) {
	good := roomy()
	mixed(t, good)
	size := uint(len(bytesOf(t, good, theFile)))
	for bit := range 8 * size {
		good.Flip(theFile, bit)
		if r, err := refs.Open(good); r != nil || api.Tell(err) != api.ErrCorrupt {
			t.Fatalf("bit %d of byte %d: %v", bit%8, bit/8, err)
		}
		good.Flip(theFile, bit)
	}
	open(t, good)
}

// blockOf is a block of lines, said in another way.
func blockOf(lines ...string) string {
	all := strings.Join(lines, "")
	words := fmt.Sprintf("block %016x %x", len(all), sha1.Sum([]byte(all)))
	return fmt.Sprintf("%s %x\n%s", words, sha1.Sum([]byte(words)), all)
}

// hex is an id by its number, as text.
func hex(n byte) string { return fmt.Sprintf("%x", id(n)) }

// none is nought as text.
var none = strings.Repeat("0", 40)

// TestFile has the file as it is: it can be opened as long as there is a disk with one.
func TestFile(t *testing.T) {
	file := blockOf("link HEAD refs/heads/main\n") +
		blockOf("ref refs/heads/main "+hex(1)+"\n", "log HEAD "+none+" "+hex(1)+" Ann <a@b> 5 +0100\tfirst\n", "log refs/heads/main "+none+" "+hex(1)+" Ann <a@b> 5 +0100\tfirst\n") +
		blockOf() +
		blockOf("ref refs/x "+hex(9)+"\n", "ref refs/a/b "+hex(8)+"\n") +
		blockOf("drop refs/x\n", "ref refs/a/b "+hex(7)+"\n", "log refs/a/b "+hex(8)+" "+hex(7)+"  <> 0 -0130\t\ttext with\ttabs \n") +
		blockOf("drop refs/no\n")
	d := diskWith(t, theFile, []byte(file))
	r := open(t, d)
	leads(t, r, "HEAD", "refs/heads/main", api.OK)
	lists(t, r, "", api.Ref{Name: "HEAD", ID: id(1)}, api.Ref{Name: "refs/a/b", ID: id(7)}, api.Ref{Name: "refs/heads/main", ID: id(1)})
	logs(t, r, "HEAD", entered(nought, id(1), "first"))
	logs(t, r, "refs/heads/main", entered(nought, id(1), "first"))
	logs(t, r, "refs/a/b", api.LogEntry{Old: id(8), New: id(7), Who: api.Person{Zone: -90}, Text: "\ttext with\ttabs "})
	noLog(t, r, "refs/x", api.ErrNoRef)
	update(t, r, "second", from("HEAD", id(1), id(2)))
	second := blockOf("ref refs/heads/main "+hex(2)+"\n", "log HEAD "+hex(1)+" "+hex(2)+" Ann <a@b> 5 +0100\tsecond\n", "log refs/heads/main "+hex(1)+" "+hex(2)+" Ann <a@b> 5 +0100\tsecond\n")
	if got := string(bytesOf(t, d, theFile)); got != file+second {
		t.Errorf("the file behind Update: %s", got)
	}
	if err := r.Pack(); err != nil {
		t.Error(err)
	}
	packed := blockOf("link HEAD refs/heads/main\n", "log HEAD "+none+" "+hex(1)+" Ann <a@b> 5 +0100\tfirst\n", "log HEAD "+hex(1)+" "+hex(2)+" Ann <a@b> 5 +0100\tsecond\n",
		"ref refs/a/b "+hex(7)+"\n", "log refs/a/b "+hex(8)+" "+hex(7)+"  <> 0 -0130\t\ttext with\ttabs \n",
		"ref refs/heads/main "+hex(2)+"\n", "log refs/heads/main "+none+" "+hex(1)+" Ann <a@b> 5 +0100\tfirst\n", "log refs/heads/main "+hex(1)+" "+hex(2)+" Ann <a@b> 5 +0100\tsecond\n")
	if got := string(bytesOf(t, d, theFile)); got != packed {
		t.Errorf("the file behind Pack: %s", got)
	}
}

// TestCutShort: 7.2 and 7.6, each front of the file. Blocks that were added may be cut short, the first one not.
func TestCutShort(t *testing.T) {
	full := roomy()
	open(t, full)
	var sizes []int
	var states []string
	steps := []func(r *refs.Refs){
		func(r *refs.Refs) { link(t, r, "HEAD", "refs/heads/main") },
		func(r *refs.Refs) { update(t, r, "first", from("HEAD", nought, id(1))) },
		func(r *refs.Refs) {
			update(t, r, "second", from("HEAD", id(1), id(2)), from("refs/tags/v", nought, id(1)))
		},
		func(r *refs.Refs) { update(t, r, "gone", from("refs/tags/v", id(1), nought)) },
	}
	r := open(t, full)
	for _, do := range steps {
		do(r)
		sizes = append(sizes, len(bytesOf(t, full, theFile)))
		states = append(states, told(r))
	}
	file := bytesOf(t, full, theFile)
	for n := range len(file) + 1 {
		d := diskWith(t, theFile, file[:n])
		if n < sizes[0] {
			corrupt(t, "cut within the first block", d)
			continue
		}
		done := 0
		for done+1 < len(sizes) && sizes[done+1] <= n {
			done++
		}
		r := open(t, d)
		if told(r) != states[done] {
			t.Fatalf("%d of %d bytes: they tell otherwise", n, len(file))
		}
		for _, do := range steps[done+1:] {
			do(r)
			bothTell(t, "done again", r, d)
			if n%3 == 0 {
				r = open(t, d)
			}
		}
		if told(r) != states[len(states)-1] {
			t.Fatalf("%d of %d bytes: done again, they tell otherwise", n, len(file))
		}
	}
}

// TestNoise: 7.2, files that refs have not written.
func TestNoise(t *testing.T) {
	good := roomy()
	mixed(t, good)
	file := bytesOf(t, good, theFile)
	first := blockOf("ref refs/a " + hex(1) + "\n")
	rightHead := strings.Replace(blockOf("ref refs/b "+hex(1)+"\n"), "refs/b", "refs/c", 1)
	for _, s := range []string{
		"", "\n", "b", "block", "block ", "noise", hex(1) + " refs/heads/main\n", "# pack-refs with: peeled fully-peeled sorted\n", string(file[1:]), string(file[:50]),
		"noise" + string(file), string(file) + "n", string(file) + "\n", string(file) + "noise", string(file) + strings.Repeat("noise", 100), string(file) + "block " + strings.Repeat("noise", 100),
		strings.ToUpper(first), strings.Replace(first, "\n", "\r\n", 1), strings.Replace(first, "block 0", "block  ", 1), first + rightHead, first + rightHead + first, rightHead, "blocK" + first[5:],
		sealedWords("block -00000000000001 " + none), sealedWords("block 00000000000000zz " + none), sealedWords("block 0000000000000000 " + none), sealedWords("block fffffffffffffffff " + none),
		first + sealedWords("block -000000000000001 "+none), first + sealedWords("block ffffffffffffffff "+none), first + sealedWords("block 000000000000000+ "+none), first + sealedWords("block 0000000000000000 "+none),
		first + sealedWords("block +000000000000000 "+fmt.Sprintf("%x", sha1.Sum(nil))), first + sealedWords("block 000000000000000A "+fmt.Sprintf("%x", sha1.Sum([]byte("drop refs/a"[:10])))) + "drop refs/a"[:10],
		first + first + sealedWords("Block 0000000000000000 "+fmt.Sprintf("%x", sha1.Sum(nil))), first + sealedWords("block 0000000000000000 "+strings.ToUpper(fmt.Sprintf("%x", sha1.Sum(nil)))),
	} {
		corrupt(t, fmt.Sprintf("%.40q and so on", s), diskWith(t, theFile, []byte(s)))
	}
	open(t, diskWith(t, theFile, []byte(first+first+blockOf()+sealedWords("block 7fffffffffffffff "+none))))
	r := rand.New(rand.NewSource(7))
	for range 3000 {
		b := bytes.Clone(file)
		for range 1 + r.Intn(4) {
			at := r.Intn(len(b))
			switch r.Intn(3) {
			case 0:
				b[at] ^= byte(1 + r.Intn(255))
			case 1:
				b = append(b[:at], b[min(len(b), at+1+r.Intn(9)):]...)
			case 2:
				b = append(b[:at:at], append([]byte{byte(r.Intn(256))}, b[at:]...)...)
			}
		}
		refs.Open(diskWith(t, theFile, b))
	}
}

// sealedWords is a head of these words.
func sealedWords(words string) string {
	return fmt.Sprintf("%s %x\n", words, sha1.Sum([]byte(words)))
}

// TestForgedLines: 7.2, blocks whose sums are right, and whose lines are not.
func TestForgedLines(t *testing.T) {
	a, entry := "ref refs/a "+hex(1)+"\n", none+" "+hex(1)+" Ann <a@b> 5 +0100\ttext\n"
	for _, s := range []string{"", a, a + a, a + "log refs/a " + entry, a + "drop refs/a\n", "drop refs/a\n", "link refs/a refs/b\n", "link refs/a HEAD\nlink HEAD refs/a\n", a + "drop refs/a\nref refs/a/b " + hex(1) + "\n"} {
		open(t, diskWith(t, theFile, []byte(blockOf(s))))
		open(t, diskWith(t, theFile, []byte(blockOf(a)+blockOf(s))))
	}
	long := strings.Repeat("x", api.MaxText+1)
	for _, s := range []string{
		"\n", "ref\n", "ref \n", "x", "x\n", "refs/a " + hex(1) + "\n", "REF refs/a " + hex(1) + "\n", " " + a, a[:len(a)-1], a + "\n", a + "#\n", "ref  refs/a " + hex(1) + "\n",
		"ref refs/a\n", "ref refs/a \n", "ref refs/a  " + hex(1) + "\n", "ref refs/a " + hex(1) + " \n", "ref refs/a " + hex(1)[1:] + "\n", "ref refs/a " + strings.ToUpper("ab"+hex(1)[2:]) + "\n", "ref refs/a " + none + "\n", "ref refs/a " + none + "\n" + a,
		"ref refs " + hex(1) + "\n", "ref refs/a.lock " + hex(1) + "\n", "ref  " + hex(1) + "\n", a + "ref refs/a/b " + hex(1) + "\n", "link refs/a/b refs/a\n" + a,
		"link refs/a\n", "link refs/a \n", "link refs/a refs/a\n", "link refs/a refs\n", "link refs/a refs/b \n", "link refs/a  refs/b\n", "link HEADS refs/a\n", "link refs/a " + hex(1) + "\n", "link  refs/b\n",
		"drop\n", "drop \n", "drop refs/a \n", "drop refs/a " + hex(1) + "\n", "log refs/a " + entry, a + "log refs/b " + entry, a + "log\n", a + "log refs/a\n", a + "log refs/a \n", a + "log refs/a " + none + "\n",
		a + "log refs/a " + entry + "drop refs/b\nlog refs/b " + entry,
	} {
		corrupt(t, fmt.Sprintf("%.60q", s), diskWith(t, theFile, []byte(blockOf(s))))
		if !strings.HasPrefix(s, "log refs/a ") {
			corrupt(t, fmt.Sprintf("%.60q behind another", s), diskWith(t, theFile, []byte(blockOf("ref refs/z "+hex(1)+"\n")+blockOf(s))))
		}
	}
	for _, s := range []string{
		none + " " + none + " " + "Ann <a@b> 5 +0100", none + " " + none + " Ann <a@b> 5 +0100 text", none + " Ann <a@b> 5 +0100\ttext", none + "  " + none + " Ann <a@b> 5 +0100\ttext",
		none + " " + none[1:] + " Ann <a@b> 5 +0100\ttext", none + " " + none + " Ann <a@b> 05 +0100\ttext", none + " " + none + " Ann <a@b> 5 +0060\ttext", none + " " + none + " Ann <a@b> 5 +1500\ttext",
		none + " " + none + " Ann <a@b> 5 -0000\ttext", none + " " + none + " Ann <a@b> -5 +0000\ttext", none + " " + none + " Ann <a<b> 5 +0000\ttext", none + " " + none + " A>nn <ab> 5 +0000\ttext",
		none + " " + none + "  Ann <ab> 5 +0000\ttext", none + " " + none + " Ann <ab > 5 +0000\ttext", none + " " + none + " Ann 5 +0000\ttext", none + " " + none + " " + long[:api.MaxPerson+1] + " <> 5 +0000\ttext",
		none + " " + none + " <> 5 +0000\ttext", none + " " + none + " Ann <a@b> 5 +0000\t" + long, none + " " + none + " Ann <a@b> 5 +0000\ta\x00b", none + " " + none + " Ann <a\x00b> 5 +0000\tab", none + " " + none + " \t",
		none + " " + none + " Ann <a@b> 5\t+0000\ttext", none + " " + none + " Ann <a@b> 1099511627777 +0000\ttext", hex(1) + " " + strings.ToUpper("ab"+none[2:]) + " Ann <a@b> 5 +0100\ttext",
	} {
		corrupt(t, fmt.Sprintf("%.100q", s), diskWith(t, theFile, []byte(blockOf(a, "log refs/a "+s+"\n"))))
	}
}
