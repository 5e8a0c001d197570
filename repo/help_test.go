package repo_test

import (
	"errors"
	"fmt"
	"slices"
	"strings"
	"testing"

	"gitlike/api"
	"gitlike/digest"
	"gitlike/object"
	"gitlike/refs"
	"gitlike/repo"
	"gitlike/store"
)

// forever is more operations than are ever done.
const forever = 1 << 30

var (
	nought api.ID
	nobody api.Person
	ann    = api.Person{Name: "Ann", Mail: "ann@x", Time: 1000, Zone: 60}
	bob    = api.Person{Name: "Bob", Mail: "bob@x", Time: 2000, Zone: -30}
)

// at is Ann at another time.
func at(time int64) api.Person {
	p := ann
	p.Time = time
	return p
}

// roomy is a disk with room for all that is done here.
func roomy() *api.Disk { return api.NewDisk(1 << 28) }

// create makes a repository.
func create(t *testing.T) (*api.Disk, *repo.Repo) {
	t.Helper()
	d := roomy()
	r, err := repo.Init(d)
	if err != nil || r == nil {
		t.Fatalf("Init: %v, %v", r, err)
	}
	return d, r
}

func open(t *testing.T, d *api.Disk) *repo.Repo {
	t.Helper()
	r, err := repo.Open(d)
	if err != nil || r == nil {
		t.Fatalf("Open: %v, %v", r, err)
	}
	return r
}

// is wants an error of that number.
func is(t *testing.T, what string, err error, want api.Errno) {
	t.Helper()
	if api.Tell(err) != want {
		t.Errorf("%s: %v for %d", what, err, want)
	}
}

// isOf wants an error of that number at that object.
func isOf(t *testing.T, what string, err error, want api.Errno, id api.ID) {
	t.Helper()
	var at *api.IDError
	if !errors.As(err, &at) || at.Err != want || at.ID != id {
		t.Errorf("%s: %v for %d of %x", what, err, want, id)
	}
}

// done wants no error.
func done(t *testing.T, what string, err error) {
	t.Helper()
	if err != nil {
		t.Fatalf("%s: %v", what, err)
	}
}

// texts is files: a path, a text, a path, a text ..
func texts(s ...string) []api.File {
	var l []api.File
	for i := 0; i < len(s); i += 2 {
		l = append(l, api.File{Path: s[i], Mode: api.FileMode, Data: []byte(s[i+1])})
	}
	return l
}

// commit commits files, by Ann.
func commit(t *testing.T, r *repo.Repo, s ...string) api.ID {
	t.Helper()
	return commitBy(t, r, ann, s...)
}

func commitBy(t *testing.T, r *repo.Repo, who api.Person, s ...string) api.ID {
	t.Helper()
	id, err := r.Commit(texts(s...), who, "a message\n")
	if err != nil || id == nought {
		t.Fatalf("Commit of %q: %v, %v", s, id, err)
	}
	return id
}

func branch(t *testing.T, r *repo.Repo, name, at string) {
	t.Helper()
	done(t, "Branch of "+name, r.Branch(name, at))
}

func toSwitch(t *testing.T, r *repo.Repo, name string) {
	t.Helper()
	done(t, "Switch to "+name, r.Switch(name))
}

func tag(t *testing.T, r *repo.Repo, name, at string) api.ID {
	t.Helper()
	id, err := r.Tag(name, at, bob, "a tag\n")
	if err != nil || id == nought {
		t.Fatalf("Tag of %s: %v, %v", name, id, err)
	}
	return id
}

func merged(t *testing.T, r *repo.Repo, name string) api.ID {
	t.Helper()
	id, err := r.Merge(name, bob, "merged\n")
	if err != nil || id == nought {
		t.Fatalf("Merge of %s: %v, %v", name, id, err)
	}
	return id
}

// shows wants Files to answer those.
func shows(t *testing.T, r *repo.Repo, name string, s ...string) {
	t.Helper()
	l, err := r.Files(name)
	if got, want := listed(l), listed(texts(s...)); err != nil || got != want {
		t.Errorf("Files(%s): %s, %v for %s", name, got, err, want)
	}
}

// listed is files as one text.
func listed(l []api.File) string {
	var b strings.Builder
	for _, f := range l {
		fmt.Fprintf(&b, "%q %o %q\n", f.Path, f.Mode, f.Data)
	}
	return b.String()
}

// logs wants Log to answer those.
func logs(t *testing.T, r *repo.Repo, name string, want ...api.ID) {
	t.Helper()
	if l, err := r.Log(name); err != nil || !slices.Equal(l, want) {
		t.Errorf("Log(%s): %x, %v for %x", name, l, err, want)
	}
}

// reflog wants the last entry of a ref's log, of so many, to be that.
func reflog(t *testing.T, r *repo.Repo, name string, n int, last api.LogEntry) {
	t.Helper()
	l, err := r.Reflog(name)
	if err != nil || len(l) != n || n > 0 && l[n-1] != last {
		t.Errorf("Reflog(%s): %v, %v for %d, the last one %v", name, l, err, n, last)
	}
}

// stands wants a ref to stand for an id; nought: to stand for nothing.
func stands(t *testing.T, r *repo.Repo, name string, want api.ID) {
	t.Helper()
	got := nought
	for _, x := range r.Refs() {
		if x.Name == name {
			got = x.ID
		}
	}
	if got != want {
		t.Errorf("%s stands for %x, not %x", name, got, want)
	}
}

func hex(id api.ID) string { return digest.Hex(id) }

func blob(text string) api.Object { return api.Object{Kind: api.Blob, Data: []byte(text)} }

// tree is one of a mode, a name, an object's id, and so on.
func tree(t *testing.T, l ...api.TreeEntry) api.Object {
	t.Helper()
	b, err := object.WriteTree(l)
	done(t, "WriteTree", err)
	return api.Object{Kind: api.Tree, Data: b}
}

// commitObject is a commit of a tree, by Ann.
func commitObject(t *testing.T, tree api.ID, parents ...api.ID) api.Object {
	t.Helper()
	return commitWith(t, api.CommitInfo{Tree: tree, Parents: parents, Author: ann, Committer: ann, Message: "laid"})
}

func commitWith(t *testing.T, info api.CommitInfo) api.Object {
	t.Helper()
	b, err := object.WriteCommit(info)
	done(t, "WriteCommit", err)
	return api.Object{Kind: api.Commit, Data: b}
}

// tagObject is a tag of an object, by Bob.
func tagObject(t *testing.T, name string, target api.ID, kind api.Kind) api.Object {
	t.Helper()
	b, err := object.WriteTag(api.TagInfo{Target: target, Kind: kind, Name: name, Tagger: bob, Message: "a tag\n"})
	done(t, "WriteTag", err)
	return api.Object{Kind: api.Tag, Data: b}
}

func idOf(t *testing.T, o api.Object) api.ID {
	t.Helper()
	id, err := object.ID(o)
	done(t, "ID", err)
	return id
}

// lay puts objects on a disk that no repository uses now, and tells the last one's id.
func lay(t *testing.T, d *api.Disk, l ...api.Object) (id api.ID) {
	t.Helper()
	s, err := store.Open(d)
	done(t, "store.Open", err)
	for _, o := range l {
		id, err = s.Put(o)
		done(t, "Put", err)
	}
	return id
}

// layRef lets a ref stand for an id, on a disk that no repository uses now.
func layRef(t *testing.T, d *api.Disk, name string, id api.ID) {
	t.Helper()
	r, err := refs.Open(d)
	done(t, "refs.Open", err)
	was, _ := r.Read(name)
	done(t, "Update of "+name, r.Update([]api.Change{{Name: name, Old: was, New: id}}, bob, "laid"))
}

// layLink lets a ref lead to another one likewise.
func layLink(t *testing.T, d *api.Disk, name, target string) {
	t.Helper()
	r, err := refs.Open(d)
	done(t, "refs.Open", err)
	done(t, "Link of "+name, r.Link(name, target))
}

// names is all refs of which a repository can tell a log.
func names(r *repo.Repo) []string {
	l := []string{"HEAD"}
	for _, x := range r.Refs() {
		if x.Name != "HEAD" {
			l = append(l, x.Name)
		}
	}
	return l
}

// refsTold is all that a repository tells of its refs.
func refsTold(t *testing.T, r *repo.Repo) string {
	t.Helper()
	var b strings.Builder
	name, err := r.Head()
	done(t, "Head", err)
	fmt.Fprintf(&b, "HEAD: %s\n", name)
	for _, x := range r.Refs() {
		fmt.Fprintf(&b, "%s: %x\n", x.Name, x.ID)
	}
	for _, name := range names(r) {
		l, err := r.Reflog(name)
		done(t, "Reflog of "+name, err)
		for _, e := range l {
			fmt.Fprintf(&b, "%s: %x %x %v %q\n", name, e.Old, e.New, e.Who, e.Text)
		}
	}
	return b.String()
}

// objectsTold is the ids of all objects that a repository tells.
func objectsTold(t *testing.T, r *repo.Repo) []api.ID {
	t.Helper()
	l, err := r.Objects()
	done(t, "Objects", err)
	var ids []api.ID
	for _, o := range l {
		ids = append(ids, idOf(t, o))
	}
	return ids
}

// told is all that a repository tells.
func told(t *testing.T, r *repo.Repo) string {
	t.Helper()
	return refsTold(t, r) + fmt.Sprintf("%x\ncheck: %v\n", objectsTold(t, r), r.Check())
}

// tellsTheSame wants a repository to tell what one does that is opened.
func tellsTheSame(t *testing.T, what string, r *repo.Repo, d *api.Disk) {
	t.Helper()
	if was, now := told(t, r), told(t, open(t, d.Copy())); was != now {
		t.Errorf("%s: it tells\n%s, and opened again\n%s", what, was, now)
	}
}

// unchanged wants a call to change nothing that is told.
func unchanged(t *testing.T, what string, r *repo.Repo, d *api.Disk, call func()) {
	t.Helper()
	was := told(t, r)
	call()
	if now := told(t, r); now != was {
		t.Errorf("%s: it told\n%s, and now\n%s", what, was, now)
	}
	tellsTheSame(t, what, r, d)
}

// hasObjects wants just these objects to be there.
func hasObjects(t *testing.T, what string, r *repo.Repo, want ...api.ID) {
	t.Helper()
	want = slices.Clone(want)
	slices.SortFunc(want, func(x, y api.ID) int { return slices.Compare(x[:], y[:]) })
	want = slices.Compact(want)
	if got := objectsTold(t, r); !slices.Equal(got, want) {
		t.Errorf("%s: %x for %x", what, got, want)
	}
}
