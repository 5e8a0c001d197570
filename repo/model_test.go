package repo_test

import (
	"bytes"
	"errors"
	"maps"
	"slices"
	"strings"
	"testing"

	"gitlike/api"
	"gitlike/digest"
	"gitlike/graph"
	"gitlike/merge"
	"gitlike/object"
	"gitlike/refs"
	"gitlike/stage"
)

// model is a repository whose objects are on no disk, as chapter 13 tells it, word by word. (Its refs are those of chapter 7, on a disk of their own.)
type model struct {
	objects map[api.ID]api.Object
	disk    *api.Disk // of the refs
	refs    *refs.Refs
	names   []string // all that refs of a game may have
}

func newModel(t *testing.T, names []string) *model {
	t.Helper()
	d := roomy()
	layLink(t, d, "HEAD", "refs/heads/main")
	r, err := refs.Open(d)
	done(t, "refs.Open", err)
	return &model{map[api.ID]api.Object{}, d, r, names}
}

func (m *model) clone(t *testing.T) *model {
	t.Helper()
	d := m.disk.Copy()
	r, err := refs.Open(d)
	done(t, "refs.Open", err)
	return &model{maps.Clone(m.objects), d, r, m.names}
}

// ids is the ids of all objects, by their bytes.
func (m *model) ids() []api.ID {
	var l []api.ID
	for id := range m.objects {
		l = append(l, id)
	}
	slices.SortFunc(l, func(x, y api.ID) int { return bytes.Compare(x[:], y[:]) })
	return l
}

func (m *model) all() []api.Object {
	var l []api.Object
	for _, id := range m.ids() {
		l = append(l, m.objects[id])
	}
	return l
}

func (m *model) put(l ...api.Object) (id api.ID) {
	for _, o := range l {
		id, _ = object.ID(o)
		m.objects[id] = o
	}
	return id
}

func (m *model) resolve(text string) (api.ID, error) {
	if id, err := digest.Parse(text); err == nil {
		return id, nil
	}
	if refs.IsName(text) {
		return m.refs.Read(text)
	}
	if id, err := m.refs.Read("refs/heads/" + text); err == nil {
		return id, nil
	}
	if id, err := m.refs.Read("refs/tags/" + text); err == nil {
		return id, nil
	}
	return nought, api.ErrNoRef
}

// theCommit is the commit of an id.
func (m *model) theCommit(id api.ID) (api.ID, api.CommitInfo, error) {
	for {
		o, there := m.objects[id]
		if !there {
			return nought, api.CommitInfo{}, &api.IDError{ID: id, Err: api.ErrMissing}
		}
		if o.Kind != api.Tag {
			break
		}
		info, err := object.ReadTag(o.Data)
		if err != nil {
			return nought, api.CommitInfo{}, err
		}
		id = info.Target
	}
	if m.objects[id].Kind != api.Commit {
		return nought, api.CommitInfo{}, api.ErrCommit
	}
	info, err := object.ReadCommit(m.objects[id].Data)
	if err == nil {
		_, err = graph.Closure(m.all(), []api.ID{id})
	}
	if err != nil {
		return nought, api.CommitInfo{}, err
	}
	return id, info, nil
}

// resolved is the commit of what a text resolves to.
func (m *model) resolved(text string) (api.ID, api.CommitInfo, error) {
	id, err := m.resolve(text)
	if err != nil {
		return nought, api.CommitInfo{}, err
	}
	return m.theCommit(id)
}

func (m *model) update(name string, was, now api.ID, who api.Person, text string) error {
	return m.refs.Update([]api.Change{{Name: name, Old: was, New: now}}, who, text)
}

// rooted is trees, the last one's id, and the error of making them.
func rooted(l []api.Entry) ([]api.Object, api.ID, error) {
	trees, err := stage.Trees(l)
	if err != nil {
		return nil, nought, err
	}
	id, err := object.ID(trees[len(trees)-1])
	return trees, id, err
}

func (m *model) Commit(files []api.File, who api.Person, message string) (api.ID, error) {
	var entries []api.Entry
	var blobs []api.Object
	for _, f := range files {
		o := api.Object{Kind: api.Blob, Data: f.Data}
		id, _ := object.ID(o)
		entries = append(entries, api.Entry{Path: f.Path, Mode: f.Mode, ID: id, Size: len(f.Data)})
		blobs = append(blobs, o)
	}
	if _, err := stage.Write(entries); err != nil {
		return nought, err
	}
	made := api.CommitInfo{Author: who, Committer: who, Message: message}
	if _, err := object.WriteCommit(made); err != nil {
		return nought, api.ErrAuthor
	}
	was, err := m.resolve("HEAD")
	first := api.Tell(err) == api.ErrNoRef
	var parent api.CommitInfo
	if !first {
		if err != nil {
			return nought, err
		}
		var id api.ID
		if id, parent, err = m.theCommit(was); err != nil {
			return nought, err
		}
		made.Parents = []api.ID{id}
	}
	trees, root, err := rooted(entries)
	if err != nil {
		return nought, err
	}
	if !first && parent.Tree == root {
		return nought, api.ErrNothing
	}
	made.Tree = root
	m.put(blobs...)
	m.put(trees...)
	data, err := object.WriteCommit(made)
	if err != nil {
		return nought, err
	}
	id := m.put(api.Object{Kind: api.Commit, Data: data})
	line := strings.Split(message, "\n")[0]
	if len(line) > 60 {
		line = line[:60]
	}
	if err := m.update("HEAD", was, id, who, "commit: "+line); err != nil {
		return nought, err
	}
	return id, nil
}

// flat is the files of a tree, among all trees.
func (m *model) flat(root api.ID) ([]api.Entry, error) { return stage.Flat(root, m.all()) }

func (m *model) Files(name string) ([]api.File, error) {
	_, info, err := m.resolved(name)
	if err != nil {
		return nil, err
	}
	entries, err := m.flat(info.Tree)
	if err != nil {
		return nil, err
	}
	var l []api.File
	for _, e := range entries {
		o := m.objects[e.ID]
		if o.Kind != api.Blob {
			return nil, api.ErrMissing
		}
		l = append(l, api.File{Path: e.Path, Mode: e.Mode, Data: o.Data})
	}
	return l, nil
}

func (m *model) Branch(name, at string) error {
	ref := "refs/heads/" + name
	if !refs.IsName(ref) {
		return api.ErrName
	}
	id, _, err := m.resolved(at)
	if err != nil {
		return err
	}
	if _, err := m.refs.Read(ref); err == nil {
		return api.ErrBranch
	}
	return m.update(ref, nought, id, nobody, "branch")
}

func (m *model) Switch(name string) error {
	ref := "refs/heads/" + name
	if !refs.IsName(ref) {
		return api.ErrName
	}
	if _, err := m.refs.Read(ref); err != nil {
		return api.ErrNoRef
	}
	return m.refs.Link("HEAD", ref)
}

func (m *model) Drop(name string) error {
	ref := "refs/heads/" + name
	if !refs.IsName(ref) {
		return api.ErrName
	}
	id, err := m.refs.Read(ref)
	if err != nil {
		return api.ErrNoRef
	}
	if to, _ := m.refs.Target("HEAD"); to == ref {
		return api.ErrBranch
	}
	return m.update(ref, id, nought, nobody, "drop")
}

func (m *model) Tag(name, at string, who api.Person, message string) (api.ID, error) {
	ref := "refs/tags/" + name
	if !refs.IsName(ref) {
		return nought, api.ErrName
	}
	id, _, err := m.resolved(at)
	if err != nil {
		return nought, err
	}
	if _, err := m.refs.Read(ref); err == nil {
		return nought, api.ErrBranch
	}
	data, err := object.WriteTag(api.TagInfo{Target: id, Kind: api.Commit, Name: name, Tagger: who, Message: message})
	if err != nil {
		return nought, err
	}
	made := m.put(api.Object{Kind: api.Tag, Data: data})
	if err := m.update(ref, nought, made, who, "tag"); err != nil {
		return nought, err
	}
	return made, nil
}

// graph is all commits that some reach.
func (m *model) graph(from ...api.ID) ([]api.Node, error) {
	var nodes []api.Node
	met := map[api.ID]bool{}
	for len(from) > 0 {
		id := from[0]
		from = from[1:]
		if met[id] {
			continue
		}
		met[id] = true
		if m.objects[id].Kind != api.Commit {
			return nil, api.ErrCommit
		}
		info, err := object.ReadCommit(m.objects[id].Data)
		if err != nil {
			return nil, err
		}
		nodes = append(nodes, api.Node{ID: id, Parents: info.Parents, Time: info.Committer.Time})
		from = append(from, info.Parents...)
	}
	return nodes, nil
}

func (m *model) Merge(name string, who api.Person, message string) (api.ID, error) {
	made := api.CommitInfo{Author: who, Committer: who, Message: message}
	if _, err := object.WriteCommit(made); err != nil {
		return nought, api.ErrAuthor
	}
	o, theirs, err := m.resolved(name)
	if err != nil {
		return nought, err
	}
	was, err := m.resolve("HEAD")
	if err != nil {
		return nought, err
	}
	h, ours, err := m.theCommit(was)
	if err != nil {
		return nought, err
	}
	nodes, err := m.graph(h, o)
	if err != nil {
		return nought, err
	}
	if reaches, err := graph.Reaches(nodes, h, o); err != nil || reaches {
		return nought, cmpOr(err, api.ErrNothing)
	}
	if reaches, err := graph.Reaches(nodes, o, h); err != nil || reaches {
		if err == nil {
			err = m.update("HEAD", was, o, who, "merge: forward")
		}
		return o, err
	}
	bases, err := graph.Bases(nodes, h, o)
	if err != nil {
		return nought, err
	}
	var base []api.Entry
	if len(bases) > 0 {
		if base, err = m.flat(m.latest(bases).Tree); err != nil {
			return nought, err
		}
	}
	return m.mergeThree(base, ours.Tree, theirs.Tree, made, was, h, o)
}

func cmpOr(err, other error) error {
	if err != nil {
		return err
	}
	return other
}

// latest is the base of several.
func (m *model) latest(bases []api.ID) api.CommitInfo {
	var best api.CommitInfo
	best.Committer.Time = -1
	for _, id := range bases { // their ids rise
		info, _ := object.ReadCommit(m.objects[id].Data)
		if info.Committer.Time >= best.Committer.Time {
			best = info
		}
	}
	return best
}

func (m *model) mergeThree(base []api.Entry, ours, theirs api.ID, made api.CommitInfo, was, h, o api.ID) (api.ID, error) {
	oursFiles, err := m.flat(ours)
	if err != nil {
		return nought, err
	}
	theirsFiles, err := m.flat(theirs)
	if err != nil {
		return nought, err
	}
	merged, err := merge.Trees(base, oursFiles, theirsFiles, m.all()) // others do not matter
	if err != nil {
		return nought, err
	}
	for _, e := range merged.Entries {
		if e.Stage != 0 {
			return nought, api.ErrConflict
		}
	}
	trees, root, err := rooted(merged.Entries)
	if err != nil {
		return nought, err
	}
	made.Tree, made.Parents = root, []api.ID{h, o}
	m.put(merged.Blobs...)
	m.put(trees...)
	data, err := object.WriteCommit(made)
	if err != nil {
		return nought, err
	}
	id := m.put(api.Object{Kind: api.Commit, Data: data})
	if err := m.update("HEAD", was, id, made.Author, "merge"); err != nil {
		return nought, err
	}
	return id, nil
}

func (m *model) Log(name string) ([]api.ID, error) {
	id, _, err := m.resolved(name)
	if err != nil {
		return nil, err
	}
	nodes, err := m.graph(id)
	if err != nil {
		return nil, err
	}
	return graph.Order(nodes, []api.ID{id}, nil)
}

// refIDs is what Refs tells.
func (m *model) refIDs() []api.ID {
	var l []api.ID
	for _, r := range m.refs.List("") {
		l = append(l, r.ID)
	}
	return l
}

func (m *model) Check() error {
	_, err := graph.Closure(m.all(), m.refIDs())
	return err
}

func (m *model) Collect() error {
	kept, err := graph.Closure(m.all(), m.refIDs())
	if err != nil {
		return err
	}
	for _, name := range m.names {
		l, err := m.refs.Log(name)
		if err != nil {
			continue
		}
		for _, e := range l {
			for _, id := range []api.ID{e.Old, e.New} {
				if whole, err := graph.Closure(m.all(), []api.ID{id}); err == nil {
					kept = append(kept, whole...)
				}
			}
		}
	}
	left := map[api.ID]api.Object{}
	for _, id := range kept {
		left[id] = m.objects[id]
	}
	m.objects = left
	return nil
}

// sameError wants two errors to be the same, at the same object if both name one.
func sameError(x, y error) bool {
	var a, b *api.IDError
	if errors.As(x, &a) && errors.As(y, &b) && a.ID != b.ID {
		return false
	}
	return api.Tell(x) == api.Tell(y)
}
