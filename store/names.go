package store

import (
	"strconv"
	"strings"

	"gitlike/api"
	"gitlike/digest"
)

const (
	root     = "objects/" // all files of a store begin with this
	packRoot = root + "pack/pack-"
	packEnd  = ".pack"
	idxEnd   = ".idx"
)

// looseName is the file of an object by itself.
func looseName(id api.ID) string {
	h := digest.Hex(id)
	return root + h[:2] + "/" + h[2:]
}

// packName is a pack's file, by its SHA-1.
func packName(sum api.ID) string { return packRoot + digest.Hex(sum) + packEnd }

// idxName is the file of that pack's index.
func idxName(sum api.ID) string { return packRoot + digest.Hex(sum) + idxEnd }

// spareName is a file that means nothing: one is written under such a name until it is whole.
func spareName(i int) string { return root + "new-" + strconv.Itoa(i) }

// looseID tells whose file that name is, if it is one of an object by itself.
func looseID(name string) (api.ID, bool) {
	h := strings.ReplaceAll(strings.TrimPrefix(name, root), "/", "")
	id, err := digest.Parse(h)
	// The name is not read but written: so there is no second way to spell it.
	return id, err == nil && looseName(id) == name
}

// packSum likewise, if it is one of a pack.
func packSum(name string) (api.ID, bool) {
	h := strings.TrimSuffix(strings.TrimPrefix(name, packRoot), packEnd)
	sum, err := digest.Parse(h)
	return sum, err == nil && packName(sum) == name
}
