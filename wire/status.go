package wire

import (
	"strconv"
	"strings"

	"gitlike/api"
)

const (
	okWord = "ok "
	ngWord = "ng "
	maxErr = 999
)

// WriteStatus writes what became of it.
func WriteStatus(l []api.Status) ([]byte, error) {
	check := onceNamed()
	statuses, err := writeList(l, api.MaxRefs, func(s api.Status) (string, error) {
		if s.Err < 0 || s.Err > maxErr {
			return "", api.ErrTalk
		}
		return statusText(s), check(s.Name)
	})
	if err != nil {
		return nil, err
	}
	return writeTexts(statuses, []string{noText}), nil
}

// ReadStatus reads it.
func ReadStatus(b []byte) ([]api.Status, error) { return readBack(b, readStatuses, WriteStatus) }

func statusText(s api.Status) string {
	if s.Err == api.OK {
		return okWord + s.Name
	}
	return ngWord + s.Name + blank + strconv.Itoa(int(s.Err))
}

func readStatuses(texts []string) []api.Status {
	l, _ := readList(texts, readStatus)
	return l
}

func readStatus(text string) (api.Status, error) {
	if name, ok := strings.CutPrefix(text, okWord); ok {
		return api.Status{Name: name}, nil
	}
	name, number, _ := strings.Cut(strings.TrimPrefix(text, ngWord), blank)
	n, err := strconv.ParseUint(number, 10, 16)
	return api.Status{Name: name, Err: api.Errno(n)}, err
}
