package wire

import (
	"strings"

	"gitlike/api"
	"gitlike/digest"
	"gitlike/refs"
)

const headWord = "head "

// WriteOffer writes what a server has.
func WriteOffer(o api.Offer) ([]byte, error) {
	head, err := writeHead(o.Head)
	if err != nil {
		return nil, err
	}
	last := "" // all names are greater
	offered, err := writeList(o.Refs, api.MaxRefs, func(r api.Ref) (string, error) {
		if r.Name <= last || !refs.IsName(r.Name) {
			return "", api.ErrTalk
		}
		last = r.Name
		return digest.Hex(r.ID) + blank + r.Name, nil
	})
	if err != nil {
		return nil, err
	}
	return writeTexts(head, offered, []string{noText}), nil
}

// ReadOffer reads it.
func ReadOffer(b []byte) (api.Offer, error) { return readBack(b, readOffer, WriteOffer) }

// writeHead is the text of where HEAD leads to, if it leads anywhere.
func writeHead(name string) ([]string, error) {
	if name == "" {
		return nil, nil
	}
	if !refs.IsName(name) {
		return nil, api.ErrTalk
	}
	return []string{headWord + name}, nil
}

func readOffer(texts []string) api.Offer {
	var o api.Offer
	if len(texts) > 0 && strings.HasPrefix(texts[0], headWord) {
		o.Head = strings.TrimPrefix(texts[0], headWord)
		texts = texts[1:]
	}
	o.Refs, _ = readList(texts, readRef)
	return o
}

func readRef(text string) (api.Ref, error) {
	hex, name, _ := strings.Cut(text, blank)
	id, err := digest.Parse(hex)
	return api.Ref{Name: name, ID: id}, err
}
