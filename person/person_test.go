package person_test

import (
	"strings"
	"testing"

	"gitlike/api"
	"gitlike/person"
)

var sixty = strings.Repeat("x", api.MaxPerson)

// TestWriteRead: 3.3, persons as they are written, and read again.
func TestWriteRead(t *testing.T) {
	for want, p := range map[string]api.Person{
		"Ann <a@b> 5 +0100":                 {Name: "Ann", Mail: "a@b", Time: 5, Zone: 60},
		" <> 0 +0000":                       {},
		"A B <> 1099511627776 -1400":        {Name: "A B", Time: 1 << 40, Zone: -840},
		" <a b> 1 +1400":                    {Mail: "a b", Time: 1, Zone: 840},
		"A\tB <\t> 10 -0001":                {Name: "A\tB", Mail: "\t", Time: 10, Zone: -1},
		sixty + " <" + sixty + "> 59 +0059": {Name: sixty, Mail: sixty, Time: 59, Zone: 59},
		"\xff\r <é\x01> 1700000000 -0930":   {Name: "\xff\r", Mail: "é\x01", Time: 1700000000, Zone: -570},
		"5 +0100 <5 +0100> 5 +0100":         {Name: "5 +0100", Mail: "5 +0100", Time: 5, Zone: 60},
	} {
		if !person.CanWrite(p) || person.Write(p) != want {
			t.Errorf("%v: %v, %q", p, person.CanWrite(p), person.Write(p))
		}
		if got := person.Read(want); got != p {
			t.Errorf("%q: %v", want, got)
		}
	}
}

// TestCannotWrite: 3.3, persons that cannot be written.
func TestCannotWrite(t *testing.T) {
	texts := []string{sixty + "x", "<", "a>b", "a\nb", "\x00", " a", "a ", " "}
	bad := []api.Person{{Time: -1}, {Time: 1<<40 + 1}, {Zone: 841}, {Zone: -841}}
	for _, s := range texts {
		bad = append(bad, api.Person{Name: s}, api.Person{Mail: s})
	}
	for _, p := range bad {
		if person.CanWrite(p) {
			t.Errorf("%v can be written", p)
		}
	}
}

// TestReadNoise: P1, any text is read as something.
func TestReadNoise(t *testing.T) {
	for _, s := range []string{"", " ", "<", " <", " <> ", "Ann", "Ann <a@b>", "Ann <a@b> ", "Ann <a@b> x +0100", "Ann <a@b> 99999999999999999999 +0100", "Ann <a@b> 5 ", "Ann <a@b> 5 99999999999999999999", "\xff"} {
		if p := person.Read(s); person.CanWrite(p) && person.Write(p) == s {
			t.Errorf("%q is a person: %v", s, p)
		}
	}
}
