// Package person: persons as commits, tags and logs write them: see 3.3.
package person

import (
	"strconv"
	"strings"

	"gitlike/api"
)

const (
	maxTime     = 1 << 40
	maxZone     = 840 // minutes
	hourMinutes = 60
)

// CanWrite tells whether a person can be written.
func CanWrite(p api.Person) bool {
	return isText(p.Name) && isText(p.Mail) &&
		p.Time >= 0 && p.Time <= maxTime &&
		p.Zone >= -maxZone && p.Zone <= maxZone
}

func isText(s string) bool {
	return len(s) <= api.MaxPerson && !strings.ContainsAny(s, "<>\n\x00") && strings.Trim(s, " ") == s
}

// Write writes a person that can be written.
func Write(p api.Person) string {
	return p.Name + " <" + p.Mail + "> " + strconv.FormatInt(p.Time, 10) + " " + zoneText(p.Zone)
}

// Read reads what Write has written. Of other texts it reads anything: whoever must know writes again what was read, and holds both against each other.
func Read(text string) api.Person {
	name, rest, _ := strings.Cut(text, " <")
	mail, rest, _ := strings.Cut(rest, "> ")
	seconds, zone, _ := strings.Cut(rest, " ")
	time, err := strconv.ParseInt(seconds, 10, 64)
	if err != nil {
		return api.Person{}
	}
	return api.Person{Name: name, Mail: mail, Time: time, Zone: zoneOf(zone)}
}

// zoneText writes minutes as a sign, two digits of hours and two of minutes.
func zoneText(zone int) string {
	sign, size := "+", zone
	if zone < 0 {
		sign, size = "-", -zone
	}
	return sign + twoDigits(size/hourMinutes) + twoDigits(size%hourMinutes)
}

func twoDigits(n int) string { return strconv.Itoa(n/10) + strconv.Itoa(n%10) }

// zoneOf reads what zoneText writes: as one number, it has hours in its hundreds, both of its sign.
func zoneOf(text string) int {
	n, err := strconv.Atoi(text)
	if err != nil {
		return 0
	}
	return n/100*hourMinutes + n%100
}
