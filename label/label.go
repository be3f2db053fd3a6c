// Package label is layer 1: who may see what. See shared/doc/01-label.md.
package label

import "blindstamp/api"

// allCats has each category's bit.
const allCats = 1<<32 - 1

// Check tells whether a label may be.
func Check(a api.Label) api.Errno {
	if a.Level > api.MaxLevel {
		return api.ErrBad
	}
	return api.OK
}

// Leq tells whether a is at or below b. It is told by the meet, so that the order and the meets can't come apart.
func Leq(a, b api.Label) bool {
	return lower(a, b) == a
}

// Join is the least label that both are at or below.
func Join(a, b api.Label) (api.Label, api.Errno) {
	return ofBoth(a, b, upper)
}

// Meet is the greatest label that is at or below both.
func Meet(a, b api.Label) (api.Label, api.Errno) {
	return ofBoth(a, b, lower)
}

// Ahead tells whether a is ahead of b, in the order of all labels.
func Ahead(a, b api.Label) bool {
	if a.Level == b.Level {
		return a.Cats < b.Cats
	}
	return a.Level < b.Level
}

// Least is the label that is at or below all.
func Least() api.Label {
	return api.Label{}
}

// Greatest is the label that all that may be are at or below.
func Greatest() api.Label {
	return api.Label{Level: api.MaxLevel, Cats: allCats}
}

// ofBoth makes a label of two. The closure has the last word, so that no label is told beside an error, whatever is made.
func ofBoth(a, b api.Label, from func(a, b api.Label) api.Label) (made api.Label, e api.Errno) {
	defer func() {
		if e = checkBoth(a, b); e != api.OK {
			made = api.Label{}
		}
	}()
	return from(a, b), api.OK
}

func checkBoth(a, b api.Label) api.Errno {
	if e := Check(a); e != api.OK {
		return e
	}
	return Check(b)
}

// upper and lower are of any two labels: Leq is asked of those, too, that may not be.
func upper(a, b api.Label) api.Label {
	return api.Label{Level: max(a.Level, b.Level), Cats: a.Cats | b.Cats}
}

func lower(a, b api.Label) api.Label {
	return api.Label{Level: min(a.Level, b.Level), Cats: a.Cats & b.Cats}
}
