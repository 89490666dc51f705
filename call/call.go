// Package call: the calls that are asked, and how great their fields may be. See doc/01-call.md.
package call

import "turnkey/api"

// Most answers how great a field may be. A field that no call has is taken for an argument, so that every number has an answer.
func Most(field int) int {
	switch field {
	case 0:
		return api.MaxNr
	case 1:
		return api.MaxKind
	}
	return api.MaxArg
}

// Check answers ErrRange of a call with a field that isn't from 0 to Most of it.
func Check(c api.Call) api.Errno {
	for field, value := range c {
		if value < 0 || value > Most(field) {
			return api.ErrRange
		}
	}
	return api.OK
}
