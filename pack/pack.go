// Package pack is layer 1: see shared/doc/01-pack.md.
package pack

import (
	"strings"

	"entente/api"
)

const (
	groupBits = 7
	more      = 1 << groupBits // added to a group behind which another one stands
	maxGroups = 10             // 2^64 - 1 has nine whole groups, and one bit
	topGroup  = 1              // the most that the last of maxGroups can be
)

// Number lays a number.
func Number(n uint64) string {
	laid := make([]byte, 0, maxGroups)
	for n >= more {
		laid = append(laid, byte(n%more+more))
		n /= more
	}
	return string(append(laid, byte(n)))
}

// Signed lays a number that may be below 0.
func Signed(n int64) string {
	if n >= 0 {
		return Number(uint64(n) * 2)
	}
	// -n - 1 is in the range of int64 for the least number too; -n is not.
	return Number(uint64(-(n+1))*2 + 1)
}

// Text lays a text.
func Text(s string) string { return Number(uint64(len(s))) + s }

// Texts lays texts.
func Texts(l ...string) string {
	var laid strings.Builder
	laid.WriteString(Number(uint64(len(l))))
	for _, s := range l {
		laid.WriteString(Number(uint64(len(s))))
		laid.WriteString(s)
	}
	return laid.String()
}

// TakeNumber takes a number.
func TakeNumber(s string, at int) (uint64, int, api.Errno) {
	if at < 0 || at > len(s) {
		return 0, 0, api.ErrArg
	}
	var n uint64
	for i := range maxGroups {
		if i == len(s)-at {
			return 0, 0, api.ErrShort
		}
		group := s[at+i]
		n |= uint64(group%more) << (groupBits * i)
		if group >= more {
			continue
		}
		if !lastGroup(i, group) {
			return 0, 0, api.ErrForm
		}
		return n, at + i + 1, api.OK
	}
	// Whatever stands behind so many groups, the number is too great.
	return 0, 0, api.ErrForm
}

// lastGroup tells whether a number that has so many groups ahead can end with this one.
func lastGroup(ahead int, group byte) bool {
	if ahead == maxGroups-1 && group > topGroup {
		return false
	}
	return ahead == 0 || group != 0
}

// TakeSigned takes a number that may be below 0.
func TakeSigned(s string, at int) (int64, int, api.Errno) {
	n, to, e := TakeNumber(s, at)
	if e != api.OK {
		return 0, 0, e
	}
	half := int64(n / 2)
	if n%2 == 0 {
		return half, to, api.OK
	}
	return -half - 1, to, api.OK
}

// TakeText takes a text.
func TakeText(s string, at int) (string, int, api.Errno) {
	size, from, e := TakeNumber(s, at)
	if e != api.OK {
		return "", 0, e
	}
	// Held against what is left, not added to from: the sum could leave its range.
	if size > uint64(len(s)-from) {
		return "", 0, api.ErrShort
	}
	to := from + int(size)
	return strings.Clone(s[from:to]), to, api.OK
}

// TakeTexts takes texts.
func TakeTexts(s string, at int) ([]string, int, api.Errno) {
	count, to, e := TakeNumber(s, at)
	if e != api.OK {
		return nil, 0, e
	}
	take := textTaker(s, to)
	// No room is made ahead: count may be far above what s can hold.
	var l []string
	for range count {
		t, behind, e := take()
		if e != api.OK {
			return nil, 0, e
		}
		l, to = append(l, t), behind
	}
	return l, to, api.OK
}

// textTaker makes a function that takes the texts of s from at on, one at each call, and tells the place behind it.
func textTaker(s string, at int) func() (string, int, api.Errno) {
	return func() (string, int, api.Errno) {
		t, to, e := TakeText(s, at)
		if e == api.OK {
			at = to
		}
		return t, to, e
	}
}
