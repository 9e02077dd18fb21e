// Package kind is layer 1: the types of values.
package kind

import (
	"ladderback/api"
)

// names stand in the order of the types, from Bool on.
var names = [...]string{"BOOL", "INT", "DINT", "WORD", "DWORD", "TIME"}

// sizes are how many bits the types have, in the same order.
var sizes = [...]int{1, 16, 32, 16, 32, 64}

// Right tells whether t is a type.
func Right(t int) bool {
	return t >= api.Bool && t <= api.Time
}

// Name tells a type's name.
func Name(t int) string {
	if !Right(t) {
		return ""
	}
	return names[t-api.Bool]
}

// Find tells the type of a name.
func Find(s string) int {
	for i, n := range names {
		if n == s {
			return i + api.Bool
		}
	}
	return 0
}

// Bits tells how many bits a type has.
func Bits(t int) int {
	if !Right(t) {
		return 0
	}
	return sizes[t-api.Bool]
}

// Signed tells whether a type has values below 0.
func Signed(t int) bool {
	return t == api.Int || t == api.Dint || t == api.Time
}

// Wrap makes a value of the type t of v.
func Wrap(t, v int) int {
	switch t {
	case api.Bool:
		if v == 0 {
			return 0
		}
		return 1
	case api.Int:
		return int(int16(v))
	case api.Dint:
		return int(int32(v))
	case api.Word:
		return int(uint16(v))
	case api.Dword:
		return int(uint32(v))
	case api.Time:
		return v
	}
	return 0
}

// In tells whether v is a value of the type t.
func In(t, v int) bool {
	return Right(t) && Wrap(t, v) == v
}
