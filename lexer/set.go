package lexer

import (
	"slices"
	"strings"
)

// set tells which bytes are of a kind. It is asked by runes, as a range over a string tells them: the bytes that are named are below 128, where both are the same.
type set func(c rune) bool

func letter() set { return between('a', 'z') }

func digit() set { return between('0', '9') }

// ofName: what may stand in a name behind its first letter.
func ofName() set { return either(letter(), digit(), among("-_")) }

func between(first, last rune) set {
	return func(c rune) bool { return first <= c && c <= last }
}

func among(named string) set {
	return func(c rune) bool { return strings.ContainsRune(named, c) }
}

func either(l ...set) set {
	return func(c rune) bool {
		return slices.ContainsFunc(l, func(s set) bool { return s(c) })
	}
}

func not(s set) set {
	return func(c rune) bool { return !s(c) }
}
