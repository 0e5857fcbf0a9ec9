package lex

import "slices"

// class says what begins at a byte.
type class uint8

const (
	other class = iota
	blank
	letter
	digit
	underscore // it begins nothing, but names go on with it
	sign
	slash // a sign, or the beginning of a comment
	allClasses
)

// classes is indexed by the byte; the bytes after its end are other ones.
var classes = [128]class{
	'\t': blank, '\n': blank, '\r': blank, ' ': blank,
	'A': letter, 'B': letter, 'C': letter, 'D': letter, 'E': letter, 'F': letter, 'G': letter, 'H': letter, 'I': letter,
	'J': letter, 'K': letter, 'L': letter, 'M': letter, 'N': letter, 'O': letter, 'P': letter, 'Q': letter, 'R': letter,
	'S': letter, 'T': letter, 'U': letter, 'V': letter, 'W': letter, 'X': letter, 'Y': letter, 'Z': letter,
	'a': letter, 'b': letter, 'c': letter, 'd': letter, 'e': letter, 'f': letter, 'g': letter, 'h': letter, 'i': letter,
	'j': letter, 'k': letter, 'l': letter, 'm': letter, 'n': letter, 'o': letter, 'p': letter, 'q': letter, 'r': letter,
	's': letter, 't': letter, 'u': letter, 'v': letter, 'w': letter, 'x': letter, 'y': letter, 'z': letter,
	'0': digit, '1': digit, '2': digit, '3': digit, '4': digit, '5': digit, '6': digit, '7': digit, '8': digit, '9': digit,
	'_': underscore,
	'{': sign, '}': sign, '(': sign, ')': sign, ';': sign, ',': sign, '=': sign, '#': sign, '<': sign, '!': sign, '-': sign, '.': sign,
	'/': slash,
}

func classOf(b byte) class {
	if int(b) >= len(classes) {
		return other
	}
	return classes[b]
}

// count returns how many bytes at the beginning of s are of these classes.
func count(s string, of ...class) (n int) {
	for n < len(s) && slices.Contains(of, classOf(s[n])) {
		n++
	}
	return n
}
