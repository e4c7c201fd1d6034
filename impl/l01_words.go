package impl

import (
	"strconv"
	"strings"
)

const (
	MaxText   = 20000
	MaxNumber = 1000000000
	MaxWords  = 600
	MaxParts  = 12
)

const (
	hexDigits = "0123456789abcdef"
	firstByte = 32
	lastByte  = 126
)

// Hex returns the lowercase hexadecimal encoding of text.
func Hex(text string) (string, bool) {
	if len(text) > MaxText {
		return "", false
	}
	digits := make([]byte, 0, 2*len(text))
	for at := range len(text) {
		digits = append(digits, hexDigits[text[at]>>4], hexDigits[text[at]&15])
	}
	return string(digits), true
}

// Unhex returns the string whose Hex is text.
func Unhex(text string) (string, bool) {
	if len(text)%2 != 0 || len(text) > 2*MaxText {
		return "", false
	}
	plain := make([]byte, 0, len(text)/2)
	for at := 0; at < len(text); at += 2 {
		high := strings.IndexByte(hexDigits, text[at])
		low := strings.IndexByte(hexDigits, text[at+1])
		if high < 0 || low < 0 {
			return "", false
		}
		plain = append(plain, byte(16*high+low))
	}
	return string(plain), true
}

// Decimal returns n in decimal.
func Decimal(n int) string { return strconv.Itoa(n) }

// ReadDecimal returns the number from 0 to MaxNumber whose Decimal is text.
func ReadDecimal(text string) (int, bool) {
	n, err := strconv.Atoi(text)
	if err != nil || n < 0 || n > MaxNumber {
		return 0, false
	}
	// Atoi also reads texts that Decimal never writes: leading zeros and a sign before 0 or a plus.
	if Decimal(n) != text {
		return 0, false
	}
	return n, true
}

// PartsOf returns the fields of a line, which are separated by spaces.
func PartsOf(line string) ([]string, bool) {
	if len(line) > MaxWords || validBytes(line) < len(line) {
		return nil, false
	}
	// Of the bytes that are valid, only the space is white space to Fields.
	parts := strings.Fields(line)
	if len(parts) > MaxParts {
		return nil, false
	}
	for i, part := range parts {
		// Fields cuts the parts from the line, but a result shares no memory with an argument.
		parts[i] = strings.Clone(part)
	}
	return parts, true
}

// validBytes returns the number of bytes before the first invalid one.
func validBytes(line string) int {
	at := 0
scan:
	for at < len(line) {
		switch b := line[at]; {
		case b < firstByte, b > lastByte:
			break scan
		default:
			at++
		}
	}
	return at
}

// Brought returns n clamped to the range least to most.
func Brought(n int, least int, most int) int {
	// The outer max decides if most is less than least, so that least is the result.
	return max(least, min(n, most))
}
