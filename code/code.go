// Package code is layer 1: numbers as bytes, and bytes with how many they are ahead of them (shared/doc/01-code.md).
package code

import (
	"iter"

	"leverframe/api"
)

const (
	base    = 128 // each digit is below it, and stands with it added unless it is the last one
	bits    = 7   // of a digit
	longest = 5   // digits that MaxNumber has
)

// Put answers n's bytes.
func Put(n int) ([]byte, api.Errno) {
	if n < 0 || n > api.MaxNumber {
		return nil, api.ErrArg
	}
	var out []byte
	for digit, last := range digits(n) {
		if last {
			out = append(out, byte(digit))
			break
		}
		out = append(out, byte(digit+base))
	}
	return out, api.OK
}

// Get answers the number whose bytes stand in b from at on, and the place behind them.
func Get(b []byte, at int) (n, next int, e api.Errno) {
	if at < 0 || at > len(b) {
		return 0, 0, api.ErrArg
	}
	n, size := value(b[at:])
	if size == 0 {
		return 0, 0, api.ErrBad
	}
	return n, at + size, api.OK
}

// Wrap answers b behind the bytes of how many b has.
func Wrap(b []byte) ([]byte, api.Errno) {
	if len(b) > api.MaxBytes {
		return nil, api.ErrMany
	}
	head, e := Put(len(b))
	return append(head, b...), e
}

// Unwrap answers the bytes, at most so many, that stand wrapped in b from at on, and the place behind them.
func Unwrap(b []byte, at, most int) (out []byte, next int, e api.Errno) {
	if at < 0 || at > len(b) || most < 0 || most > api.MaxBytes {
		return nil, 0, api.ErrArg
	}
	size, first, e := Get(b, at)
	if e != api.OK {
		return nil, 0, e
	}
	if size > most {
		return nil, 0, api.ErrMany
	}
	if size > len(b)-first {
		return nil, 0, api.ErrBad
	}
	out = make([]byte, size)
	copy(out, b[first:])
	return out, first + size, api.OK
}

// digits hands out n's digits, the lowest one first, each with whether it is the last one. Who ranges leaves behind that: noughts would follow.
func digits(n int) iter.Seq2[int, bool] {
	return func(yield func(digit int, last bool) bool) {
		for range longest {
			if !yield(n%base, n < base) {
				return
			}
			n /= base
		}
	}
}

// standing hands out the digits that stand at the beginning of b, each with whether it is the last one. Who ranges leaves behind that: the rest is not the number's.
func standing(b []byte) iter.Seq2[int, bool] {
	return func(yield func(digit int, last bool) bool) {
		for _, x := range b[:min(len(b), longest)] {
			if !yield(int(x)%base, x < base) {
				return
			}
		}
	}
}

// value answers the number whose bytes stand at the beginning of b, and how many they are; 0 of them, if none stands there.
func value(b []byte) (n, size int) {
	for digit, last := range standing(b) {
		// All bits of MaxNumber are 1, so what is left of it behind the digits below is the greatest digit here.
		if digit > api.MaxNumber>>(bits*size) {
			break
		}
		n += digit << (bits * size)
		size++
		if last {
			// A nought as the last of several digits would be one more way to write a number.
			if digit == 0 && size > 1 {
				break
			}
			return n, size
		}
	}
	return 0, 0
}
