// Package word has numbers as bytes, the lowest first.
package word

import "warden/api"

// most is the greatest size: as many bytes as a uint64 has.
const most = 8

// Get answers the number whose size bytes stand in s from at on.
func Get(s string, at, size int) (uint64, api.Errno) {
	if e := fits(s, at, size); e != api.OK {
		return 0, e
	}
	var b [most]byte
	copy(b[:], s[at:at+size])
	return number(b), api.OK
}

// Of answers the lowest size bytes of x; none, if size is no size.
func Of(x uint64, size int) string {
	if !isSize(size) {
		return ""
	}
	b := bytesOf(x)
	return string(b[:size])
}

// Set answers s with the lowest size bytes of x in it, from at on.
func Set(s string, at int, x uint64, size int) (string, api.Errno) {
	if e := fits(s, at, size); e != api.OK {
		return "", e
	}
	return s[:at] + Of(x, size) + s[at+size:], api.OK
}

// Low answers x modulo 256 to the power of size; 0, if size is no size.
func Low(x uint64, size int) uint64 {
	if !isSize(size) {
		return 0
	}
	unused := 8 * (most - size)
	return x << unused >> unused
}

// Sign answers Low of x, its highest bit taken as the sign; 0, if size is no size.
func Sign(x uint64, size int) int64 {
	if !isSize(size) {
		return 0
	}
	unused := 8 * (most - size)
	// Of a signed number a shift to the right repeats the highest bit, which is what the sign asks for.
	return int64(x<<unused) >> unused
}

func isSize(size int) bool {
	return size == 1 || size == 2 || size == 4 || size == 8
}

// fits tells why there is no number of that size in s at that place, if so.
func fits(s string, at, size int) api.Errno {
	if !isSize(size) || at < 0 {
		return api.ErrArg
	}
	// at + size could go round, the difference of two that are 0 or more can't.
	if len(s)-at < size {
		return api.ErrShort
	}
	return api.OK
}

func bytesOf(x uint64) [most]byte {
	var b [most]byte
	for i := range most {
		b[i] = byte(x >> (8 * i))
	}
	return b
}

func number(b [most]byte) uint64 {
	var x uint64
	for i := range most {
		x |= uint64(b[i]) << (8 * i)
	}
	return x
}
