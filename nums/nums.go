// Package nums is layer 1: numbers as bytes, the highest byte first. See doc/01-nums.md.
package nums

import "burrow/api"

const (
	wordBytes = 8                     // of a word
	longBytes = api.Words * wordBytes // of a long number
	sizeBytes = 4                     // of what tells how many bytes follow
)

// Put answers b's bytes, then the last bytes of n, the highest of them ahead: at least none, at most eight. (P1.1)
func Put(b []byte, n uint64, bytes int) []byte {
	out := longer(b, min(max(bytes, 0), wordBytes))
	lay(out[len(b):], n)
	return out
}

// Get answers the number that b's first bytes tell. (P1.1)
func Get(b []byte, bytes int) (uint64, api.Errno) {
	if bytes < 0 || bytes > wordBytes {
		return 0, api.ErrArg
	}
	if len(b) < bytes {
		return 0, api.ErrShort
	}
	return told(b[:bytes]), api.OK
}

// PutLong answers b's bytes, then the 32 of n, the highest ahead. (P1.2)
func PutLong(b []byte, n api.Num) []byte {
	out := longer(b, longBytes)
	lay(out[len(b):], n[:]...)
	return out
}

// GetLong answers the long number that b's first 32 bytes tell. (P1.2)
func GetLong(b []byte) (api.Num, api.Errno) {
	if len(b) < longBytes {
		return api.Num{}, api.ErrShort
	}
	var n api.Num
	for i := range api.Words {
		from := i * wordBytes
		n[api.Words-1-i] = told(b[from : from+wordBytes])
	}
	return n, api.OK
}

// PutBytes answers b's bytes, then in four how many l has, then l's. (P1.3)
func PutBytes(b, l []byte) []byte {
	body := len(b) + sizeBytes
	out := longer(b, sizeBytes+len(l))
	lay(out[len(b):body], uint64(len(l)))
	copy(out[body:], l)
	return out
}

// GetBytes answers the bytes that PutBytes put at b's beginning, and how many of b's bytes that was in all. (P1.3)
func GetBytes(b []byte) (l []byte, took int, e api.Errno) {
	size, e := Get(b, sizeBytes)
	if e != api.OK {
		return nil, 0, e
	}
	// Compared while it is unsigned: where an int has 32 bits, the size may not fit one.
	if uint64(len(b)-sizeBytes) < size {
		return nil, 0, api.ErrShort
	}
	took = sizeBytes + int(size)
	return longer(b[sizeBytes:took], 0), took, api.OK
}

// longer answers b's bytes in new memory, so that b's spare room stays as it is, and room for more behind them.
func longer(b []byte, more int) []byte {
	out := make([]byte, len(b)+more)
	copy(out, b)
	return out
}

// lay fills the room from its end with the bytes of the words, the lowest word first: where the room is too short, the highest bytes are those that stay away.
func lay(room []byte, words ...uint64) {
	for i := range min(len(room), len(words)*wordBytes) {
		room[len(room)-1-i] = byte(words[i/wordBytes] >> (i % wordBytes * 8))
	}
}

// told answers the number that the bytes tell, the highest ahead.
func told(b []byte) uint64 {
	var n uint64
	for _, x := range b {
		n = n<<8 | uint64(x)
	}
	return n
}
