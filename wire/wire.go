// Package wire has numbers and bytes, addresses and prefixes: layer 1 of guidepost.
package wire

import (
	"bytes"
	"cmp"
	"slices"
	"strconv"
	"strings"

	"guidepost/api"
)

const (
	maxSize  = 8
	addrSize = 4
	addrBits = 8 * addrSize
	maxByte  = 255
)

const hexDigits = "0123456789abcdef"

func Put(n uint64, size int) ([]byte, api.Errno) {
	// Of 8 bytes the shift by 64 leaves nothing: each number has room there.
	if size < 1 || size > maxSize || n>>(8*size) != 0 {
		return nil, api.ErrArg
	}
	b := make([]byte, size)
	for i := range size {
		b[size-1-i] = byte(n >> (8 * i))
	}
	return b, api.OK
}

func Get(b []byte) (uint64, api.Errno) {
	if len(b) < 1 || len(b) > maxSize {
		return 0, api.ErrArg
	}
	var n uint64
	for i := range len(b) {
		n = n<<8 | uint64(b[i])
	}
	return n, api.OK
}

func Join(l ...[]byte) []byte { return slices.Concat(l...) }

func Cut(b []byte, sizes ...int) ([][]byte, api.Errno) {
	if slices.ContainsFunc(sizes, func(n int) bool { return n < 0 }) {
		return nil, api.ErrArg
	}
	// Sizes are held against what is left, one by one: their sum could go round.
	rest := bytes.Clone(b)
	parts := make([][]byte, 0, len(sizes))
	for _, n := range sizes {
		if n > len(rest) {
			return nil, api.ErrBytes
		}
		// A part ends where the next one begins: to append to it must not write there.
		parts = append(parts, rest[:n:n])
		rest = rest[n:]
	}
	if len(rest) > 0 {
		return nil, api.ErrBytes
	}
	return parts, api.OK
}

func Hex(b []byte) string {
	text := make([]byte, 0, 2*len(b))
	for i := range len(b) {
		text = append(text, hexDigits[b[i]>>4], hexDigits[b[i]&15])
	}
	return string(text)
}

func Unhex(s string) ([]byte, api.Errno) {
	b := make([]byte, len(s)/2)
	read := 0
text:
	for i := range len(b) {
		for half := range 2 {
			digit := strings.IndexByte(hexDigits, s[2*i+half])
			if digit < 0 {
				break text
			}
			b[i] = b[i]<<4 | byte(digit)
			read++
		}
	}
	if read != len(s) {
		return nil, api.ErrBytes
	}
	return b, api.OK
}

func AddrText(a api.Addr) string {
	var parts [addrSize]string
	for i := range addrSize {
		parts[addrSize-1-i] = strconv.Itoa(int(a >> (8 * i) & maxByte))
	}
	return strings.Join(parts[:], ".")
}

func AddrOf(s string) (api.Addr, api.Errno) {
	var a api.Addr
	rest := s
text:
	for i := range addrSize {
		part, behind, dot := strings.Cut(rest, ".")
		n, good := number(part, maxByte)
		last := i == addrSize-1
		switch {
		case !good, dot == last:
			break text
		case last:
			return a<<8 | api.Addr(n), api.OK
		}
		a, rest = a<<8|api.Addr(n), behind
	}
	return 0, api.ErrBytes
}

// number takes of all texts of a number its own alone: Atoi takes '+1' and '01', too.
func number(s string, most int) (int, bool) {
	n, err := strconv.Atoi(s)
	if err != nil || n < 0 || n > most || strconv.Itoa(n) != s {
		return 0, false
	}
	return n, true
}

func MayPrefix(p api.Prefix) bool {
	return p.Len >= 0 && p.Len <= addrBits && p.Addr<<p.Len == 0
}

func Has(p api.Prefix, a api.Addr) bool {
	return MayPrefix(p) && (p.Addr^a)>>(addrBits-p.Len) == 0
}

// Within: p is the wider one, as it stands first in Has.
func Within(p, q api.Prefix) bool {
	return MayPrefix(q) && p.Len <= q.Len && Has(p, q.Addr)
}

func PrefixText(p api.Prefix) (string, api.Errno) {
	if !MayPrefix(p) {
		return "", api.ErrArg
	}
	return AddrText(p.Addr) + "/" + strconv.Itoa(p.Len), api.OK
}

func PrefixOf(s string) (api.Prefix, api.Errno) {
	// Without a '/' there are no digits behind it, which number refuses.
	addr, digits, _ := strings.Cut(s, "/")
	a, e := AddrOf(addr)
	n, good := number(digits, addrBits)
	p := api.Prefix{Addr: a, Len: n}
	if e != api.OK || !good || !MayPrefix(p) {
		return api.Prefix{}, api.ErrBytes
	}
	return p, api.OK
}

func Compare(p, q api.Prefix) int {
	return cmp.Or(cmp.Compare(p.Addr, q.Addr), cmp.Compare(p.Len, q.Len))
}
