package split

import (
	"bytes"
	"encoding/hex"
	"hash/fnv"
	"math"
	"math/rand"
	"slices"
	"testing"

	"guidepost/api"
	"guidepost/ip"
)

// raw are the bytes that hexadecimal digits tell.
func raw(s string) []byte {
	b, err := hex.DecodeString(s)
	if err != nil {
		panic(err)
	}
	return b
}

// packet are the bytes of one that may be.
func packet(t *testing.T, h api.Header, payload ...byte) []byte {
	t.Helper()
	b, e := ip.Bytes(h, payload)
	if e != api.OK {
		t.Fatal("no packet: ", h, len(payload), e)
	}
	return b
}

// hashed is a packet's hash, which must have one.
func hashed(t *testing.T, b []byte) uint32 {
	t.Helper()
	n, e := Hash(b)
	if e != api.OK {
		t.Fatalf("Hash(%x) = %d, %v", b, n, e)
	}
	return n
}

// flow is the hash of those bytes by the library's own.
func flow(l ...[]byte) uint32 {
	h := fnv.New32a()
	for _, b := range l {
		h.Write(b)
	}
	return h.Sum32()
}

// flowOf is a packet's hash, worked out in another way than the program's: by the places at which its bytes stand.
func flowOf(b []byte) uint32 {
	head, total := int(b[0]&15)*4, int(b[2])<<8+int(b[3])
	piece := b[6]&0x3f != 0 || b[7] != 0
	if (b[9] == 6 || b[9] == 17) && !piece && total-head > 3 {
		return flow(b[12:20], b[9:10], b[head:head+4])
	}
	return flow(b[12:20], b[9:10])
}

// varied are bytes that look like no other's: the same ones for each seed.
func varied(size int, seed uint32) []byte {
	b := make([]byte, size)
	for i := range b {
		seed = seed*1664525 + 1013904223
		b[i] = byte(seed >> 24)
	}
	return b
}

// options are lists of 0 to 40 bytes that may be.
func options() [][]byte {
	return [][]byte{nil, {1, 1, 1, 0}, {131, 3, 9, 0}, {0, 7, 99, 137}, {7, 7, 4, 1, 2, 3, 4, 148, 4, 0, 0, 1}, bytes.Repeat([]byte{1}, 40)}
}

// sealed is a copy of a packet's bytes, whose header of so many bytes has the checksum that makes it good.
func sealed(b []byte, size int) []byte {
	b = slices.Clone(b)
	b[10], b[11] = 0, 0
	n := 0
	for i := 0; i < size; i += 2 {
		n += int(b[i])<<8 + int(b[i+1])
	}
	n = 65534 - (n-1)%65535
	b[10], b[11] = byte(n>>8), byte(n)
	return b
}

// P13.2

func TestHash(t *testing.T) {
	for _, x := range []struct {
		packet string
		want   uint32
	}{
		{"45000014000000000011bad70000000100000002", 1904901527},
		{"45000017000000000011bad40000000100000002010203", 1904901527},
		{"45000018000000000011bad3000000010000000201020304", 219959271},
		{"45000019000000000011bad200000001000000020102030405", 219959271},
		{"45000019000000000006badd00000001000000020102030405", 4085861194},
		{"45000019000000000001bae200000001000000020102030405", 2173343431},
		{"45000014000000000000baeb0000000000000000", 3370484223},
		{"450000140000000000ffb9ecffffffffffffffff", 3086662918},
		{"46000020000000000006622a0a000001c0a8010283030900c000005061626364", 2818293363},
		// MF alone, DF alone, Offset alone.
		{"4500001c000020000011cf260a000001c0a801020035003561626364", 2307460610},
		{"4500001c000040000011af260a000001c0a801020035003561626364", 1824878042},
		{"4500001c000000010011ef250a000001c0a801020035003561626364", 2307460610},
	} {
		b := raw(x.packet)
		if n, e := Hash(b); n != x.want || e != api.OK || flowOf(b) != x.want {
			t.Errorf("Hash(%s) = %d, %v, want %d (the model: %d)", x.packet, n, e, x.want, flowOf(b))
		}
	}
}

// TestHashOfEachProto goes over all of them, with payloads shorter and longer than the ports, with options and without, of all that makes a fragment or none.
func TestHashOfEachProto(t *testing.T) {
	headers := []api.Header{{}, {DF: true}, {Evil: true}, {MF: true}, {Offset: 1}, {Offset: 256}, {Offset: 8191}, {Offset: 5, MF: true}, {DF: true, MF: true}, {DF: true, Evil: true, Offset: 4096}, {TOS: 255, ID: 65535, TTL: 255}}
	for proto := range 256 {
		for i, h := range headers {
			for k, list := range options() {
				for _, size := range []int{0, 1, 2, 3, 4, 5, 8, 60} {
					h.Proto, h.Src, h.Dst, h.Options = byte(proto), 0x0a000001, 0xc0a80102, list
					payload := varied(size, uint32(proto+i+k))
					b := packet(t, h, payload...)
					want := flow([]byte{10, 0, 0, 1, 192, 168, 1, 2, byte(proto)})
					if (proto == 6 || proto == 17) && size >= 4 && (i < 3 || i == 10) {
						want = flow([]byte{10, 0, 0, 1, 192, 168, 1, 2, byte(proto)}, payload[:4])
					}
					if n := hashed(t, b); n != want {
						t.Fatalf("%+v, %d bytes: %d, want %d", h, size, n, want)
					}
				}
			}
		}
	}
}

// TestHashGoesByEachByte: each byte of what a flow is, and no other, makes another hash.
func TestHashGoesByEachByte(t *testing.T) {
	for _, proto := range []byte{1, 6, 17} {
		h := api.Header{TOS: 3, ID: 7, TTL: 64, Proto: proto, Src: 0x01020304, Dst: 0x05060708, Options: []byte{7, 4, 0, 0}}
		b := packet(t, h, varied(20, 5)...)
		was := hashed(t, b)
		for at := range b {
			for bit := range 8 {
				changed := slices.Clone(b)
				changed[at] ^= 1 << bit
				changed = sealed(changed, 24)
				if _, _, f := ip.Parse(changed); f != 0 {
					if n, e := Hash(changed); n != 0 || e != api.ErrBytes {
						t.Fatalf("Hash(%x) = %d, %v", changed, n, e)
					}
					continue
				}
				n := hashed(t, changed)
				if n != flowOf(changed) {
					t.Fatalf("byte %d, bit %d: %d, want %d", at, bit, n, flowOf(changed))
				}
				tells := at == 9 || at >= 12 && at < 20 || proto != 1 && at >= 24 && at < 28
				piece := at == 6 && bit < 6 || at == 7
				if !piece && (n == was) == tells {
					t.Fatalf("byte %d, bit %d of proto %d: %d, was %d", at, bit, proto, n, was)
				}
			}
		}
	}
}

// TestHashKnowsBothEnds: there and back are not one flow, nor is what differs by the order of its bytes alone.
func TestHashKnowsBothEnds(t *testing.T) {
	seen := map[uint32]int{}
	for i, h := range []api.Header{
		{Proto: 17, Src: 1, Dst: 2}, {Proto: 17, Src: 2, Dst: 1}, {Proto: 6, Src: 1, Dst: 2}, {Proto: 17, Src: 1 << 24, Dst: 2}, {Proto: 17, Src: 1 << 16, Dst: 2}, {Proto: 17, Src: 1 << 8, Dst: 2},
		{Proto: 17, Src: 1, Dst: 2 << 24}, {Proto: 17, Src: 0, Dst: 3}, {Proto: 17, Src: math.MaxUint32, Dst: 2}, {Proto: 17, Src: 1, Dst: math.MaxUint32},
	} {
		for k, payload := range [][]byte{{1, 2, 3, 4}, {3, 4, 1, 2}, {4, 3, 2, 1}, {0, 0, 0, 0}, {255, 255, 255, 255}, {1, 2, 3}} {
			n := hashed(t, packet(t, h, payload...))
			if other, found := seen[n]; found {
				t.Errorf("%d and %d: %d", other, 10*i+k, n)
			}
			seen[n] = 10*i + k
		}
	}
}

func TestHashOfOneFlow(t *testing.T) {
	h := api.Header{Proto: 17, Src: 1, Dst: 2}
	was := hashed(t, packet(t, h, 1, 2, 3, 4))
	for size := range 1000 {
		h.TOS, h.ID, h.TTL, h.DF, h.Evil = byte(size), uint16(size*77), byte(size*3), size%2 == 0, size%3 == 0
		h.Options = options()[size%6]
		b := packet(t, h, slices.Concat([]byte{1, 2, 3, 4}, varied(size, uint32(size)))...)
		if n := hashed(t, b); n != was {
			t.Fatalf("%+v, %d bytes behind the first 4: %d, was %d", h, size, n, was)
		}
	}
}

// TestHashLeavesWhatIsBehind: bytes behind the packet are none of its own, also where they stand at the place of the ports.
func TestHashLeavesWhatIsBehind(t *testing.T) {
	for _, proto := range []byte{1, 6, 17} {
		for _, list := range options() {
			for size := range 10 {
				b := packet(t, api.Header{Proto: proto, Src: 9, Dst: 8, Options: list}, varied(size, 2)...)
				was := hashed(t, b)
				for _, behind := range []int{1, 2, 3, 4, 5, 100, 70000} {
					if n := hashed(t, slices.Concat(b, varied(behind, 6))); n != was || n != flowOf(b) {
						t.Fatalf("proto %d, %d bytes, %d behind: %d, was %d", proto, size, behind, n, was)
					}
				}
			}
		}
	}
}

func TestHashOfTheGreatestPacket(t *testing.T) {
	for _, proto := range []byte{1, 6, 17} {
		b := packet(t, api.Header{Proto: proto, Src: 3, Dst: 4}, varied(65515, 1)...)
		if n := hashed(t, b); len(b) != 65535 || n != flowOf(b) {
			t.Error(proto, len(b), n)
		}
	}
}

func TestHashRefuses(t *testing.T) {
	good := packet(t, api.Header{TTL: 9, Proto: 17, Src: 1, Dst: 2, Options: []byte{7, 4, 1, 1}}, 1, 2, 3, 4)
	hashed(t, good)
	set := func(at int, to byte) []byte {
		b := slices.Clone(good)
		b[at] = to
		return sealed(b, 24)
	}
	broken := slices.Clone(good)
	broken[11] ^= 1
	for _, x := range []struct {
		b    []byte
		want api.HdrFault
	}{
		{nil, api.HdrShort}, {[]byte{}, api.HdrShort}, {[]byte{69}, api.HdrShort}, {good[:4], api.HdrShort}, {good[:19], api.HdrShort}, {make([]byte, 19), api.HdrShort},
		{make([]byte, 20), api.HdrVersion}, {make([]byte, 1000), api.HdrVersion}, {set(0, 0x56), api.HdrVersion}, {set(0, 0x36), api.HdrVersion},
		{set(0, 0x44), api.HdrLength}, {set(0, 0x40), api.HdrLength}, {set(0, 0x4f), api.HdrLength}, {good[:20], api.HdrLength}, {good[:23], api.HdrLength},
		{set(3, 23), api.HdrTotal}, {set(3, 0), api.HdrTotal}, {set(3, 29), api.HdrTotal}, {set(2, 255), api.HdrTotal}, {good[:24], api.HdrTotal}, {good[:27], api.HdrTotal},
		{broken, api.HdrSum},
		{set(21, 5), api.HdrOptions}, {set(21, 1), api.HdrOptions}, {set(21, 0), api.HdrOptions},
	} {
		if _, _, f := ip.Parse(x.b); f != x.want {
			t.Fatalf("%x: fault %d, want %d", x.b, f, x.want)
		}
		if n, e := Hash(x.b); n != 0 || e != api.ErrBytes {
			t.Errorf("Hash(%x) = %d, %v", x.b, n, e)
		}
	}
}

// TestHashOfAnyBytes: whatever they are, they have a hash, or are refused.
func TestHashOfAnyBytes(t *testing.T) {
	ask := func(b []byte) {
		n, e := Hash(b)
		if _, _, f := ip.Parse(b); f != 0 {
			if n != 0 || e != api.ErrBytes {
				t.Fatalf("Hash(%x) = %d, %v", b, n, e)
			}
		} else if n != flowOf(b) || e != api.OK {
			t.Fatalf("Hash(%x) = %d, %v, want %d", b, n, e, flowOf(b))
		}
	}
	r := rand.New(rand.NewSource(132))
	for range 20000 {
		b := make([]byte, r.Intn(80))
		r.Read(b)
		ask(b)
		if len(b) >= 20 {
			b[0], b[2], b[3] = byte(0x45+r.Intn(3)), 0, byte(15+r.Intn(len(b)))
			b[9] = []byte{6, 17, byte(r.Intn(256))}[r.Intn(3)]
			ask(b)
			ask(sealed(b, min(int(b[0]&15)*4, len(b)&^1)))
		}
	}
}

// P13.3

// cut are the pieces of a packet, of so many bytes of its payload each.
func cut(t *testing.T, b []byte, size int) [][]byte {
	t.Helper()
	h, payload, f := ip.Parse(b)
	if f != 0 {
		t.Fatal(f)
	}
	var pieces [][]byte
	more := h.MF
	for len(payload) > 0 {
		n := min(size, len(payload))
		h.MF = more || n < len(payload)
		pieces = append(pieces, packet(t, h, payload[:n]...))
		h.Offset, h.Options = h.Offset+n/8, ip.Copied(h.Options)
		payload = payload[n:]
	}
	return pieces
}

func TestHashOfPieces(t *testing.T) {
	for _, proto := range []byte{0, 1, 6, 17, 255} {
		for _, list := range options() {
			for _, length := range []int{9, 16, 17, 64, 203} {
				whole := packet(t, api.Header{ID: 5, TTL: 9, Proto: proto, Src: 0x0a000001, Dst: 0x0b000001, Options: list}, varied(length, uint32(length))...)
				want := flow([]byte{10, 0, 0, 1, 11, 0, 0, 1, proto})
				for size := 8; size < length; size += 8 {
					pieces := cut(t, whole, size)
					if len(pieces) < 2 {
						t.Fatal("not cut: ", length, size)
					}
					for i, piece := range pieces {
						if n := hashed(t, piece); n != want {
							t.Fatalf("proto %d, %d by %d: piece %d: %d, want %d", proto, length, size, i, n, want)
						}
						for _, part := range cut(t, piece, 8) {
							if n := hashed(t, part); n != want {
								t.Fatalf("proto %d, %d by %d: a piece of piece %d: %d, want %d", proto, length, size, i, n, want)
							}
						}
					}
				}
			}
		}
	}
}

// Rules for all layers.

func TestPacketsAreNotChanged(t *testing.T) {
	for _, proto := range []byte{1, 6, 17} {
		for _, h := range []api.Header{{Proto: proto}, {Proto: proto, MF: true}, {Proto: proto, Options: []byte{131, 3, 9, 0}}} {
			// What stands behind the bytes that are handed in is the caller's, too.
			b := slices.Concat(packet(t, h, varied(12, 3)...), varied(50, 4))
			for n := range b {
				was := slices.Clone(b)
				Hash(b[:n])
				if !bytes.Equal(b, was) {
					t.Fatalf("%x: changed to %x", was, b)
				}
			}
		}
	}
}

// TestHashTwice: nothing is kept from call to call.
func TestHashTwice(t *testing.T) {
	r := rand.New(rand.NewSource(134))
	var packets [][]byte
	for i := range 200 {
		packets = append(packets, packet(t, api.Header{Proto: []byte{1, 6, 17}[i%3], Src: api.Addr(r.Uint32()), Dst: api.Addr(r.Uint32())}, varied(i%9, uint32(i))...))
	}
	for range 2000 {
		b := packets[r.Intn(len(packets))]
		if n := hashed(t, b); n != flowOf(b) {
			t.Fatalf("Hash(%x) = %d, want %d", b, n, flowOf(b))
		}
	}
}
