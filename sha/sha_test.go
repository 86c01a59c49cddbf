package sha_test

import (
	"bytes"
	"crypto/sha256"
	"encoding/binary"
	"encoding/hex"
	"math/rand"
	"strings"
	"testing"

	"leverframe/sha"
)

// first are the eight words at first, as the chapter has them.
const first = "6a09e667 bb67ae85 3c6ef372 a54ff53a 510e527f 9b05688c 1f83d9ab 5be0cd19"

// constants are those of the chapter, as it has them.
const constants = `
428a2f98 71374491 b5c0fbcf e9b5dba5 3956c25b 59f111f1 923f82a4 ab1c5ed5
d807aa98 12835b01 243185be 550c7dc3 72be5d74 80deb1fe 9bdc06a7 c19bf174
e49b69c1 efbe4786 0fc19dc6 240ca1cc 2de92c6f 4a7484aa 5cb0a9dc 76f988da
983e5152 a831c66d b00327c8 bf597fc7 c6e00bf3 d5a79147 06ca6351 14292967
27b70a85 2e1b2138 4d2c6dfc 53380d13 650a7354 766a0abb 81c2c92e 92722c85
a2bfe8a1 a81a664b c24b8b70 c76c51a3 d192e819 d6990624 f40e3585 106aa070
19a4c116 1e376c08 2748774c 34b0bcb5 391c0cb3 4ed8aa4a 5b9cca4f 682e6ff3
748f82ee 78a5636f 84c87814 8cc70208 90befffa a4506ceb bef9a3f7 c67178f2
`

// hashes are texts and their hashes, known from elsewhere.
var hashes = []struct{ text, hash string }{
	{"", "e3b0c442 98fc1c14 9afbf4c8 996fb924 27ae41e4 649b934c a495991b 7852b855"},
	{"a", "ca978112 ca1bbdca fac231b3 9a23dc4d a786eff8 147c4e72 b9807785 afee48bb"},
	{"abc", "ba7816bf 8f01cfea 414140de 5dae2223 b00361a3 96177a9c b410ff61 f20015ad"},
	{"message digest", "f7846f55 cf23e14e ebeab5b4 e1550cad 5b509e33 48fbc4ef a3a1413d 393cb650"},
	{"The quick brown fox jumps over the lazy dog", "d7a8fbb3 07d78094 69ca9abc b0082e4f 8d5651e4 6d3cdb76 2d02d0bf 37c9e592"},
	{"abcdbcdecdefdefgefghfghighijhijkijkljklmklmnlmnomnopnopq", "248d6a61 d20638b8 e5c02693 0c3e6039 a33ce459 64ff2167 f6ecedd4 19db06c1"},
	{"abcdefghbcdefghicdefghijdefghijkefghijklfghijklmghijklmnhijklmnoijklmnopjklmnopqklmnopqrlmnopqrsmnopqrstnopqrstu", "cf5b16a7 78af8380 036ce59e 7b049237 0b249b11 e8f07a51 afac4503 7afee9d1"},
	{strings.Repeat("a", 1000000), "cdc76e5c 9914fb92 81a1c7e2 84d73e67 f1809a48 a497200e 046d39cc c7112cd0"},
}

// lengths are those of a filled text, by how many bytes it has, about each multiple of 64.
var lengths = []struct{ n, filled int }{
	{0, 64}, {1, 64}, {2, 64}, {31, 64}, {54, 64}, {55, 64},
	{56, 128}, {57, 128}, {62, 128}, {63, 128}, {64, 128}, {65, 128}, {118, 128}, {119, 128},
	{120, 192}, {121, 192}, {127, 192}, {128, 192}, {183, 192},
	{184, 256}, {191, 256}, {192, 256}, {193, 256},
	{1975, 1984}, {1976, 2048}, {2048, 2112}, {65536, 65600}, {65591, 65600}, {65592, 65664},
}

// known answers words that are written in sixteens.
func known(t *testing.T, text string) []uint32 {
	t.Helper()
	b, err := hex.DecodeString(strings.Join(strings.Fields(text), ""))
	if err != nil {
		t.Fatal(err)
	}
	var out []uint32
	for ; len(b) > 0; b = b[4:] {
		out = append(out, binary.BigEndian.Uint32(b))
	}
	return out
}

// start answers the eight words at first.
func start(t *testing.T) [8]uint32 {
	t.Helper()
	return [8]uint32(known(t, first))
}

// turned is x turned right by n, bit by bit.
func turned(x uint32, n int) uint32 {
	for range n {
		x = x/2 + x%2<<31
	}
	return x
}

// worked is what b makes of h by the chapter's words: all 64 words stand, and the eight are told one by one.
func worked(t *testing.T, h [8]uint32, block [64]byte) [8]uint32 {
	t.Helper()
	constant := known(t, constants)
	var word [64]uint32
	for i := range 16 {
		word[i] = binary.BigEndian.Uint32(block[4*i:])
	}
	for i := 16; i < 64; i++ {
		x, y := word[i-15], word[i-2]
		word[i] = word[i-16] + (turned(x, 7) ^ turned(x, 18) ^ x>>3) + word[i-7] + (turned(y, 17) ^ turned(y, 19) ^ y>>10)
	}
	was := h
	for i := range 64 {
		e, f, g := h[4], h[5], h[6]
		var chosen, most uint32
		for k := range 32 {
			if e>>k&1 == 1 {
				chosen |= f & (1 << k)
			} else {
				chosen |= g & (1 << k)
			}
			if h[0]>>k&1+h[1]>>k&1+h[2]>>k&1 >= 2 {
				most |= 1 << k
			}
		}
		s := h[7] + (turned(e, 6) ^ turned(e, 11) ^ turned(e, 25)) + chosen + constant[i] + word[i]
		u := (turned(h[0], 2) ^ turned(h[0], 13) ^ turned(h[0], 22)) + most
		h = [8]uint32{s + u, h[0], h[1], h[2], h[3] + s, h[4], h[5], h[6]}
	}
	for i := range h {
		h[i] += was[i]
	}
	return h
}

// filling is b, filled by the chapter's words, byte by byte.
func filling(b []byte) []byte {
	out := append(bytes.Clone(b), 128)
	for len(out)%64 != 56 {
		out = append(out, 0)
	}
	return binary.BigEndian.AppendUint64(out, 8*uint64(len(b)))
}

// made answers n bytes that hang on seed alone.
func made(seed int64, n int) []byte {
	b := make([]byte, n)
	rand.New(rand.NewSource(seed)).Read(b)
	return b
}

// told answers the hash that eight words tell.
func told(h [8]uint32) [32]byte {
	var out [32]byte
	for i, x := range h {
		binary.BigEndian.PutUint32(out[4*i:], x)
	}
	return out
}

// blocks answers what all blocks of b make of h.
func blocks(h [8]uint32, b []byte) [8]uint32 {
	for ; len(b) >= 64; b = b[64:] {
		h = sha.Block(h, [64]byte(b))
	}
	return h
}

// P3.1: a block whose outcome is known: that of "abc", filled.
func TestBlockKnown(t *testing.T) {
	b := [64]byte{0: 'a', 1: 'b', 2: 'c', 3: 128, 63: 24}
	want := [8]uint32(known(t, "ba7816bf 8f01cfea 414140de 5dae2223 b00361a3 96177a9c b410ff61 f20015ad"))
	if x := sha.Block(start(t), b); x != want {
		t.Errorf("%x; want %x", x, want)
	}
}

// P3.1: words and blocks of which each bit, or none, or all of them are set.
func TestBlockEachBit(t *testing.T) {
	var all [8]uint32
	var full [64]byte
	for i := range all {
		all[i] = 0xffffffff
	}
	for i := range full {
		full[i] = 255
	}
	check := func(h [8]uint32, b [64]byte) {
		t.Helper()
		if x, want := sha.Block(h, b), worked(t, h, b); x != want {
			t.Errorf("Block(%x, %x) = %x; want %x", h, b, x, want)
		}
	}
	for _, h := range [][8]uint32{{}, all, start(t)} {
		check(h, [64]byte{})
		check(h, full)
		for i := range 512 {
			var b [64]byte
			b[i/8] = 1 << (i % 8)
			check(h, b)
		}
	}
	for i := range 256 {
		var h [8]uint32
		h[i/32] = 1 << (i % 32)
		check(h, [64]byte{})
		check(h, full)
	}
}

// P3.1: words and blocks of any kind.
func TestBlockAny(t *testing.T) {
	r := rand.New(rand.NewSource(31))
	for i := range 300 {
		var h [8]uint32
		for k := range h {
			h[k] = r.Uint32()
		}
		b := [64]byte(made(int64(i), 64))
		if x, want := sha.Block(h, b), worked(t, h, b); x != want {
			t.Fatalf("Block(%x, %x) = %x; want %x", h, b, x, want)
		}
	}
}

// P3.1: how many bytes a filled text has.
func TestFilledLengths(t *testing.T) {
	for _, c := range lengths {
		if x := sha.Filled(make([]byte, c.n)); len(x) != c.filled {
			t.Errorf("Filled of %d bytes: %d; want %d", c.n, len(x), c.filled)
		}
	}
}

// P3.1: each byte of a filled text, also where what is filled looks like what fills.
func TestFilledBytes(t *testing.T) {
	for n := range 400 {
		for _, b := range [][]byte{make([]byte, n), bytes.Repeat([]byte{128}, n), bytes.Repeat([]byte{255}, n), made(int64(n), n)} {
			if x, want := sha.Filled(b), filling(b); !bytes.Equal(x, want) {
				t.Fatalf("Filled(%x) = %x; want %x", b, x, want)
			}
		}
	}
	for _, n := range []int{8191, 8192, 65536, 1<<21 - 1, 1 << 21} {
		b := made(int64(n), n)
		if x, want := sha.Filled(b), filling(b); !bytes.Equal(x, want) {
			t.Errorf("Filled of %d bytes: %d; not as it has to be", n, len(x))
		}
	}
	if x, want := sha.Filled(nil), filling(nil); !bytes.Equal(x, want) {
		t.Errorf("Filled(nil) = %x; want %x", x, want)
	}
}

// P3.1: a count of bits that goes beyond 32 of them.
func TestFilledCount(t *testing.T) {
	const n = 1<<29 + 5
	x := sha.Filled(make([]byte, n))
	if len(x) != 1<<29+64 || x[n] != 128 || !bytes.Equal(x[len(x)-8:], []byte{0, 0, 0, 1, 0, 0, 0, 40}) {
		t.Errorf("%d bytes, the last ones %v", len(x), x[len(x)-8:])
	}
}

// P3.1: hashes that are known.
func TestSumKnown(t *testing.T) {
	for _, c := range hashes {
		if x, want := sha.Sum([]byte(c.text)), told([8]uint32(known(t, c.hash))); x != want {
			t.Errorf("Sum(%.60q) = %x; want %x", c.text, x, want)
		}
	}
	if x := sha.Sum(nil); x != sha.Sum([]byte{}) || x[0] != 0xe3 {
		t.Errorf("Sum(nil) = %x", x)
	}
}

// P3.1: texts of every length up to some blocks, and long ones.
func TestSumLengths(t *testing.T) {
	for n := range 400 {
		for _, b := range [][]byte{make([]byte, n), bytes.Repeat([]byte{255}, n), made(int64(n), n)} {
			if x, want := sha.Sum(b), sha256.Sum256(b); x != want {
				t.Fatalf("Sum(%x) = %x; want %x", b, x, want)
			}
		}
	}
	for _, n := range []int{1000, 1882, 2048, 2112, 4096, 65535, 65536, 65537, 1 << 20} {
		b := made(int64(n), n)
		if x, want := sha.Sum(b), sha256.Sum256(b); x != want {
			t.Errorf("Sum of %d bytes = %x; want %x", n, x, want)
		}
	}
}

// P3.2: what is handed in is only read, its spare room too.
func TestOnlyRead(t *testing.T) {
	for _, n := range []int{0, 1, 3, 55, 56, 63, 64, 65, 128, 300} {
		all := made(int64(n), n+200)
		was := bytes.Clone(all)
		sha.Filled(all[5 : 5+n])
		sha.Sum(all[5 : 5+n])
		sha.Filled(all[5 : 5+n : 5+n])
		sha.Sum(all[5 : 5+n : 5+n])
		if !bytes.Equal(all, was) {
			t.Errorf("%d bytes: changed", n)
		}
	}
}

// P3.2: what Filled answers shares no memory with what it was handed, nor with another answer, its spare room neither.
func TestNewMemory(t *testing.T) {
	for _, n := range []int{0, 1, 55, 56, 64, 128, 200} {
		all := made(int64(n), n+200)
		was := bytes.Clone(all)
		one, two := sha.Filled(all[:n]), sha.Filled(all[:n])
		want := bytes.Clone(two)
		clear(one[:cap(one)])
		if !bytes.Equal(all, was) {
			t.Errorf("%d bytes: the answer is what was handed in", n)
		}
		if !bytes.Equal(two, want) {
			t.Errorf("%d bytes: two answers are one", n)
		}
		clear(all)
		if !bytes.Equal(two, want) {
			t.Errorf("%d bytes: what was handed in is kept", n)
		}
	}
}

// R2: what was asked ahead leaves nothing behind.
func TestAgain(t *testing.T) {
	b := made(41, 150)
	sum, filled, block := sha.Sum(b), sha.Filled(b), sha.Block(start(t), [64]byte(b))
	sha.Sum(made(42, 333))
	sha.Block([8]uint32{1, 2, 3}, [64]byte(made(43, 64)))
	clear(sha.Filled(b))
	if sha.Sum(bytes.Clone(b)) != sum || !bytes.Equal(sha.Filled(b), filled) || sha.Block(start(t), [64]byte(b)) != block {
		t.Error("another answer to the same bytes")
	}
}

// P3.3: of a text, cut behind any of its full blocks, the hash is what the rest makes of what these made.
func TestBlockByBlock(t *testing.T) {
	for _, n := range []int{0, 1, 55, 56, 63, 64, 65, 119, 120, 128, 191, 192, 256, 500} {
		b := made(int64(n), n)
		filled := sha.Filled(b)
		for cut := 0; cut <= n; cut += 64 {
			h := blocks(start(t), b[:cut])
			if x, want := told(blocks(h, filled[cut:])), sha.Sum(b); x != want {
				t.Errorf("%d bytes, cut at %d: %x; want %x", n, cut, x, want)
			}
		}
	}
}

// P3.3: what stands ahead counts only by what it made: two texts with unlike beginnings come to what their one rest makes of each.
func TestOneRest(t *testing.T) {
	rest := made(51, 75)
	for seed := range int64(20) {
		ahead := made(seed, 128)
		whole := append(bytes.Clone(ahead), rest...)
		h := blocks(start(t), ahead)
		if x := told(blocks(h, filling(whole)[128:])); x != sha.Sum(whole) {
			t.Errorf("%d: %x; want %x", seed, x, sha.Sum(whole))
		}
	}
}

// P3.3: filled bytes are a multiple of 64, and tell the bytes.
func TestFilledTells(t *testing.T) {
	for n := range 300 {
		for _, b := range [][]byte{make([]byte, n), bytes.Repeat([]byte{128}, n), made(int64(n), n)} {
			x := sha.Filled(b)
			if len(x)%64 != 0 {
				t.Fatalf("%d bytes: %d, no multiple of 64", n, len(x))
			}
			size := binary.BigEndian.Uint64(x[len(x)-8:])
			if size%8 != 0 || size/8 > uint64(len(x)-9) || !bytes.Equal(x[:size/8], b) {
				t.Fatalf("Filled(%x) tells %d bits of %x", b, size, x)
			}
		}
	}
}

// P3.3: bytes that look alike when they are filled carelessly: with noughts behind, with the byte 128 behind, with all that fills.
func TestFilledUnlike(t *testing.T) {
	seen := map[string]string{}
	check := func(b []byte) {
		t.Helper()
		x := string(sha.Filled(b))
		if other, ok := seen[x]; ok && other != string(b) {
			t.Errorf("%x and %x are filled as one", other, b)
		}
		seen[x] = string(b)
	}
	for n := range 130 {
		b := made(61, n)
		check(b)
		check(append(bytes.Clone(b), 0))
		check(append(bytes.Clone(b), 0, 0))
		check(append(bytes.Clone(b), 128))
		check(append(bytes.Clone(b), 128, 0))
		check(filling(b))
	}
}
