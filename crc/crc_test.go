package crc_test

import (
	"bytes"
	"math/rand"
	"strings"
	"testing"

	"leverframe/crc"
)

// sums are texts and their check sums, known from elsewhere.
var sums = []struct {
	text string
	sum  uint32
}{
	{"", 0},
	{"a", 0xe8b7be43},
	{"abc", 0x352441c2},
	{"123456789", 0xcbf43926},
	{"message digest", 0x20159d7f},
	{"abcdefghijklmnopqrstuvwxyz", 0x4c2750bd},
	{"The quick brown fox jumps over the lazy dog", 0x414fa339},
	{"\x00", 0xd202ef8d},
	{"\xff", 0xff000000},
	{strings.Repeat("\x00", 32), 0x190a55ad},
	{strings.Repeat("\xff", 32), 0xff6cab0b},
	{strings.Repeat("1234567890", 8), 0x7ca94a72},
}

// step is the chapter's, word for word.
func step(word uint32) uint32 {
	half := word / 2
	if word%2 == 1 {
		return half ^ 0xedb88320
	}
	return half
}

// worked is the check sum by the chapter's words, bit by bit; the word at first is first.
func worked(first uint32, b []byte) uint32 {
	word := first
	for _, x := range b {
		word ^= uint32(x)
		for range 8 {
			word = step(word)
		}
	}
	return word ^ 0xffffffff
}

// made answers n bytes that hang on seed alone.
func made(seed int64, n int) []byte {
	b := make([]byte, n)
	rand.New(rand.NewSource(seed)).Read(b)
	return b
}

// turn turns bit at of b; the lowest bit of a byte stands first.
func turn(b []byte, at int) {
	b[at/8] ^= 1 << (at % 8)
}

// P2.1: sums of texts that are known.
func TestOfKnown(t *testing.T) {
	for _, c := range sums {
		if x := crc.Of([]byte(c.text)); x != c.sum {
			t.Errorf("Of(%q) = %x; want %x", c.text, x, c.sum)
		}
	}
	if x := crc.Of(nil); x != 0 {
		t.Errorf("Of(nil) = %x; want 0", x)
	}
}

// P2.1: each byte alone, and each behind another one, as the steps make it.
func TestOfEachByte(t *testing.T) {
	for x := range 256 {
		for _, b := range [][]byte{{byte(x)}, {0x5a, byte(x)}, {byte(x), 0}, {byte(x), byte(x), byte(x), byte(x), byte(x)}} {
			if sum, want := crc.Of(b), worked(0xffffffff, b); sum != want {
				t.Errorf("Of(%v) = %x; want %x", b, sum, want)
			}
		}
	}
}

// P2.1: bytes of many lengths, long ones too.
func TestOfLengths(t *testing.T) {
	for n := range 300 {
		b := made(int64(n), n)
		if sum, want := crc.Of(b), worked(0xffffffff, b); sum != want {
			t.Errorf("Of %d bytes = %x; want %x", n, sum, want)
		}
	}
	for _, n := range []int{1882, 2048, 4096, 65535, 65536, 65537, 1 << 20} {
		b := made(int64(n), n)
		if sum, want := crc.Of(b), worked(0xffffffff, b); sum != want {
			t.Errorf("Of %d bytes = %x; want %x", n, sum, want)
		}
	}
}

// P2.1: Over's first word is sum with all bits turned, whatever the sum is.
func TestOverSum(t *testing.T) {
	for _, sum := range []uint32{0, 1, 2, 0x80, 0xff, 0x100, 0x7fffffff, 0x80000000, 0xedb88320, 0xfffffffe, 0xffffffff} {
		for _, b := range [][]byte{nil, {}, {0}, {1}, {255}, {0, 0, 0, 0}, {255, 255, 255, 255}, made(7, 50)} {
			if x, want := crc.Over(sum, b), worked(^sum, b); x != want {
				t.Errorf("Over(%x, %v) = %x; want %x", sum, b, x, want)
			}
		}
	}
	for i := range 32 {
		if x := crc.Over(1<<i, nil); x != 1<<i {
			t.Errorf("Over(%x, nothing) = %x; want that sum", 1<<i, x)
		}
	}
}

// P2.1: bytes cut at any place, and into many pieces, have the sum of the whole.
func TestOverGoesOn(t *testing.T) {
	if x := crc.Over(crc.Of([]byte("12345")), []byte("6789")); x != 0xcbf43926 {
		t.Errorf("Over(Of 12345, 6789) = %x; want cbf43926", x)
	}
	b := made(11, 130)
	want := crc.Of(b)
	for i := range len(b) + 1 {
		if x := crc.Over(crc.Of(b[:i]), b[i:]); x != want {
			t.Errorf("cut at %d: %x; want %x", i, x, want)
		}
	}
	for size := 1; size < 20; size++ {
		sum := crc.Of(nil)
		for at := 0; at < len(b); at += size {
			sum = crc.Over(sum, b[at:min(at+size, len(b))])
		}
		if sum != want {
			t.Errorf("pieces of %d: %x; want %x", size, sum, want)
		}
	}
}

// R2: the same bytes have the same sum, wherever they stand, and whatever was asked ahead.
func TestOfAgain(t *testing.T) {
	b := made(13, 90)
	want := crc.Of(b)
	crc.Over(12345, made(14, 70))
	long := append(append(made(15, 3), b...), 1, 2, 3)
	for _, x := range []uint32{crc.Of(b), crc.Of(bytes.Clone(b)), crc.Of(long[3 : 3+len(b)]), crc.Of(long[3 : 3+len(b) : 3+len(b)])} {
		if x != want {
			t.Errorf("%x; want %x", x, want)
		}
	}
}

// P2.2: what is handed in is only read, its spare room too.
func TestOnlyRead(t *testing.T) {
	for _, n := range []int{0, 1, 2, 128, 300} {
		all := made(int64(n), n+20)
		was := bytes.Clone(all)
		crc.Of(all[5 : 5+n])
		crc.Over(77, all[5:5+n])
		if !bytes.Equal(all, was) {
			t.Errorf("%d bytes: changed", n)
		}
	}
}

// P2.3: one bit that is turned, or two, less than 32 apart, at every place.
func TestTurnedOneAndTwo(t *testing.T) {
	for _, n := range []int{1, 2, 4, 5, 64, 128} {
		b := made(int64(n), n)
		was := crc.Of(b)
		for i := range 8 * n {
			turn(b, i)
			if crc.Of(b) == was {
				t.Errorf("%d bytes, bit %d: the same sum", n, i)
			}
			for k := i + 1; k < min(i+32, 8*n); k++ {
				turn(b, k)
				if crc.Of(b) == was {
					t.Errorf("%d bytes, bits %d and %d: the same sum", n, i, k)
				}
				turn(b, k)
			}
			turn(b, i)
		}
	}
}

// P2.3: any bits among 32 that stand one behind the other.
func TestTurnedAmong(t *testing.T) {
	r := rand.New(rand.NewSource(17))
	b := made(17, 40)
	was := crc.Of(b)
	masks := []uint32{0xffffffff, 0xedb88320, 0xdb710641, 0x80000001, 0x04c11db7, 0x7fffffff, 0xfffffffe}
	for len(masks) < 60 {
		masks = append(masks, r.Uint32()|1)
	}
	for _, mask := range masks {
		for first := range 8*len(b) - 31 {
			other := bytes.Clone(b)
			for k := range 32 {
				if mask>>k&1 == 1 {
					turn(other, first+k)
				}
			}
			if crc.Of(other) == was {
				t.Errorf("bits %x from %d on: the same sum", mask, first)
			}
		}
	}
}

// What P2.3 says nothing of: bits within 33 that keep the sum (those of the steps' own number, and the one behind them).
func TestTurnedFurther(t *testing.T) {
	b := made(19, 12)
	was := crc.Of(b)
	turn(b, 20)
	for k := range 32 {
		if 0xedb88320>>k&1 == 1 {
			turn(b, 21+k)
		}
	}
	if crc.Of(b) != was {
		t.Errorf("%x; want %x", crc.Of(b), was)
	}
}

// P2.3: unlike sums stay unlike behind the same bytes.
func TestUnlikeStayUnlike(t *testing.T) {
	r := rand.New(rand.NewSource(23))
	for _, n := range []int{0, 1, 2, 4, 33, 118} {
		b := made(int64(n), n)
		for range 300 {
			one, two := r.Uint32(), r.Uint32()
			for _, other := range []uint32{two, one ^ 1, one ^ 1<<31, ^one} {
				if one != other && crc.Over(one, b) == crc.Over(other, b) {
					t.Errorf("%x and %x come to one sum behind %d bytes", one, other, n)
				}
			}
		}
	}
	seen := map[uint32]bool{}
	for low := range 1 << 16 {
		seen[crc.Over(uint32(low)<<8, []byte{0x3c})] = true
	}
	if len(seen) != 1<<16 {
		t.Errorf("%d sums; want %d", len(seen), 1<<16)
	}
}

// P2.3: the sums of three texts of one length, by exclusive or, are that of the three texts so.
func TestThreeTexts(t *testing.T) {
	for n := range 140 {
		one, two, three := made(int64(3*n), n), made(int64(3*n+1), n), made(int64(3*n+2), n)
		all := make([]byte, n)
		for i := range all {
			all[i] = one[i] ^ two[i] ^ three[i]
		}
		if x, want := crc.Of(one)^crc.Of(two)^crc.Of(three), crc.Of(all); x != want {
			t.Errorf("%d bytes: %x; want %x", n, x, want)
		}
	}
}
