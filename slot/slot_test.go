package slot_test

import (
	"bytes"
	"encoding/binary"
	"fmt"
	"hash/crc32"
	"math"
	"math/bits"
	"math/rand"
	"slices"
	"testing"

	"leverframe/api"
	"leverframe/dev"
	"leverframe/slot"
)

// gens are generations of both slots: the least, the greatest, and such whose bytes are all unlike.
var gens = []uint32{1, 2, 3, 255, 256, 257, 65535, 65536, 0x01020304, 0x0f1e2d3b, 1 << 31, 1<<31 - 1, math.MaxUint32 - 1, math.MaxUint32}

// sizes are how many bytes a text has: none, what just fills a sector, one more or less, and as many as it may have.
var sizes = []int{0, 1, 2, 100, 111, 112, 113, 118, 119, 229, 230, 231, 255, 256, 257, 1000, 1763, 1764, 1765, 1766, 1881, 1882}

// long are sizes that a text may not have.
var long = []int{1883, 1884, 1888, 1889, 2048, 65535, 65536, 65536 + 5}

// random answers n bytes that hang on seed alone.
func random(seed, n int) []byte {
	b := make([]byte, n)
	rand.New(rand.NewSource(int64(seed))).Read(b)
	return b
}

// record answers one whose text has size bytes that hang on it and on gen.
func record(gen uint32, size int) api.Record {
	return api.Record{Gen: gen, Text: random(int(gen)+size, size)}
}

// noise answers a disk of random bytes, with writes of such bytes that wait to these sectors.
func noise(seed int, at ...int) api.Disk {
	var d api.Disk
	for i := range 32 {
		d.Sectors = append(d.Sectors, random(1000*seed+i, 128))
	}
	for i, n := range at {
		d.Waits = append(d.Waits, api.Write{At: n, Data: random(1000*seed+32+i, 128)})
	}
	return d
}

// busy answers a new disk on which n writes wait, to all sectors in turn.
func busy(n int) api.Disk {
	d := dev.New()
	for i := range n {
		d.Waits = append(d.Waits, api.Write{At: i % 32, Data: random(i, 128)})
	}
	return d
}

// must answers x, that comes without an error.
func must[T any](x T, e api.Errno) T {
	if e != api.OK {
		panic(fmt.Sprintf("error %d", int(e)))
	}
	return x
}

// held answers d, on which these are put and synced, one behind the other.
func held(d api.Disk, records ...api.Record) api.Disk {
	for _, r := range records {
		d = must(dev.Sync(must(slot.Put(d, r))))
	}
	return d
}

// disks answers some that may be: without writes and with some, without records and with some.
func disks() []api.Disk {
	two := held(dev.New(), record(7, 500), record(8, 1882))
	return []api.Disk{
		dev.New(), noise(1), noise(2, 0, 31, 5, 16, 5), busy(240), busy(256), two, held(dev.New(), record(9, 0)), held(noise(3), record(2, 112)),
		must(slot.Put(two, record(9, 119))), must(slot.Put(must(slot.Put(two, record(10, 1882))), record(11, 0))), must(slot.Put(busy(240), record(6, 1882))),
		must(dev.Spoil(two, 3, 77, 4)), must(dev.Spoil(two, 16, 0, 128)), must(dev.Write(two, 16, random(5, 128))),
	}
}

// odd answers disks that may not be, each by a name.
func odd() map[string]api.Disk {
	out := map[string]api.Disk{
		"none": {}, "31 sectors": {Sectors: noise(1).Sectors[1:]}, "33 sectors": {Sectors: append(noise(1).Sectors, random(1, 128))},
		"a short sector": noise(1), "a long sector": noise(1), "257 writes": busy(257), "a short write": noise(1, 3, 4), "a long write": noise(1, 3, 4),
		"a write below": noise(1, 3, -1), "a write past": noise(1, 32, 3),
	}
	out["a short sector"].Sectors[31] = random(1, 127)
	out["a long sector"].Sectors[0] = random(1, 129)
	out["a short write"].Waits[1].Data = random(1, 127)
	out["a long write"].Waits[0].Data = random(1, 129)
	return out
}

// lowest answers n's bytes, the lowest one first.
func lowest(n uint32) []byte {
	return binary.LittleEndian.AppendUint32(nil, n)
}

// bodyOf answers a record's bytes, told by the words, with that sum turned by off, and that count of bytes.
func bodyOf(gen uint32, text []byte, count int, off uint32) []byte {
	rest := append(binary.LittleEndian.AppendUint16(nil, uint16(count)), text...)
	return append(lowest(crc32.ChecksumIEEE(append(lowest(gen), rest...))^off), rest...)
}

// cut answers body in many sectors of that generation, noughts behind it.
func cut(gen uint32, body []byte, many int) [][]byte {
	body = append(slices.Clone(body), make([]byte, 118*many)...)
	var out [][]byte
	for i := range many {
		out = append(out, slices.Concat(lowest(gen), []byte{byte(i), byte(many)}, body[118*i:118*i+118], lowest(gen)))
	}
	return out
}

// sectorsOf answers a record's sectors, told by the words.
func sectorsOf(r api.Record) [][]byte {
	body := bodyOf(r.Gen, r.Text, len(r.Text), 0)
	many := len(body) / 118
	if len(body)%118 > 0 {
		many++
	}
	return cut(r.Gen, body, many)
}

// laid answers a new disk with these sectors from a place on.
func laid(from int, sectors [][]byte) api.Disk {
	d := dev.New()
	for i, s := range sectors {
		d.Sectors[from+i] = slices.Clone(s)
	}
	return d
}

// views answers d's sectors as they are seen: each as the last write to it, if one waits.
func views(d api.Disk) [][]byte {
	out := slices.Clone(d.Sectors)
	for _, w := range d.Waits {
		out[w.At] = w.Data
	}
	return out
}

// read answers the record that a slot's sectors have, told field by field, and whether one is whole.
func read(s [][]byte, half int) (api.Record, bool) {
	gen, many := binary.LittleEndian.Uint32(s[0]), int(s[0][5])
	if gen == 0 || int(gen%2) != half || many < 1 || many > 16 {
		return api.Record{}, false
	}
	var body []byte
	for i, b := range s[:many] {
		if !bytes.Equal(b[:4], lowest(gen)) || int(b[4]) != i || int(b[5]) != many || !bytes.Equal(b[124:], lowest(gen)) {
			return api.Record{}, false
		}
		body = append(body, b[6:124]...)
	}
	size := int(body[4]) + 256*int(body[5])
	if size+6 > 118*many || size+6 <= 118*(many-1) {
		return api.Record{}, false
	}
	sum := crc32.ChecksumIEEE(slices.Concat(lowest(gen), body[4:6+size]))
	if binary.LittleEndian.Uint32(body) != sum || !bytes.Equal(body[6+size:], make([]byte, len(body)-6-size)) {
		return api.Record{}, false
	}
	return api.Record{Gen: gen, Text: body[6 : 6+size]}, true
}

// found answers the records that are whole on d, told by the words.
func found(d api.Disk) []api.Record {
	var out []api.Record
	for half := range 2 {
		if r, ok := read(views(d)[16*half:16*half+16], half); ok {
			out = append(out, r)
		}
	}
	if len(out) == 2 && out[0].Gen < out[1].Gen {
		slices.Reverse(out)
	}
	return out
}

// behind answers the generation behind gen on d, told by the words, and whether there is one.
func behind(d api.Disk, gen uint32) (uint32, bool) {
	most := gen
	for at, s := range views(d) {
		if at/16 != int(gen%2) {
			most = max(most, binary.LittleEndian.Uint32(s), binary.LittleEndian.Uint32(s[124:]))
		}
	}
	for next := uint64(most) + 1; next <= math.MaxUint32; next++ {
		if next%2 != uint64(gen%2) {
			return uint32(next), true
		}
	}
	return 0, false
}

// same tells whether a and b are the same records.
func same(a, b []api.Record) bool {
	return slices.EqualFunc(a, b, alike)
}

// alike tells whether a and b are the same record.
func alike(a, b api.Record) bool {
	return a.Gen == b.Gen && bytes.Equal(a.Text, b.Text)
}

// names answers the generations of records.
func names(list []api.Record) []uint32 {
	var out []uint32
	for _, r := range list {
		out = append(out, r.Gen)
	}
	return out
}

// finds asks that Find of d answers want.
func finds(t *testing.T, name string, d api.Disk, want ...api.Record) {
	t.Helper()
	if l, e := slot.Find(d); e != api.OK || !same(l, want) {
		t.Errorf("%s: Find: %v, error %d; want %v", name, names(l), int(e), names(want))
	}
}

// P6.1: even generations stand from sector 0 on, odd ones from 16 on.
func TestSlot(t *testing.T) {
	for _, gen := range append(gens, 0) {
		want := 0
		if gen&1 == 1 {
			want = 16
		}
		if at := slot.Slot(gen); at != want {
			t.Errorf("Slot(%d) = %d", gen, at)
		}
	}
}

// P6.1: a record's sectors are written in order, behind all that waits, and nothing else changes.
func TestPut(t *testing.T) {
	for i, d := range disks() {
		for k, size := range sizes {
			r := record(gens[(i+k)%len(gens)], size)
			want := dev.Twin(d)
			for n, s := range sectorsOf(r) {
				want.Waits = append(want.Waits, api.Write{At: 16*int(r.Gen%2) + n, Data: s})
			}
			if len(want.Waits) > 256 {
				continue
			}
			if x, e := slot.Put(d, r); e != api.OK || !dev.Same(x, want) {
				t.Errorf("disk %d: Put of %d, %d bytes: another disk, or error %d", i, r.Gen, size, int(e))
			}
		}
	}
}

// P6.1: each generation with each size, put on a new disk.
func TestPutAll(t *testing.T) {
	for _, gen := range gens {
		for _, size := range sizes {
			r := record(gen, size)
			x, e := slot.Put(dev.New(), r)
			var got [][]byte
			for i, w := range x.Waits {
				got = append(got, w.Data)
				if w.At != slot.Slot(gen)+i {
					t.Errorf("gen %d, %d bytes: write %d to %d", gen, size, i, w.At)
				}
			}
			if e != api.OK || len(got) != (size+123)/118 || !slices.EqualFunc(got, sectorsOf(r), bytes.Equal) {
				t.Errorf("gen %d, %d bytes: other sectors, or error %d", gen, size, int(e))
			}
		}
	}
}

// P6.1: records byte by byte.
func TestPutBytes(t *testing.T) {
	long := append(bytes.Repeat([]byte{9}, 300), 1, 2)
	a, b := crc32.ChecksumIEEE([]byte{3, 0, 0, 0, 0, 0}), crc32.ChecksumIEEE(append([]byte{0x04, 0x0b, 0x0a, 0xff, 46, 1}, long...))
	cases := []struct {
		r    api.Record
		want [][]byte
	}{
		{api.Record{Gen: 3}, [][]byte{slices.Concat([]byte{3, 0, 0, 0, 0, 1}, lowest(a), make([]byte, 2+112), []byte{3, 0, 0, 0})}},
		{api.Record{Gen: 0xff0a0b04, Text: long}, [][]byte{
			slices.Concat([]byte{4, 11, 10, 255, 0, 3}, lowest(b), []byte{46, 1}, long[:112], []byte{4, 11, 10, 255}),
			slices.Concat([]byte{4, 11, 10, 255, 1, 3}, long[:118], []byte{4, 11, 10, 255}),
			slices.Concat([]byte{4, 11, 10, 255, 2, 3}, long[230:], make([]byte, 118-72), []byte{4, 11, 10, 255}),
		}},
	}
	for _, c := range cases {
		x := must(slot.Put(dev.New(), c.r))
		for i, w := range x.Waits {
			if len(x.Waits) != len(c.want) || !bytes.Equal(w.Data, c.want[i]) {
				t.Errorf("gen %d: sector %d of %d: %x", c.r.Gen, i, len(x.Waits), w.Data)
			}
		}
	}
}

// P6.1, P6.2: disks that may not be are refused ahead of all else, and nothing stands beside the error.
func TestBad(t *testing.T) {
	for name, d := range odd() {
		for _, r := range []api.Record{record(1, 5), {}, record(0, 1883), record(2, 1883)} {
			if x, e := slot.Put(d, r); e != api.ErrBad || len(x.Sectors)+len(x.Waits) != 0 {
				t.Errorf("%s: Put of %d: %d; want ErrBad", name, r.Gen, int(e))
			}
		}
		if l, e := slot.Find(d); e != api.ErrBad || len(l) != 0 {
			t.Errorf("%s: Find: %d; want ErrBad", name, int(e))
		}
		for _, gen := range append(gens, 0) {
			if n, e := slot.Next(d, gen); e != api.ErrBad || n != 0 {
				t.Errorf("%s: Next(%d) = %d, %d; want ErrBad", name, gen, n, int(e))
			}
		}
	}
}

// P6.1: generation 0 is refused ahead of texts that are too long, and these ahead of disks that are full.
func TestPutRefused(t *testing.T) {
	for _, d := range []api.Disk{dev.New(), noise(1, 3), busy(241), busy(256)} {
		for _, size := range append(long, sizes...) {
			if x, e := slot.Put(d, record(0, size)); e != api.ErrArg || len(x.Sectors)+len(x.Waits) != 0 {
				t.Errorf("gen 0, %d bytes, %d wait: %d; want ErrArg", size, len(d.Waits), int(e))
			}
		}
		for _, size := range long {
			for _, gen := range gens {
				if x, e := slot.Put(d, record(gen, size)); e != api.ErrText || len(x.Sectors)+len(x.Waits) != 0 {
					t.Errorf("gen %d, %d bytes, %d wait: %d; want ErrText", gen, size, len(d.Waits), int(e))
				}
			}
		}
	}
}

// P6.1: where all of a record's sectors may still wait it is put; where one may not, nothing is.
func TestPutFull(t *testing.T) {
	for _, size := range sizes {
		for _, gen := range []uint32{1, 2} {
			r := record(gen, size)
			many := len(sectorsOf(r))
			x, e := slot.Put(busy(256-many), r)
			if e != api.OK || len(x.Waits) != 256 {
				t.Errorf("%d bytes, %d wait: %d behind, error %d", size, 256-many, len(x.Waits), int(e))
			}
			for n := 257 - many; n <= 256; n++ {
				if x, e := slot.Put(busy(n), r); e != api.ErrFull || len(x.Sectors)+len(x.Waits) != 0 {
					t.Errorf("%d bytes, %d wait: %d; want ErrFull", size, n, int(e))
				}
			}
		}
	}
}

// P6.2: what is whole is found, the greatest generation first, whichever slot it is in, and whether it waits or lasts.
func TestFind(t *testing.T) {
	for i, d := range disks() {
		finds(t, fmt.Sprintf("disk %d", i), d, found(d)...)
	}
	finds(t, "new", dev.New())
	finds(t, "noise", noise(1, 0, 16))
	for i, a := range gens {
		for k, b := range gens {
			x, y := record(a, sizes[(i+3*k)%len(sizes)]), record(b, sizes[(5*i+k)%len(sizes)])
			want := []api.Record{y}
			if a%2 != b%2 {
				want = append(want, x)
			}
			if len(want) == 2 && a > b {
				slices.Reverse(want)
			}
			finds(t, fmt.Sprintf("%d, then %d", a, b), held(noise(4), x, y), want...)
			finds(t, fmt.Sprintf("%d and %d wait", a, b), must(slot.Put(must(slot.Put(noise(4, 0, 16), x)), y)), want...)
			finds(t, fmt.Sprintf("%d, and %d waits", a, b), must(slot.Put(held(dev.New(), x), y)), want...)
		}
	}
}

// P6.2: records of all sizes are found, on disks of noughts and of noise.
func TestFindSizes(t *testing.T) {
	for size := range 1883 {
		r := record(uint32(size+1), size)
		d := noise(5)
		if size%2 == 0 {
			d = dev.New()
		}
		finds(t, fmt.Sprint(size), held(d, r), r)
	}
}

// P6.2: a write that waits hides what lasts, and lets see what does not last yet.
func TestFindSeen(t *testing.T) {
	r, d := record(0x01020304, 300), held(dev.New(), record(0x01020304, 300))
	for i, s := range sectorsOf(r) {
		x := must(dev.Write(d, i, make([]byte, 128)))
		finds(t, "hidden", x)
		finds(t, "seen again", must(dev.Write(x, i, s)), r)
		finds(t, "turned as it lasts, hidden by what is right", must(dev.Write(must(dev.Spoil(d, i, 9, 1)), i, s)), r)
		finds(t, "turned", must(dev.Spoil(d, i, 9, 1)))
	}
	finds(t, "behind the record", must(dev.Write(d, 3, random(1, 128))), r)
}

// P6.2: sectors that hang together but are no record's, or another slot's, are not found.
func TestFindNone(t *testing.T) {
	r := record(5, 200)
	body := bodyOf(5, r.Text, 200, 0)
	room := bodyOf(5, r.Text[:112], 112, 0)
	swapped := sectorsOf(r)
	swapped[0], swapped[1] = swapped[1], swapped[0]
	numbers, ends, starts := sectorsOf(r), sectorsOf(r), sectorsOf(r)
	numbers[1][4], ends[1][127], starts[1][3] = 0, 1, 1
	counts, later, tail := sectorsOf(r), sectorsOf(r), sectorsOf(r)
	counts[1][5], later[1][5], tail[1][123] = 1, 3, 1
	cases := map[string]struct {
		at      int
		sectors [][]byte
	}{
		"the other slot": {0, sectorsOf(r)}, "the other one": {16, sectorsOf(record(6, 200))}, "not at its beginning": {17, sectorsOf(r)},
		"out of order": {16, swapped}, "a number": {16, numbers}, "an end": {16, ends}, "a beginning": {16, starts}, "counts": {16, counts},
		"a later count": {16, later}, "what is behind": {16, tail}, "one missing": {16, sectorsOf(r)[:1]}, "the first missing": {17, sectorsOf(r)[1:]},
		"generation 0, no bytes": {0, cut(0, bodyOf(0, nil, 0, 0), 1)}, "that in the other slot": {16, cut(0, bodyOf(0, nil, 0, 0), 1)},
		"generation 0": {0, cut(0, bodyOf(0, r.Text, 200, 0), 2)}, "a sum": {16, cut(5, bodyOf(5, r.Text, 200, 1<<31), 2)},
		"another generation's sum": {16, cut(5, bodyOf(7, r.Text, 200, 0), 2)}, "more sectors": {16, cut(5, body, 3)},
		"more of one": {16, cut(5, room, 2)}, "fewer sectors": {16, cut(5, body, 1)}, "none": {16, cut(5, body, 2)[:0]},
		"bytes behind": {16, cut(5, append(body, 1), 2)}, "too many bytes": {16, cut(5, bodyOf(5, random(1, 1883), 1883, 0), 17)[:16]},
		"a nought too many": {16, cut(5, bodyOf(5, append(random(1, 1882), 0), 1883, 0), 17)[:16]},
		"bytes beyond":      {16, cut(5, bodyOf(5, random(1, 1882), 1883, 0), 16)}, "all bytes": {16, cut(5, bodyOf(5, random(1, 1882), 65535, 0), 16)},
		"fewer bytes": {16, cut(5, bodyOf(5, r.Text, 199, 0), 2)}, "17 of them": {16, cut(5, body, 17)[:16]}, "16 of them": {16, cut(5, body, 16)},
	}
	for name, c := range cases {
		finds(t, name, laid(c.at, c.sectors))
	}
	finds(t, "all right", laid(16, cut(5, body, 2)), r)
	finds(t, "one sector's room", laid(16, cut(5, room, 1)), api.Record{Gen: 5, Text: r.Text[:112]})
	zero := cut(5, body, 2)
	zero[0][5], zero[1][5] = 0, 0
	finds(t, "0 of them", laid(16, zero))
}

// P6.2: the generation behind another one is above all that the other slot begins or ends with, as it is seen.
func TestNext(t *testing.T) {
	for i, d := range disks() {
		for _, gen := range append(gens, 0, 4, 6, 7, 8, 9, 10, 11, 12) {
			want, ok := behind(d, gen)
			n, e := slot.Next(d, gen)
			if ok != (e == api.OK) || !ok && e != api.ErrFull || n != want {
				t.Errorf("disk %d: Next(%d) = %d, %d; want %d", i, gen, n, int(e), want)
			}
		}
	}
}

// P6.2: each sector's beginning and end counts, of the other slot alone, also behind its record.
func TestNextEach(t *testing.T) {
	for at := range 32 {
		for _, byt := range []int{0, 124} {
			for _, gen := range []uint32{0, 1, 98, 99, 100, 101, 300} {
				d := dev.New()
				d.Sectors[at] = bytes.Repeat([]byte{255}, 128)
				copy(d.Sectors[at], make([]byte, 4))
				copy(d.Sectors[at][124:], make([]byte, 4))
				copy(d.Sectors[at][byt:], lowest(100))
				want := gen + 1
				if at/16 != int(gen%2) && gen < 100 {
					want = 101 + gen%2
				}
				if n, e := slot.Next(d, gen); e != api.OK || n != want {
					t.Errorf("100 in sector %d at %d: Next(%d) = %d, %d; want %d", at, byt, gen, n, int(e), want)
				}
				x := must(dev.Write(dev.New(), at, d.Sectors[at]))
				if n, e := slot.Next(x, gen); e != api.OK || n != want {
					t.Errorf("100 waits for sector %d at %d: Next(%d) = %d, %d; want %d", at, byt, gen, n, int(e), want)
				}
				hidden := must(dev.Write(d, at, make([]byte, 128)))
				if n, e := slot.Next(hidden, gen); e != api.OK || n != gen+1 {
					t.Errorf("100 hidden in sector %d at %d: Next(%d) = %d, %d", at, byt, gen, n, int(e))
				}
			}
		}
	}
}

// P6.2: the lowest byte stands first in what a sector begins and ends with.
func TestNextBytes(t *testing.T) {
	for i := range 4 {
		for _, byt := range []int{0, 124} {
			d := dev.New()
			d.Sectors[20][byt+i] = 2
			if n, e := slot.Next(d, 0); e != api.OK || n != 2<<(8*i)+1 {
				t.Errorf("byte %d: Next = %d, %d", byt+i, n, int(e))
			}
		}
	}
}

// P6.2: above the greatest generation there is none.
func TestNextFull(t *testing.T) {
	const most = math.MaxUint32
	cases := []struct {
		at        int
		seen, gen uint32
		want      uint32
		e         api.Errno
	}{
		{0, 0, most, 0, api.ErrFull}, {0, 0, most - 1, most, api.OK}, {0, 0, most - 2, most - 1, api.OK}, {0, most, 1, 0, api.ErrFull},
		{0, most - 1, 1, 0, api.ErrFull}, {0, most - 2, 1, most - 1, api.OK}, {0, most - 3, 1, most - 1, api.OK}, {0, most - 4, 1, most - 3, api.OK},
		{16, most, 2, 0, api.ErrFull}, {16, most - 1, 2, most, api.OK}, {16, most - 2, 2, most, api.OK}, {16, most, 0, 0, api.ErrFull},
		{31, most - 1, most - 1, most, api.OK}, {31, most, most - 1, 0, api.ErrFull}, {15, most - 1, most, 0, api.ErrFull}, {15, most, 2, 3, api.OK}, {31, most, 1, 2, api.OK},
	}
	for _, c := range cases {
		for _, byt := range []int{0, 124} {
			d := dev.New()
			copy(d.Sectors[c.at][byt:], lowest(c.seen))
			if n, e := slot.Next(d, c.gen); n != c.want || e != c.e {
				t.Errorf("%d in sector %d: Next(%d) = %d, %d; want %d, %d", c.seen, c.at, c.gen, n, int(e), c.want, int(c.e))
			}
		}
	}
}

// roomy answers list with more in its spare room.
func roomy[T any](list []T, more ...T) []T {
	return slices.Concat(list, more)[:len(list)]
}

// spare answers d in new memory, each list of it with something in its spare room, and all of its memory.
func spare(d api.Disk) (out, all api.Disk) {
	for _, s := range d.Sectors {
		out.Sectors = append(out.Sectors, roomy(s, random(1, 64)...))
	}
	for _, w := range d.Waits {
		out.Waits = append(out.Waits, api.Write{At: w.At, Data: roomy(w.Data, random(2, 64)...)})
	}
	out.Sectors = roomy(out.Sectors, random(3, 128), random(4, 128))
	out.Waits = roomy(out.Waits, api.Write{At: 5, Data: random(5, 128)}, api.Write{At: 6})
	for _, s := range out.Sectors[:cap(out.Sectors)] {
		all.Sectors = append(all.Sectors, s[:cap(s)])
	}
	for _, w := range out.Waits[:cap(out.Waits)] {
		all.Waits = append(all.Waits, api.Write{At: w.At, Data: w.Data[:cap(w.Data)]})
	}
	return out, all
}

// overwrite turns all bytes of d, its lists' spare room too, and empties its lists.
func overwrite(d api.Disk) {
	for _, s := range d.Sectors[:cap(d.Sectors)] {
		smudge(s)
	}
	for _, w := range d.Waits[:cap(d.Waits)] {
		smudge(w.Data)
	}
	clear(d.Sectors[:cap(d.Sectors)])
	clear(d.Waits[:cap(d.Waits)])
}

// smudge turns all of b, its spare room too.
func smudge(b []byte) {
	for i := range b[:cap(b)] {
		b[:cap(b)][i] ^= 255
	}
}

// P6.3: what is handed in is only read, its spare room too, and so it stays when what is answered is written to; also where a call is refused.
func TestOnlyRead(t *testing.T) {
	list := disks()
	for _, d := range odd() {
		list = append(list, d)
	}
	for i, d := range list {
		in, all := spare(d)
		was := dev.Twin(all)
		for _, gen := range []uint32{0, 9, 12} {
			for _, size := range []int{0, 50, 112, 200, 1882, 1883} {
				r := api.Record{Gen: gen, Text: roomy(random(6, size), 1, 2, 3)}
				x, _ := slot.Put(in, r)
				overwrite(x)
				if !bytes.Equal(r.Text[:size+3], append(random(6, size), 1, 2, 3)) {
					t.Errorf("disk %d: the text of %d bytes changed", i, size)
				}
			}
			slot.Next(in, gen)
		}
		l, _ := slot.Find(in)
		for _, r := range l {
			smudge(r.Text)
		}
		if !dev.Same(all, was) {
			t.Errorf("disk %d: changed", i)
		}
	}
}

// P6.3: what is answered stays when what was handed in is written to, and no two lists of it share memory.
func TestNewMemory(t *testing.T) {
	for i, d := range disks() {
		for _, size := range []int{0, 200, 1882} {
			in, _ := spare(d)
			r := api.Record{Gen: 12, Text: random(6, size)}
			x, e := slot.Put(in, r)
			want := dev.Twin(x)
			l, _ := slot.Find(in)
			overwrite(in)
			smudge(r.Text)
			if !dev.Same(x, want) || !same(l, found(d)) {
				t.Errorf("disk %d: what was answered changed", i)
			}
			if e == api.OK && !lone(x) {
				t.Errorf("disk %d: Put answers lists that share memory", i)
			}
			if len(l) == 2 {
				smudge(l[0].Text)
				if !alike(l[1], found(d)[1]) {
					t.Errorf("disk %d: Find answers texts that share memory", i)
				}
			}
		}
	}
}

// lone tells whether no two lists of bytes of d share memory; it writes on all of them.
func lone(d api.Disk) bool {
	lists := slices.Clone(d.Sectors)
	for _, w := range d.Waits {
		lists = append(lists, w.Data)
	}
	for i, b := range lists {
		copy(b[:cap(b)], bytes.Repeat(binary.LittleEndian.AppendUint16(nil, uint16(i)), cap(b)))
	}
	for i, b := range lists {
		if int(binary.LittleEndian.Uint16(b)) != i || !bytes.Equal(b, bytes.Repeat(b[:2], len(b)/2)) {
			return false
		}
	}
	return true
}

// R2: asked again it is the same, whatever was asked between.
func TestAgain(t *testing.T) {
	for i, d := range disks() {
		r := record(13, 700)
		x, e := slot.Put(d, r)
		l, _ := slot.Find(d)
		n, _ := slot.Next(d, 7)
		for _, other := range disks() {
			slot.Put(other, record(99, 1500))
			slot.Find(other)
			slot.Next(other, 4)
		}
		y, f := slot.Put(d, r)
		m, _ := slot.Find(d)
		if k, _ := slot.Next(d, 7); !dev.Same(x, y) || e != f || !same(l, m) || k != n {
			t.Errorf("disk %d: another answer", i)
		}
	}
}

// other answers the records of list that are not in gen's slot.
func other(list []api.Record, gen uint32) []api.Record {
	var out []api.Record
	for _, r := range list {
		if r.Gen%2 != gen%2 {
			out = append(out, r)
		}
	}
	return out
}

// P6.4: what was put is whole, whatever waits ahead of it; the other slot stays.
func TestPutWhole(t *testing.T) {
	for i, d := range disks() {
		for k, gen := range gens {
			r := record(gen, sizes[(3*i+k)%len(sizes)])
			x, e := slot.Put(d, r)
			if e == api.ErrFull {
				continue
			}
			for _, y := range []api.Disk{x, must(dev.Sync(x))} {
				l := must(slot.Find(y))
				if len(l)-len(other(l, gen)) != 1 || !slices.ContainsFunc(l, func(a api.Record) bool { return alike(a, r) }) {
					t.Errorf("disk %d: %d was put, and isn't whole", i, gen)
				}
				if !same(other(l, gen), other(must(slot.Find(d)), gen)) {
					t.Errorf("disk %d: %d was put, and the other slot did not stay", i, gen)
				}
				a, _ := slot.Next(d, gen)
				if b, _ := slot.Next(y, gen); a != b {
					t.Errorf("disk %d: behind %d comes %d, and %d once it was put", i, gen, a, b)
				}
			}
		}
	}
}

// torn asks what P6.4 promises of d, on which r is put, when power fails with so much kept; it answers what is left.
func torn(t *testing.T, d api.Disk, r api.Record, keep []int) api.Disk {
	t.Helper()
	was := must(slot.Find(d))
	x := must(dev.Crash(must(slot.Put(d, r)), keep))
	l := must(slot.Find(x))
	if !same(l, found(x)) {
		t.Fatalf("gen %d, kept %v: Find: %v; want %v", r.Gen, keep, names(l), names(found(x)))
	}
	if !same(other(l, r.Gen), other(was, r.Gen)) {
		t.Fatalf("gen %d, kept %v: the other slot did not stay", r.Gen, keep)
	}
	for _, a := range l {
		if !alike(a, r) && !slices.ContainsFunc(was, func(b api.Record) bool { return alike(a, b) }) {
			t.Fatalf("gen %d, kept %v: %d is whole, and was not", r.Gen, keep, a.Gen)
		}
	}
	if all := slices.Repeat([]int{128}, len(keep)); slices.Equal(keep, all) && !slices.ContainsFunc(l, func(a api.Record) bool { return alike(a, r) }) {
		t.Fatalf("gen %d, all kept: it isn't whole", r.Gen)
	}
	return x
}

// P6.4: a record of one or two sectors, each kept however far, over a record of like and of unlike generation bytes, longer and shorter.
func TestTorn(t *testing.T) {
	olds := []api.Disk{dev.New(), held(dev.New(), record(0x0a0b0c0e, 500), record(0x01020303, 300)), held(dev.New(), record(10, 20), record(11, 1882)), noise(6)}
	for _, d := range olds {
		for _, gen := range []uint32{0x0b0c0d0e, 0x0a0b0c10, 0x01020305} {
			for a := range 129 {
				torn(t, d, record(gen, 112), []int{a})
				for _, b := range []int{0, 1, 3, 4, 124, 125, 127, 128} {
					torn(t, d, record(gen, 113), []int{a, b})
					torn(t, d, record(gen, 113), []int{b, a})
				}
			}
		}
	}
}

// P6.4: a sector of which but a part of one of its generations is kept, or is not, tells that its record isn't whole.
func TestTornGenerations(t *testing.T) {
	d := held(dev.New(), record(0x0a0b0c0e, 1882), record(0x0a0b0c0d, 600))
	r := record(0x11121314, 1882)
	for at := range 16 {
		for far := range 128 {
			keep := slices.Repeat([]int{128}, 16)
			keep[at] = far
			finds(t, fmt.Sprintf("sector %d, %d bytes kept", at, far), torn(t, d, r, keep), record(0x0a0b0c0d, 600))
			if far > 0 && far < 4 || far > 4 {
				none := make([]int, 16)
				none[at] = far
				finds(t, fmt.Sprintf("sector %d alone, %d bytes kept", at, far), torn(t, d, r, none), record(0x0a0b0c0d, 600))
			}
		}
	}
	want := []api.Record{record(0x0a0b0c0e, 1882), record(0x0a0b0c0d, 600)}
	finds(t, "nothing kept", torn(t, d, r, make([]int, 16)), want...)
}

// P6.4: the generation at both ends tells it, whatever the sum is: texts of one sum, torn into one another.
func TestTornSums(t *testing.T) {
	old := record(0x0a0b0c0e, 400)
	d := held(dev.New(), old)
	r := api.Record{Gen: 0x11121314, Text: forged(0x11121314, old)}
	if a, b := sectorsOf(r)[0][6:10], sectorsOf(old)[0][6:10]; !bytes.Equal(a, b) {
		t.Fatalf("the sums are %x and %x", a, b)
	}
	for at := range 4 {
		for far := range 129 {
			keep := slices.Repeat([]int{128}, 4)
			keep[at] = far
			torn(t, d, r, keep)
			none := make([]int, 4)
			none[at] = far
			torn(t, d, r, none)
		}
	}
}

// turn is bits of a text that are turned, and what its record's sum is turned by then.
type turn struct{ sum, bits uint32 }

// forged answers a text like old's, but for its first four bytes, with which a record of gen has old's sum.
func forged(gen uint32, old api.Record) []byte {
	text := slices.Clone(old.Text)
	sum := func(r api.Record) uint32 { return binary.LittleEndian.Uint32(sectorsOf(r)[0][6:]) }
	flip := func(by uint32) uint32 {
		binary.LittleEndian.PutUint32(text, binary.LittleEndian.Uint32(text)^by)
		return sum(api.Record{Gen: gen, Text: text})
	}
	base := flip(0)
	var basis [33]turn // by how many bits their sum has: unlike turns add up by exclusive or
	reduced := func(x turn) turn {
		for b := basis[bits.Len32(x.sum)]; x.sum != 0 && b.sum != 0; b = basis[bits.Len32(x.sum)] {
			x = turn{x.sum ^ b.sum, x.bits ^ b.bits}
		}
		return x
	}
	for bit := range 32 {
		x := reduced(turn{flip(1<<bit) ^ base, 1 << bit})
		flip(1 << bit)
		basis[bits.Len32(x.sum)] = x
	}
	flip(reduced(turn{sum: base ^ sum(old)}).bits)
	return text
}

// P6.4: power that fails again and again, with generations as Next tells them: a record is whole, or none that was not; one that was whole stays so in the other slot.
func TestTornAgain(t *testing.T) {
	r := rand.New(rand.NewSource(1))
	ends := []int{0, 1, 2, 3, 4, 5, 6, 100, 123, 124, 125, 126, 127, 128, 128, 128}
	for _, first := range []uint32{1, 2, 254, 255, 65534, 65535, 0x01020304} {
		d := held(noise(7), record(first, 300))
		if first%2 == 0 {
			d = held(dev.New(), record(first, 300))
		}
		for range 150 {
			last := must(slot.Find(d))[0].Gen
			gen, e := slot.Next(d, last)
			if e != api.OK {
				break
			}
			next := record(gen, sizes[r.Intn(len(sizes))])
			keep := make([]int, len(sectorsOf(next)))
			for i := range keep {
				keep[i] = ends[r.Intn(len(ends))]
			}
			if d = torn(t, d, next, keep); must(slot.Find(d))[0].Gen < last {
				t.Fatalf("%d is whole no more", last)
			}
		}
	}
}

// P6.4: a generation that Next tells is one with which no sector of its slot ends, however often power failed.
func TestNextFree(t *testing.T) {
	for _, d := range append(disks(), noise(8), noise(9, 3, 19)) {
		for _, gen := range gens {
			n, e := slot.Next(d, gen)
			if e != api.OK {
				continue
			}
			for i, s := range views(d)[slot.Slot(n) : slot.Slot(n)+16] {
				if bytes.Equal(s[124:], lowest(n)) || bytes.Equal(s[:4], lowest(n)) {
					t.Errorf("Next(%d) = %d: sector %d of its slot has it", gen, n, i)
				}
			}
		}
	}
}

// P6.4: a byte that is turned in a slot, each one, undoes that slot's record, if it is one of its sectors', and changes nothing of the other one.
func TestTurned(t *testing.T) {
	even, uneven := record(0x0a0b0c0e, 300), record(0x0a0b0c0f, 1882)
	d := held(noise(10), even, uneven)
	for at := range 32 {
		for byt := range 128 {
			x := must(dev.Spoil(d, at, byt, byte(1)<<(byt%8)))
			want := []api.Record{uneven, even}
			if at < 3 {
				want = []api.Record{uneven}
			}
			if at >= 16 {
				want = []api.Record{even}
			}
			finds(t, fmt.Sprintf("sector %d, byte %d", at, byt), x, want...)
			gen := uint32(0x0a0b0c0e + at/16)
			a, e := slot.Next(d, gen)
			if b, f := slot.Next(x, gen); a != b || e != f {
				t.Errorf("sector %d, byte %d turned: behind %d comes %d, not %d", at, byt, gen, b, a)
			}
		}
	}
}

// P6.4: a whole slot that is turned changes nothing of the other one.
func TestTurnedAll(t *testing.T) {
	even, uneven := record(6, 113), record(7, 0)
	for half := range 2 {
		d := held(dev.New(), even, uneven)
		for at := range 16 {
			d.Sectors[16*half+at] = random(at, 128)
		}
		finds(t, "the rest is turned", d, []api.Record{uneven, even}[half])
		finds(t, "put behind it", must(slot.Put(d, record(uint32(8+half), 300))), [][]api.Record{{record(8, 300), uneven}, {record(9, 300), even}}[half]...)
	}
}

// The chapter's examples.
func TestExamples(t *testing.T) {
	d := must(slot.Put(dev.New(), api.Record{Gen: 3}))
	if len(d.Waits) != 1 || d.Waits[0].At != 16 || !bytes.Equal(d.Waits[0].Data[:6], []byte{3, 0, 0, 0, 0, 1}) {
		t.Errorf("Put: %v", d.Waits)
	}
	finds(t, "new", dev.New())
	finds(t, "that", d, api.Record{Gen: 3})
	for _, c := range []struct {
		d         api.Disk
		gen, want uint32
	}{{dev.New(), 0, 1}, {d, 3, 4}, {d, 2, 5}} {
		if n, e := slot.Next(c.d, c.gen); e != api.OK || n != c.want {
			t.Errorf("Next(%d) = %d, %d; want %d", c.gen, n, int(e), c.want)
		}
	}
	_, none := slot.Put(d, api.Record{})
	_, long := slot.Put(d, record(3, 1883))
	if none != api.ErrArg || long != api.ErrText {
		t.Errorf("errors %d, %d", int(none), int(long))
	}
}
