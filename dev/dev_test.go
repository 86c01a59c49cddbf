package dev_test

import (
	"bytes"
	"fmt"
	"math"
	"math/rand"
	"slices"
	"testing"
	"unsafe"

	"leverframe/api"
	"leverframe/dev"
)

// kept are how many bytes of a write a loss of power may keep: the edges, and some between.
var kept = []int{0, 1, 2, 3, 63, 64, 65, 100, 126, 127, 128}

// off are numbers that are no sector's.
var off = []int{-1, 32, 33, 128, 256, -32, math.MinInt, math.MaxInt, math.MaxInt32}

// made answers n bytes that hang on seed alone.
func made(seed int64, n int) []byte {
	b := make([]byte, n)
	rand.New(rand.NewSource(seed)).Read(b)
	return b
}

// disk answers one that may be, with bytes that hang on seed on all its sectors, and a write of such bytes that waits to each of these.
func disk(seed int64, at ...int) api.Disk {
	var d api.Disk
	lists := slices.Collect(slices.Chunk(made(seed, (32+len(at))*128), 128))
	for _, b := range lists[:32] {
		d.Sectors = append(d.Sectors, slices.Clone(b))
	}
	for i, b := range lists[32:] {
		d.Waits = append(d.Waits, api.Write{At: at[i], Data: slices.Clone(b)})
	}
	return d
}

// full answers one on which as many writes wait as may, to sectors that hang on seed.
func full(seed int64) api.Disk {
	return disk(seed, places(seed, 256)...)
}

// places answers n sectors' numbers that hang on seed, many of them more than once.
func places(seed int64, n int) []int {
	r := rand.New(rand.NewSource(seed))
	var at []int
	for range n {
		at = append(at, r.Intn(32))
	}
	return at
}

// keeps answers for each of d's writes how much is kept, which hangs on seed.
func keeps(seed int64, d api.Disk) []int {
	r := rand.New(rand.NewSource(seed))
	keep := make([]int, len(d.Waits))
	for i := range keep {
		keep[i] = kept[r.Intn(len(kept))]
	}
	return keep
}

// all answers for each of d's writes that all of it is kept.
func all(d api.Disk) []int {
	return slices.Repeat([]int{128}, len(d.Waits))
}

// disks answers some that may be: without writes, with one, with several to one sector, with all that may wait, and some whose parts stand in one memory.
func disks() []api.Disk {
	one := made(1, 128)
	shared := api.Disk{Sectors: slices.Repeat([][]byte{one}, 32), Waits: []api.Write{{At: 31, Data: one}, {At: 0, Data: one}}}
	var cut api.Disk
	long := made(2, 34*128)
	for i := range 32 {
		cut.Sectors = append(cut.Sectors, long[128*i:128*i+128])
	}
	cut.Waits = []api.Write{{At: 3, Data: cut.Sectors[4]}, {At: 4, Data: long[70:198]}, {At: 3, Data: long[33*128:]}}
	return []api.Disk{
		dev.New(), disk(3), disk(4, 0), disk(5, 31), disk(6, 0, 31, 7), disk(7, 9, 9, 9, 9), disk(8, 1, 2, 1, 2, 2, 1),
		full(9), disk(10, slices.Repeat([]int{31}, 256)...), disk(11, places(11, 255)...), shared, cut,
	}
}

// odd answers disks that may not be, each by a name.
func odd() map[string]api.Disk {
	out := map[string]api.Disk{
		"none": {}, "no sectors": {Sectors: [][]byte{}}, "31 sectors": {Sectors: disk(1).Sectors[1:]}, "one sector": {Sectors: disk(1).Sectors[:1]},
		"33 sectors": {Sectors: append(disk(1).Sectors, made(1, 128))}, "64 sectors": {Sectors: append(disk(1).Sectors, disk(2).Sectors...)},
		"writes alone": {Waits: disk(1, 2).Waits}, "257 writes": disk(1, places(1, 257)...), "1000 writes": disk(1, make([]int, 1000)...),
	}
	for _, i := range []int{0, 1, 30, 31} {
		for _, size := range []int{0, 1, 127, 129, 256} {
			d := disk(1, 4, 5)
			d.Sectors[i] = made(1, size)
			out[fmt.Sprintf("sector %d of %d bytes", i, size)] = d
			w := disk(1, places(1, 32)...)
			w.Waits[i].Data = made(1, size)
			out[fmt.Sprintf("write %d of %d bytes", i, size)] = w
		}
		for _, at := range off {
			d := disk(1, places(1, 32)...)
			d.Waits[i].At = at
			out[fmt.Sprintf("write %d to %d", i, at)] = d
		}
	}
	return out
}

// reference is what comes of d by keep, told byte by byte: each byte of a sector is that of the last write there whose piece reaches it.
func reference(d api.Disk, keep []int) api.Disk {
	var out api.Disk
	for at, was := range d.Sectors {
		sector := make([]byte, 128)
		for byt := range sector {
			sector[byt] = was[byt]
			for i, w := range d.Waits {
				if w.At == at && byt < keep[i] {
					sector[byt] = w.Data[byt]
				}
			}
		}
		out.Sectors = append(out.Sectors, sector)
	}
	return out
}

// equal tells whether a and b have the same bytes at the same places.
func equal(a, b api.Disk) bool {
	if len(a.Sectors) != len(b.Sectors) || len(a.Waits) != len(b.Waits) {
		return false
	}
	for i := range a.Sectors {
		if !bytes.Equal(a.Sectors[i], b.Sectors[i]) {
			return false
		}
	}
	for i := range a.Waits {
		if a.Waits[i].At != b.Waits[i].At || !bytes.Equal(a.Waits[i].Data, b.Waits[i].Data) {
			return false
		}
	}
	return true
}

// empty tells whether nothing stands in d.
func empty(d api.Disk) bool {
	return len(d.Sectors) == 0 && len(d.Waits) == 0
}

// roomy answers list with more in its spare room.
func roomy[T any](list []T, more ...T) []T {
	return slices.Concat(list, more)[:len(list)]
}

// spare answers d, each of whose lists has something in its spare room.
func spare(d api.Disk) api.Disk {
	var out api.Disk
	for _, s := range d.Sectors {
		out.Sectors = append(out.Sectors, roomy(s, made(77, 64)...))
	}
	for _, w := range d.Waits {
		out.Waits = append(out.Waits, api.Write{At: w.At, Data: roomy(w.Data, made(78, 64)...)})
	}
	out.Sectors = roomy(out.Sectors, made(79, 128), made(80, 128))
	out.Waits = roomy(out.Waits, api.Write{At: 5, Data: made(81, 128)}, api.Write{At: 6})
	return out
}

// shown answers d's lists as they are with their spare room.
func shown(d api.Disk) api.Disk {
	var out api.Disk
	for _, s := range d.Sectors[:cap(d.Sectors)] {
		out.Sectors = append(out.Sectors, slices.Clone(s[:cap(s)]))
	}
	for _, w := range d.Waits[:cap(d.Waits)] {
		out.Waits = append(out.Waits, api.Write{At: w.At, Data: slices.Clone(w.Data[:cap(w.Data)])})
	}
	return out
}

// span is the memory of a list, its spare room too.
type span struct{ from, to uintptr }

// spanOf answers the memory of list.
func spanOf[T any](list []T) span {
	var one T
	from := uintptr(unsafe.Pointer(unsafe.SliceData(list)))
	return span{from, from + uintptr(cap(list))*unsafe.Sizeof(one)}
}

// spans answers the memory of each list of d.
func spans(d api.Disk) []span {
	out := []span{spanOf(d.Sectors), spanOf(d.Waits)}
	for _, s := range d.Sectors {
		out = append(out, spanOf(s))
	}
	for _, w := range d.Waits {
		out = append(out, spanOf(w.Data))
	}
	return out
}

// apart tells whether no two lists of out share memory, nor one with what was handed in.
func apart(out, in []span) bool {
	for i, a := range out {
		for _, b := range slices.Concat(out[:i], in) {
			if a.from < b.to && b.from < a.to {
				return false
			}
		}
	}
	return true
}

// well answers d, behind a call that has to come without an error.
func well(t *testing.T) func(d api.Disk, e api.Errno) api.Disk {
	return func(d api.Disk, e api.Errno) api.Disk {
		t.Helper()
		if e != api.OK {
			t.Fatalf("error %d", int(e))
		}
		return d
	}
}

// P5.1: a new disk is of noughts, and nothing waits on it.
func TestNew(t *testing.T) {
	d := dev.New()
	if len(d.Sectors) != 32 || len(d.Waits) != 0 || dev.Check(d) != api.OK {
		t.Fatalf("%d sectors, %d writes, %d", len(d.Sectors), len(d.Waits), int(dev.Check(d)))
	}
	for at, s := range d.Sectors {
		if !bytes.Equal(s, make([]byte, 128)) {
			t.Errorf("sector %d: %v", at, s)
		}
		if b, e := dev.Read(d, at); e != api.OK || !bytes.Equal(b, make([]byte, 128)) {
			t.Errorf("Read(New, %d) = %v, %d", at, b, int(e))
		}
	}
}

// P5.1, P5.4: two new disks share nothing, and no two sectors do.
func TestNewApart(t *testing.T) {
	d := dev.New()
	if !apart(spans(d), spans(dev.New())) {
		t.Error("shared memory")
	}
	for _, s := range d.Sectors {
		for i := range s {
			s[i] = 255
		}
	}
	if !equal(dev.New(), api.Disk{Sectors: slices.Repeat([][]byte{make([]byte, 128)}, 32)}) {
		t.Error("not of noughts, behind another one was written to")
	}
}

// P5.1: disks that may be.
func TestCheckWell(t *testing.T) {
	for i, d := range disks() {
		if e := dev.Check(d); e != api.OK {
			t.Errorf("disk %d: %d", i, int(e))
		}
	}
	d := disk(1)
	for _, waits := range [][]api.Write{nil, {}} {
		d.Waits = waits
		if e := dev.Check(d); e != api.OK {
			t.Errorf("no writes: %d", int(e))
		}
	}
}

// P5.1 to P5.3: disks that may not be are refused by all calls that take one, ahead of whatever else is wrong, and nothing stands beside the error.
func TestBad(t *testing.T) {
	for name, d := range odd() {
		if e := dev.Check(d); e != api.ErrBad {
			t.Errorf("%s: Check %d; want ErrBad", name, int(e))
		}
		for _, at := range []int{0, 31, -1, 32} {
			if b, e := dev.Read(d, at); e != api.ErrBad || len(b) != 0 {
				t.Errorf("%s: Read at %d: %d bytes, %d; want ErrBad", name, at, len(b), int(e))
			}
			for _, b := range [][]byte{made(1, 128), nil} {
				if x, e := dev.Write(d, at, b); e != api.ErrBad || !empty(x) {
					t.Errorf("%s: Write to %d: %d; want ErrBad", name, at, int(e))
				}
			}
			for _, byt := range []int{0, 127, -1, 128} {
				if x, e := dev.Spoil(d, at, byt, 1); e != api.ErrBad || !empty(x) {
					t.Errorf("%s: Spoil of %d, %d: %d; want ErrBad", name, at, byt, int(e))
				}
			}
		}
		if x, e := dev.Sync(d); e != api.ErrBad || !empty(x) {
			t.Errorf("%s: Sync %d; want ErrBad", name, int(e))
		}
		for _, keep := range [][]int{all(d), append(all(d), 1), slices.Repeat([]int{-1}, len(d.Waits))} {
			if x, e := dev.Crash(d, keep); e != api.ErrBad || !empty(x) {
				t.Errorf("%s: Crash by %d numbers: %d; want ErrBad", name, len(keep), int(e))
			}
		}
	}
}

// P5.1: what is the same is the same, whichever disk it is.
func TestSame(t *testing.T) {
	list := disks()
	for _, d := range odd() {
		list = append(list, d)
	}
	for i, a := range list {
		for k, b := range list {
			if got, want := dev.Same(a, b), equal(a, b); got != want {
				t.Errorf("disks %d and %d: %v; want %v", i, k, got, want)
			}
		}
		if !dev.Same(a, spare(a)) || !dev.Same(spare(a), a) {
			t.Errorf("disk %d: not the same as a copy", i)
		}
	}
	if !dev.Same(api.Disk{}, api.Disk{Sectors: [][]byte{}, Waits: []api.Write{}}) || !dev.Same(api.Disk{Sectors: [][]byte{nil}}, api.Disk{Sectors: [][]byte{{}}}) || !dev.Same(api.Disk{Waits: []api.Write{{}}}, api.Disk{Waits: []api.Write{{Data: []byte{}}}}) {
		t.Error("lists without elements: not the same, nil and not")
	}
}

// P5.1: disks of which one thing is another one are not the same.
func TestSameOneThing(t *testing.T) {
	a := disk(1, 3, 3, 31)
	changes := map[string]func(d *api.Disk){
		"a write less":      func(d *api.Disk) { d.Waits = d.Waits[:2] },
		"the first one off": func(d *api.Disk) { d.Waits = d.Waits[1:] },
		"a write more":      func(d *api.Disk) { d.Waits = append(d.Waits, d.Waits[2]) },
		"none":              func(d *api.Disk) { d.Waits = nil },
		"writes about":      func(d *api.Disk) { d.Waits[0], d.Waits[1] = d.Waits[1], d.Waits[0] },
		"another number":    func(d *api.Disk) { d.Waits[2].At = 30 },
		"the first's":       func(d *api.Disk) { d.Waits[0].At = 4 },
		"shorter data":      func(d *api.Disk) { d.Waits[1].Data = d.Waits[1].Data[:127] },
		"a sector less":     func(d *api.Disk) { d.Sectors = d.Sectors[:31] },
		"a sector more":     func(d *api.Disk) { d.Sectors = append(d.Sectors, d.Sectors[31]) },
		"no sectors":        func(d *api.Disk) { d.Sectors = nil },
		"sectors about":     func(d *api.Disk) { d.Sectors[0], d.Sectors[31] = d.Sectors[31], d.Sectors[0] },
		"a short sector":    func(d *api.Disk) { d.Sectors[31] = d.Sectors[31][:127] },
		"a long sector":     func(d *api.Disk) { d.Sectors[0] = append(d.Sectors[0], 0) },
	}
	for name, change := range changes {
		b := disk(1, 3, 3, 31)
		change(&b)
		if dev.Same(a, b) || dev.Same(b, a) {
			t.Errorf("%s: the same", name)
		}
	}
	for byt := range 128 {
		for at := range 32 {
			b := disk(1, 3, 3, 31)
			b.Sectors[at][byt] ^= 1 << (byt % 8)
			if dev.Same(a, b) || dev.Same(b, a) {
				t.Errorf("byte %d of sector %d: the same", byt, at)
			}
		}
		for i := range 3 {
			b := disk(1, 3, 3, 31)
			b.Waits[i].Data[byt] ^= 1 << (byt % 8)
			if dev.Same(a, b) || dev.Same(b, a) {
				t.Errorf("byte %d of write %d: the same", byt, i)
			}
		}
	}
}

// P5.1, P5.4: a twin is the same disk, whichever it is, and shares nothing with it.
func TestTwin(t *testing.T) {
	list := disks()
	for _, d := range odd() {
		list = append(list, d)
	}
	for i, d := range list {
		x := dev.Twin(d)
		if !equal(x, d) || !apart(spans(x), spans(d)) {
			t.Errorf("disk %d: another one, or shared memory", i)
		}
	}
}

// P5.2: a sector is seen as it comes by all bytes of each write; so the last one to it shows.
func TestRead(t *testing.T) {
	for i, d := range disks() {
		want := reference(d, all(d))
		for at := range 32 {
			b, e := dev.Read(d, at)
			if e != api.OK || !bytes.Equal(b, want.Sectors[at]) {
				t.Errorf("disk %d: Read at %d = %x, %d", i, at, b, int(e))
			}
		}
	}
}

// P5.2: a write waits behind all others, and all else stays.
func TestWrite(t *testing.T) {
	for i, d := range disks() {
		if len(d.Waits) == 256 {
			continue
		}
		for at := range 32 {
			b := made(int64(at), 128)
			want := dev.Twin(d)
			want.Waits = append(want.Waits, api.Write{At: at, Data: b})
			if x, e := dev.Write(d, at, b); e != api.OK || !equal(x, want) {
				t.Errorf("disk %d: Write to %d: another disk, or error %d", i, at, int(e))
			}
		}
	}
}

// P5.2: as many writes as may wait are taken, and no more; numbers and texts are looked at ahead of that.
func TestWriteFull(t *testing.T) {
	d := dev.New()
	for i := range 256 {
		d = well(t)(dev.Write(d, i%32, made(int64(i), 128)))
	}
	for i, w := range d.Waits {
		if w.At != i%32 || !bytes.Equal(w.Data, made(int64(i), 128)) {
			t.Errorf("write %d: another one", i)
		}
	}
	for _, c := range []struct {
		at, size int
		e        api.Errno
	}{{0, 128, api.ErrFull}, {31, 128, api.ErrFull}, {31, 127, api.ErrText}, {31, 129, api.ErrText}, {31, 0, api.ErrText}, {32, 128, api.ErrArg}, {-1, 0, api.ErrArg}} {
		if x, e := dev.Write(d, c.at, make([]byte, c.size)); e != c.e || !empty(x) {
			t.Errorf("Write to %d of %d bytes: %d; want %d", c.at, c.size, int(e), int(c.e))
		}
	}
	d = well(t)(dev.Write(well(t)(dev.Sync(d)), 31, made(1, 128)))
	if len(d.Waits) != 1 {
		t.Errorf("%d writes behind Sync and Write", len(d.Waits))
	}
}

// P5.2, P5.3: numbers that are no sector's are refused, ahead of texts and of other numbers.
func TestAt(t *testing.T) {
	for _, d := range disks() {
		for _, at := range off {
			if b, e := dev.Read(d, at); e != api.ErrArg || len(b) != 0 {
				t.Errorf("Read at %d: %d bytes, %d; want ErrArg", at, len(b), int(e))
			}
			for _, size := range []int{128, 0, 127, 129} {
				if x, e := dev.Write(d, at, make([]byte, size)); e != api.ErrArg || !empty(x) {
					t.Errorf("Write to %d of %d bytes: %d; want ErrArg", at, size, int(e))
				}
			}
			for _, byt := range []int{0, 127, 128} {
				if x, e := dev.Spoil(d, at, byt, 1); e != api.ErrArg || !empty(x) {
					t.Errorf("Spoil of %d, %d: %d; want ErrArg", at, byt, int(e))
				}
			}
		}
	}
}

// P5.2: texts that are too short or too long are refused.
func TestWriteText(t *testing.T) {
	for _, d := range []api.Disk{dev.New(), disk(1, 0, 31), disk(2, places(2, 255)...), full(3)} {
		for _, at := range []int{0, 16, 31} {
			for _, b := range [][]byte{nil, {}, {1}, made(1, 64), made(1, 127), made(1, 129), made(1, 256), made(1, 4096)} {
				if x, e := dev.Write(d, at, b); e != api.ErrText || !empty(x) {
					t.Errorf("Write to %d of %d bytes: %d; want ErrText", at, len(b), int(e))
				}
			}
		}
	}
}

// P5.2: what is synced has all that waited on its sectors, and nothing waits any more.
func TestSync(t *testing.T) {
	for i, d := range disks() {
		x, e := dev.Sync(d)
		if e != api.OK || !equal(x, reference(d, all(d))) {
			t.Errorf("disk %d: another one, or error %d", i, int(e))
		}
		if y, e := dev.Sync(x); e != api.OK || !equal(x, y) {
			t.Errorf("disk %d: another one when synced again, or error %d", i, int(e))
		}
	}
}

// P5.3: one write that is torn behind each of its bytes.
func TestCrashOne(t *testing.T) {
	for _, at := range []int{0, 1, 16, 30, 31} {
		d := disk(1, at)
		for n := range 129 {
			x := well(t)(dev.Crash(d, []int{n}))
			want := dev.Twin(disk(1))
			copy(want.Sectors[at][:n], d.Waits[0].Data)
			if !equal(x, want) {
				t.Errorf("sector %d, %d bytes kept: another disk", at, n)
			}
		}
	}
}

// P5.3: many writes, torn in many ways.
func TestCrash(t *testing.T) {
	for i, d := range disks() {
		lists := [][]int{make([]int, len(d.Waits)), all(d)}
		for seed := range int64(30) {
			lists = append(lists, keeps(seed, d))
		}
		for _, keep := range lists {
			if x, e := dev.Crash(d, keep); e != api.OK || !equal(x, reference(d, keep)) {
				t.Errorf("disk %d, by %v: another one, or error %d", i, keep, int(e))
			}
		}
	}
}

// P5.3: three writes to one sector: pieces are laid in their order, not the longest one last.
func TestCrashOrder(t *testing.T) {
	d := disk(1, 5, 5, 5)
	for _, a := range kept {
		for _, b := range kept {
			for _, c := range kept {
				want := disk(1)
				for i, n := range []int{a, b, c} {
					copy(want.Sectors[5], d.Waits[i].Data[:n])
				}
				if x := well(t)(dev.Crash(d, []int{a, b, c})); !equal(x, want) {
					t.Errorf("by %d, %d, %d: another disk", a, b, c)
				}
			}
		}
	}
}

// P5.3: lists that are too short or too long are refused, whatever numbers they have.
func TestCrashMany(t *testing.T) {
	for _, d := range disks() {
		for _, n := range []int{0, 1, 2, 3, 255, 256, 257, 1000} {
			if n == len(d.Waits) {
				continue
			}
			for _, x := range []int{0, 128, -1, 129} {
				if out, e := dev.Crash(d, slices.Repeat([]int{x}, n)); e != api.ErrMany || !empty(out) {
					t.Errorf("%d numbers %d for %d writes: %d; want ErrMany", n, x, len(d.Waits), int(e))
				}
			}
		}
	}
}

// P5.3: numbers below and above are refused, wherever they stand.
func TestCrashArg(t *testing.T) {
	for _, d := range disks() {
		for i := range d.Waits {
			for _, n := range []int{-1, 129, math.MinInt, math.MaxInt, 256, -128} {
				keep := keeps(1, d)
				keep[i] = n
				if x, e := dev.Crash(d, keep); e != api.ErrArg || !empty(x) {
					t.Errorf("%d as number %d: %d; want ErrArg", n, i, int(e))
				}
			}
		}
	}
}

// DOC.md's word of lists: one without elements may be nil or not.
func TestCrashNone(t *testing.T) {
	for _, keep := range [][]int{nil, {}} {
		for _, waits := range [][]api.Write{nil, {}} {
			d := api.Disk{Sectors: disk(1).Sectors, Waits: waits}
			if x, e := dev.Crash(d, keep); e != api.OK || !equal(x, disk(1)) {
				t.Errorf("nothing waits: another disk, or error %d", int(e))
			}
		}
	}
}

// P5.3: one byte is turned of a sector as it lasts, whatever waits there.
func TestSpoil(t *testing.T) {
	for i, d := range disks() {
		for _, at := range []int{0, 9, 31} {
			for byt := range 128 {
				for _, by := range []byte{0, 1, 255} {
					want := dev.Twin(d)
					want.Sectors[at][byt] ^= by
					if x, e := dev.Spoil(d, at, byt, by); e != api.OK || !equal(x, want) {
						t.Errorf("disk %d: Spoil of %d, %d by %d: another one, or error %d", i, at, byt, by, int(e))
					}
				}
			}
		}
	}
}

// P5.3: numbers that are no byte's are refused.
func TestSpoilArg(t *testing.T) {
	for _, d := range disks() {
		for _, at := range []int{0, 31} {
			for _, byt := range []int{-1, 128, 129, -128, math.MinInt, math.MaxInt} {
				if x, e := dev.Spoil(d, at, byt, 1); e != api.ErrArg || !empty(x) {
					t.Errorf("Spoil of %d, %d: %d; want ErrArg", at, byt, int(e))
				}
			}
		}
	}
}

// calls answers what all calls that answer a disk make of d.
func calls(d api.Disk, b []byte, keep []int) []api.Disk {
	read, _ := dev.Read(d, 31)
	written, _ := dev.Write(d, 31, b)
	synced, _ := dev.Sync(d)
	crashed, _ := dev.Crash(d, keep)
	spoiled, _ := dev.Spoil(d, 31, 127, 255)
	return []api.Disk{{Sectors: [][]byte{read}}, written, synced, crashed, spoiled, dev.Twin(d)}
}

// P5.4: what is handed in is only read, its spare room too, also where a call is refused.
func TestOnlyRead(t *testing.T) {
	list := disks()
	for _, d := range odd() {
		list = append(list, d)
	}
	for i, d := range list {
		in, same := spare(d), dev.Twin(d)
		was, beside := shown(in), shown(d)
		for _, size := range []int{127, 128, 129} {
			for _, n := range []int{len(d.Waits), len(d.Waits) + 1} {
				b := roomy(made(1, size), 1, 2, 3)
				keep := roomy(slices.Repeat([]int{65}, n), 4, 5, 6)
				rest := slices.Clone(keep[:cap(keep)])
				for _, x := range []api.Disk{in, d} {
					calls(x, b, keep)
					dev.Check(x)
					dev.Same(x, same)
					dev.Same(same, x)
				}
				if !bytes.Equal(b[:size+3], append(made(1, size), 1, 2, 3)) || !slices.Equal(keep[:cap(keep)], rest) {
					t.Errorf("disk %d: bytes or numbers changed", i)
				}
			}
		}
		if !equal(shown(in), was) || !equal(shown(d), beside) {
			t.Errorf("disk %d: changed", i)
		}
	}
}

// P5.4: what is answered is new memory, each list of it, also where parts of what is handed in stand in one memory.
func TestNewMemory(t *testing.T) {
	for i, d := range disks() {
		b, keep := d.Sectors[3], all(d)
		in := append(spans(d), spanOf(b), spanOf(keep))
		for k, x := range calls(d, b, keep) {
			if !apart(spans(x), in) {
				t.Errorf("disk %d, call %d: shared memory", i, k)
			}
		}
	}
}

// P5.4: what was handed in is not kept: what becomes of it later does not show.
func TestNotKept(t *testing.T) {
	d, b, keep := disk(1, 4, 31), made(1, 128), []int{100, 127}
	out := calls(d, b, keep)
	for _, s := range append(spread(d), b) {
		clear(s)
	}
	clear(d.Sectors)
	clear(d.Waits)
	clear(keep)
	for k, want := range calls(disk(1, 4, 31), made(1, 128), []int{100, 127}) {
		if !equal(out[k], want) {
			t.Errorf("call %d: changed by what became of its arguments", k)
		}
	}
}

// spread answers all lists of bytes of d.
func spread(d api.Disk) [][]byte {
	out := slices.Clone(d.Sectors)
	for _, w := range d.Waits {
		out = append(out, w.Data)
	}
	return out
}

// R2: asked again it is the same, whatever was asked between.
func TestAgain(t *testing.T) {
	d := disk(1, 4, 31, 4)
	first := calls(d, made(1, 128), []int{3, 128, 1})
	for _, x := range disks() {
		calls(x, made(2, 128), all(x))
		calls(x, nil, nil)
	}
	for k, x := range calls(d, made(1, 128), []int{3, 128, 1}) {
		if !equal(first[k], x) {
			t.Errorf("call %d: another answer", k)
		}
	}
}

// P5.5: power that fails behind some writes, and again behind the rest, leaves what it would leave at once.
func TestCrashTwice(t *testing.T) {
	for i, d := range disks() {
		for seed := range int64(5) {
			keep := keeps(seed, d)
			want := well(t)(dev.Crash(d, keep))
			for _, n := range []int{0, 1, 2, 3, 100, len(d.Waits) / 2, len(d.Waits)} {
				if n > len(d.Waits) {
					continue
				}
				x := well(t)(dev.Crash(api.Disk{Sectors: d.Sectors, Waits: d.Waits[:n]}, keep[:n]))
				for _, w := range d.Waits[n:] {
					x = well(t)(dev.Write(x, w.At, w.Data))
				}
				if x = well(t)(dev.Crash(x, keep[n:])); !dev.Same(x, want) {
					t.Errorf("disk %d, behind %d writes: another one", i, n)
				}
			}
		}
	}
}

// P5.5: a write that is kept whole hides what was kept of those ahead of it on its sector.
func TestWholeHides(t *testing.T) {
	for i, d := range disks() {
		if len(d.Waits) == 256 {
			continue
		}
		for at := range 32 {
			b := made(int64(at), 128)
			x := well(t)(dev.Write(d, at, b))
			for seed := range int64(5) {
				y := well(t)(dev.Crash(x, append(keeps(seed, d), 128)))
				want := well(t)(dev.Crash(d, keeps(seed, d)))
				want.Sectors[at] = b
				if !dev.Same(y, want) {
					t.Errorf("disk %d, sector %d: what was ahead shows, or others changed", i, at)
				}
			}
		}
	}
}

// P5.5: a write of what a sector has as it lasts, alone there, changes it in no way, however it is torn.
func TestSameBytes(t *testing.T) {
	for _, d := range []api.Disk{dev.New(), disk(1), disk(2, 3, 8, 3)} {
		for _, at := range []int{0, 9, 31} {
			x := well(t)(dev.Write(d, at, d.Sectors[at]))
			for n := range 129 {
				keep := keeps(int64(n), d)
				y := well(t)(dev.Crash(x, append(slices.Clone(keep), n)))
				if want := well(t)(dev.Crash(d, keep)); !dev.Same(y, want) || !bytes.Equal(y.Sectors[at], d.Sectors[at]) {
					t.Errorf("sector %d, %d bytes kept: changed", at, n)
				}
			}
		}
	}
}

// The chapter's examples.
func TestExamples(t *testing.T) {
	sevens := bytes.Repeat([]byte{7}, 128)
	a := well(t)(dev.Write(dev.New(), 20, sevens))
	read := func(d api.Disk, at int) []byte {
		b, e := dev.Read(d, at)
		if e != api.OK {
			t.Errorf("Read at %d: %d", at, int(e))
		}
		return b
	}
	if !bytes.Equal(read(a, 20), sevens) || !bytes.Equal(read(well(t)(dev.Crash(a, []int{0})), 20), make([]byte, 128)) || !bytes.Equal(read(well(t)(dev.Sync(a)), 20), sevens) {
		t.Error("not 7s, noughts, 7s")
	}
	if b := read(well(t)(dev.Crash(a, []int{3})), 20); !bytes.Equal(b[:4], []byte{7, 7, 7, 0}) {
		t.Errorf("torn behind three bytes: %v", b[:4])
	}
	_, none := dev.Crash(a, nil)
	_, many := dev.Crash(a, []int{129})
	_, past := dev.Write(a, 32, sevens)
	if none != api.ErrMany || many != api.ErrArg || past != api.ErrArg {
		t.Errorf("errors %d, %d, %d", int(none), int(many), int(past))
	}
}
