package pack_test

import (
	"bytes"
	"encoding/binary"
	"fmt"
	"math"
	"math/rand"
	"slices"
	"testing"

	"leverframe/api"
	"leverframe/pack"
	"leverframe/plan"
	"leverframe/sample"
)

// key is what packages are tagged by here, where no other one is told.
var key = []byte("k")

// writes asks that Text and Write of p, any plan, answer as the words say.
func writes(t *testing.T, name string, p api.Plan) {
	t.Helper()
	var want, whole []byte
	err := plan.Check(p)
	if err == api.OK {
		want = text(p)
		whole = tagged(key, want)
	}
	if b, e := pack.Text(p); e != err || !bytes.Equal(b, want) {
		t.Errorf("%s: Text: %v, %d; want %v, %d: %v", name, b, int(e), want, int(err), p)
	}
	if b, e := pack.Write(key, p); e != err || !bytes.Equal(b, whole) {
		t.Errorf("%s: Write: %v, %d; want %v, %d: %v", name, b, int(e), whole, int(err), p)
	}
}

// reads asks that Parse of b, and Read of its package, answer want, or that error and no plan.
func reads(t *testing.T, name string, b []byte, want api.Plan, err api.Errno) {
	t.Helper()
	if p, e := pack.Parse(b); e != err || !plan.Same(p, want) {
		t.Errorf("%s: Parse(%v): %v, %d; want %v, %d", name, b, p, int(e), want, int(err))
	}
	readsWhole(t, name, key, tagged(key, b), want, err)
}

// readsWhole asks that Read of b by k answers want, or that error and no plan.
func readsWhole(t *testing.T, name string, k, b []byte, want api.Plan, err api.Errno) {
	t.Helper()
	if p, e := pack.Read(k, b); e != err || !plan.Same(p, want) {
		t.Errorf("%s: Read(%v, %v): %v, %d; want %v, %d", name, k, b, p, int(e), want, int(err))
	}
}

// judged asks that Parse of b, any bytes, answers as the words say: a plan that may be, and has just this text, or ErrBad and no plan; and that Read of its package does. It answers whether there is a plan.
func judged(t *testing.T, name string, b []byte) bool {
	t.Helper()
	p, e := pack.Parse(b)
	if e == api.OK && (plan.Check(p) != api.OK || !bytes.Equal(text(p), b)) {
		t.Errorf("%s: Parse(%v): %v, whose text it is not", name, b, p)
	}
	if e != api.OK {
		p, e = api.Plan{}, api.ErrBad
	}
	reads(t, name, b, p, e)
	return e == api.OK
}

// P12.1: texts, told byte by byte.
func TestTold(t *testing.T) {
	full := slices.Concat([]byte{255, 255, 255, 255, 7, 254, 255, 255, 255, 7}, []byte{0, 0, 0, 0})
	for name, want := range map[string][]byte{
		"least": {1, 0, 0, 0, 0, 0}, "127 of 126": {127, 126, 0, 0, 0, 0}, "128 of 127": {128, 1, 127, 0, 0, 0, 0}, "of the one ahead": full,
		"one section":      {3, 0, 1, 1, 0, 0, 0, 0, 0, 0, 0, 0},
		"one with a point": {4, 0, 1, 7, 9, 0, 0, 0, 0, 0, 0, 1, 9, 7, 0, 0},
		"one signal":       {3, 0, 1, 1, 0, 0, 0, 0, 0, 0, 1, 99, 1, 1, 0},
		"example": {
			2, 1, 3, 1, 0, 2, 0, 0, 0, 2, 5, 1, 0, 3, 0, 3, 1, 3, 0, 2, 1, 2, 2,
			1, 5, 2, 1, 4, 1, 0, 1, 8, 4, 0, 2, 2, 3, 0, 0, 3,
		},
		"station": {
			172, 2, 128, 1, 6, 1, 0, 0, 0, 2, 0, 2, 2, 1, 1, 3, 0, 4, 0, 3, 0, 2, 1, 5, 1, 4, 0, 2, 2, 5, 2, 5, 5, 6, 0, 3, 1, 4, 1, 6, 0, 5, 0, 0, 0,
			2, 2, 2, 5, 5, 4, 1, 1, 1, 3, 3, 1, 4, 4, 1, 6, 6, 0,
			3, 1, 1, 3, 2, 2, 3, 1, 5, 1, 5, 1, 2, 3, 3, 0, 2, 5, 6, 0, 0, 1, 6, 6, 0, 4, 5, 4, 2, 1, 0, 2, 2, 2, 5, 1, 1,
		},
	} {
		p := few()[name]
		if b, e := pack.Text(p); e != api.OK || !bytes.Equal(b, want) {
			t.Errorf("%s: Text: %v, %d; want %v", name, b, int(e), want)
		}
		reads(t, name, want, p, api.OK)
	}
}

// P12.1, P12.2, P12.4: plans that may be are written as the words tell, read back as they were, and written again as they stood.
func TestThereAndBack(t *testing.T) {
	for name, p := range some() {
		writes(t, name, p)
		b, _ := pack.Text(p)
		reads(t, name, b, p, api.OK)
		q, _ := pack.Parse(b)
		writes(t, name+", again", q)
		w, _ := pack.Write(key, p)
		readsWhole(t, name, key, w, p, api.OK)
		q, _ = pack.Read(key, w)
		if x, e := pack.Write(key, q); e != api.OK || !bytes.Equal(x, w) {
			t.Errorf("%s: written again: %v, %d; want %v", name, x, int(e), w)
		}
	}
}

// P12.1, P12.2: plans that may not be are not written, and their texts not read.
func TestWrong(t *testing.T) {
	for name, p := range wrongs() {
		if e := plan.Check(p); e != api.ErrBad {
			t.Errorf("%s: may be: %d", name, int(e))
		}
		writes(t, name, p)
		if b := text(p); len(b) <= api.MaxBuffer-32 {
			reads(t, name, b, api.Plan{}, api.ErrBad)
		} else if q, e := pack.Parse(b); e != api.ErrBad || !plan.Same(q, api.Plan{}) {
			t.Errorf("%s: Parse: %v, %d", name, q, int(e))
		}
	}
	for name, p := range untold() {
		if e := plan.Check(p); e != api.ErrBad {
			t.Errorf("%s: may be: %d", name, int(e))
		}
		writes(t, name, p)
		if judged(t, name, text(p)) {
			t.Errorf("%s: its text is one", name)
		}
	}
}

// plain tells whether each section of p has as many ends as a text of it tells: then no other plan has its numbers.
func plain(p api.Plan) bool {
	for _, s := range p.Sections {
		if s.Point == 0 && len(s.Ends) != 2 || s.Point != 0 && len(s.Ends) != 3 {
			return false
		}
	}
	return true
}

// P12.1, P12.2: one number that is changed, each in turn, in plans that may be.
func TestChanged(t *testing.T) {
	right, wrong := 0, 0
	for name, p := range few() {
		if name == "greatest" {
			continue
		}
		sample.Changed(&p, []int{math.MinInt, -1, 0, 1, 2, 3, 4, 5, 6, 9, 10, 99, 100, 127, 128, 300, api.MaxNumber, 1 << 31, 1<<32 + 1, math.MaxInt}, func(place int) {
			name := fmt.Sprint(name, ", number ", place)
			writes(t, name, p)
			b := text(p)
			switch {
			case plan.Check(p) == api.OK:
				reads(t, name, b, p, api.OK)
				right++
			case plain(p):
				reads(t, name, b, api.Plan{}, api.ErrBad)
				wrong++
			default:
				judged(t, name, b)
			}
		})
	}
	if right < 400 || wrong < 4000 {
		t.Errorf("but %d may be, and %d may not", right, wrong)
	}
}

// P12.1: a text without its last bytes is none; nor is one with something behind it, or one twice.
func TestEnds(t *testing.T) {
	for name, p := range few() {
		b := text(p)
		for n := range b {
			reads(t, fmt.Sprint(name, ", ", n, " bytes"), b[:n], api.Plan{}, api.ErrBad)
		}
		for x := range 256 {
			reads(t, fmt.Sprint(name, ", and ", x), append(bytes.Clone(b), byte(x)), api.Plan{}, api.ErrBad)
		}
		for _, more := range [][]byte{{0, 0}, {0, 0, 0, 0}, {128, 1}, make([]byte, 1000), b, text(api.Plan{Version: 1})} {
			reads(t, fmt.Sprint(name, ", and ", more), slices.Concat(b, more), api.Plan{}, api.ErrBad)
			reads(t, fmt.Sprint(more, ", and ", name), slices.Concat(more, b), api.Plan{}, api.ErrBad)
		}
	}
	reads(t, "no byte", nil, api.Plan{}, api.ErrBad)
	reads(t, "no byte", []byte{}, api.Plan{}, api.ErrBad)
}

// P12.1: a text without one of its numbers, each in turn, with one of them twice, or with a nought ahead of it: but for few, which tell another plan, they are none.
func TestLeftOut(t *testing.T) {
	wrong := 0
	for name, p := range some() {
		list := tell(p).numbers
		for place, n := range list {
			for _, other := range [][]int{slices.Delete(slices.Clone(list), place, place+1), slices.Insert(slices.Clone(list), place, n), slices.Insert(slices.Clone(list), place, 0)} {
				if !judged(t, fmt.Sprint(name, ", number ", place), told{numbers: other}.bytes()) {
					wrong++
				}
			}
		}
	}
	if wrong < 30000 {
		t.Errorf("but %d are not texts", wrong)
	}
}

// instead answers the bytes of t's numbers, but b instead of those of the one at place.
func instead(t told, place int, b []byte) []byte {
	return slices.Concat(told{numbers: t.numbers[:place]}.bytes(), b, told{numbers: t.numbers[place+1:]}.bytes())
}

// P12.1, P12.4: a number that is written in a longer way than it has to be makes no text, each number in turn; nor does one that goes on beyond the bytes.
func TestLonger(t *testing.T) {
	for name, p := range few() {
		all := tell(p)
		for place, n := range all.numbers {
			longer := binary.AppendUvarint(nil, uint64(n))
			open := bytes.Clone(longer)
			open[len(open)-1] |= 128
			reads(t, fmt.Sprint(name, ", open at number ", place), append(told{numbers: all.numbers[:place]}.bytes(), open...), api.Plan{}, api.ErrBad)
			for range 9 {
				longer[len(longer)-1] |= 128
				longer = append(longer, 0)
				reads(t, fmt.Sprint(name, ", number ", place, " in ", len(longer)), instead(all, place, longer), api.Plan{}, api.ErrBad)
			}
			beyond := binary.AppendUvarint(nil, uint64(n)+1<<32)
			reads(t, fmt.Sprint(name, ", number ", place, " and 2^32"), instead(all, place, beyond), api.Plan{}, api.ErrBad)
			endless := bytes.Repeat([]byte{128}, 20)
			reads(t, fmt.Sprint(name, ", number ", place, " endless"), instead(all, place, endless), api.Plan{}, api.ErrBad)
		}
	}
}

// P12.1: counts that are other ones than what follows, each in turn, up to the greatest number that can be written, and beyond.
func TestCounts(t *testing.T) {
	for name, p := range some() {
		all := tell(p)
		for _, place := range all.counts {
			is := all.numbers[place]
			for _, n := range []int{0, 1, 2, 3, 4, 5, 6, 7, 10, 11, 16, 17, is - 1, is + 1, is + 2, 99, 127, 128, is + 128, is + 256, 1 << 16, is + 1<<16, api.MaxNumber - 1, api.MaxNumber, 1 << 31, is + 1<<32, math.MaxInt} {
				if n >= 0 && n != is {
					reads(t, fmt.Sprint(name, ", number ", place, " is ", n), all.with(place, n).bytes(), api.Plan{}, api.ErrBad)
				}
			}
		}
	}
}

// P12.1, W7: a great count tells nothing of how much is done ahead of the answer, whether or not so many elements follow.
func TestGreatCount(t *testing.T) {
	noughts := make([]byte, 1<<24)
	for name, p := range few() {
		all := tell(p)
		for _, place := range all.counts {
			head := told{numbers: append(slices.Clone(all.numbers[:place]), api.MaxNumber)}.bytes()
			reads(t, fmt.Sprint(name, ", ends with a count at ", place), head, api.Plan{}, api.ErrBad)
			if place > 5 && name != "example" {
				continue
			}
			b := slices.Concat(head, noughts)
			if many := testing.AllocsPerRun(1, func() { pack.Parse(b) }); many > 1000 {
				t.Errorf("%s, a great count at %d: memory is taken %v times", name, place, many)
			}
			if q, e := pack.Parse(b); e != api.ErrBad || !plan.Same(q, api.Plan{}) {
				t.Errorf("%s, a great count at %d: %v, %d", name, place, q, int(e))
			}
		}
	}
}

// P12.1: each byte of a text made each other one.
func TestEachByte(t *testing.T) {
	right, wrong := 0, 0
	for _, name := range []string{"least", "128 of 127", "of the one ahead", "one section", "one with a point", "one signal", "example", "station", "one of each"} {
		b := text(few()[name])
		for i, was := range b {
			for x := range 256 {
				b[i] = byte(x)
				if judged(t, fmt.Sprint(name, ", byte ", i), b) {
					right++
				} else {
					wrong++
				}
			}
			b[i] = was
		}
	}
	if right < 2000 || wrong < 20000 {
		t.Errorf("but %d are texts, and %d are not", right, wrong)
	}
}

// P12.1: bytes made by chance, small ones and any, and texts of which some bytes were changed about.
func TestChance(t *testing.T) {
	r := rand.New(rand.NewSource(121))
	right, wrong := 0, 0
	count := func(is bool) {
		if is {
			right++
		} else {
			wrong++
		}
	}
	for range 3000 {
		b := make([]byte, r.Intn(40))
		for i := range b {
			b[i] = byte(r.Intn([]int{2, 4, 256}[r.Intn(3)]))
		}
		count(judged(t, "by chance", b))
		b = text(sample.Grown(r.Intn))
		for range r.Intn(3) {
			i, k := r.Intn(len(b)), r.Intn(len(b))
			b[i], b[k] = b[k], b[i]
		}
		count(judged(t, "changed about", b))
	}
	if right < 1000 || wrong < 3000 {
		t.Errorf("but %d are texts, and %d are not", right, wrong)
	}
}

// keys answers keys that may be, of every length of which something may hang.
func keys() [][]byte {
	out := [][]byte{nil, {}, {0}, {255}, []byte("k"), []byte("key"), make([]byte, 64), bytes.Repeat([]byte{255}, 64)}
	for _, n := range []int{31, 32, 33, 63, 64} {
		out = append(out, made(int64(n), n))
	}
	return out
}

// P12.2: a package is the text, and its tag; it is read by its key, of any length that may be.
func TestKeys(t *testing.T) {
	for name, p := range few() {
		for _, k := range keys() {
			want := tagged(k, text(p))
			if b, e := pack.Write(k, p); e != api.OK || !bytes.Equal(b, want) {
				t.Errorf("%s: Write(%v): %v, %d; want %v", name, k, b, int(e), want)
			}
			readsWhole(t, name, k, want, p, api.OK)
		}
	}
}

// P12.2: a key of more than 64 bytes is ErrText, whatever else is wrong.
func TestLongKey(t *testing.T) {
	for _, n := range []int{65, 66, 128, 1000, 65536} {
		for _, k := range [][]byte{make([]byte, n), made(int64(n), n), append(bytes.Clone(key), make([]byte, n-1)...)} {
			for _, p := range []api.Plan{sample.Example(), {}, {Version: -1}, sample.Full(), sample.Big(17, 6, 10, 16, 6, 2, 3)} {
				if b, e := pack.Write(k, p); e != api.ErrText || len(b) != 0 {
					t.Errorf("Write by %d bytes: %v, %d", n, b, int(e))
				}
				name := fmt.Sprint(n, " bytes as a key")
				readsWhole(t, name, k, tagged(k, text(sample.Example())), api.Plan{}, api.ErrText)
				for _, b := range [][]byte{nil, make([]byte, 31), make([]byte, 32), tagged(k, nil), tagged(k, []byte{0}), tagged(key, text(sample.Example())), make([]byte, 2048), make([]byte, 2049)} {
					readsWhole(t, name, k, b, api.Plan{}, api.ErrText)
				}
			}
		}
	}
}

// P12.2: fewer than 32 bytes are ErrBad, whatever they are.
func TestFewBytes(t *testing.T) {
	example := text(sample.Example())
	for n := range 32 {
		for _, b := range [][]byte{make([]byte, n), made(int64(n), n), example[:n], tagged(key, nil)[:n], tagged(key, nil)[32-n:], tagged(key, example)[:n]} {
			readsWhole(t, fmt.Sprint(n, " bytes"), key, b, api.Plan{}, api.ErrBad)
		}
	}
	readsWhole(t, "no bytes", key, nil, api.Plan{}, api.ErrBad)
}

// P12.2: from 32 bytes to 2,048 the tag is asked first, then the text; at one more nothing is.
func TestLengths(t *testing.T) {
	example := text(sample.Example())
	for _, n := range []int{32, 33, 38, 100, 2047, 2048} {
		name := fmt.Sprint(n, " bytes")
		for _, b := range [][]byte{make([]byte, n), made(int64(n), n), tagged(key, make([]byte, n))[:n], tagged([]byte("l"), make([]byte, n-32))} {
			readsWhole(t, name, key, b, api.Plan{}, api.ErrTag)
		}
		readsWhole(t, name, key, tagged(key, make([]byte, n-32)), api.Plan{}, api.ErrBad)
		readsWhole(t, name, key, tagged(key, made(int64(n), n-32)), api.Plan{}, api.ErrBad)
	}
	filled := append(bytes.Clone(example), make([]byte, 3000)...)
	readsWhole(t, "2,048 bytes, a text first", key, tagged(key, filled[:2016]), api.Plan{}, api.ErrBad)
	for _, n := range []int{2049, 2050, 4096, 65536, 65568, 1 << 17} {
		name := fmt.Sprint(n, " bytes")
		for _, b := range [][]byte{make([]byte, n), made(int64(n), n), tagged(key, make([]byte, n-32)), append(tagged(key, example), make([]byte, n-32-len(example))...), append(make([]byte, n-32-len(example)), tagged(key, example)...)} {
			readsWhole(t, name, key, b, api.Plan{}, api.ErrText)
		}
	}
	readsWhole(t, "2,049 bytes, a text first", key, tagged(key, filled[:2017]), api.Plan{}, api.ErrText)
}

// P12.2: a package of which one bit is turned, in its text or in its tag, is ErrTag; so is one without its first or last byte, or with one more.
func TestEachBit(t *testing.T) {
	for name, p := range few() {
		w := tagged(key, text(p))
		for i := range w {
			for bit := range 8 {
				w[i] ^= 1 << bit
				readsWhole(t, fmt.Sprint(name, ", byte ", i, ", bit ", bit), key, w, api.Plan{}, api.ErrTag)
				w[i] ^= 1 << bit
			}
		}
		for _, b := range [][]byte{w[1:], w[:len(w)-1], append(bytes.Clone(w), 0), append([]byte{0}, w...), slices.Concat(w, w)} {
			readsWhole(t, name+", its length", key, b, api.Plan{}, api.ErrTag)
		}
		readsWhole(t, name+", its tag first", key, slices.Concat(w[len(w)-32:], w[:len(w)-32]), api.Plan{}, api.ErrTag)
	}
}

// P12.2: a text of which one bit is turned, and behind it the tag that is right for that, is what Parse makes of it.
func TestEachBitTagged(t *testing.T) {
	right, wrong := 0, 0
	for name, p := range few() {
		b := text(p)
		for i := range b {
			for bit := range 8 {
				b[i] ^= 1 << bit
				if judged(t, fmt.Sprint(name, ", byte ", i, ", bit ", bit), b) {
					right++
				} else {
					wrong++
				}
				b[i] ^= 1 << bit
			}
		}
	}
	if right < 50 || wrong < 2000 {
		t.Errorf("but %d are texts, and %d are not", right, wrong)
	}
}

// P12.2: by another key it is ErrTag, but by one that has the same block (chapter 4).
func TestOtherKey(t *testing.T) {
	p := sample.Example()
	for _, k := range keys() {
		w := tagged(k, text(p))
		for _, other := range append(keys(), []byte("l"), []byte("\x00k"), append([]byte{1}, k[:min(len(k), 63)]...)) {
			want, err := api.Plan{}, api.ErrTag
			if bytes.Equal(bytes.TrimRight(k, "\x00"), bytes.TrimRight(other, "\x00")) {
				want, err = p, api.OK
			}
			readsWhole(t, fmt.Sprint("by ", k), other, w, want, err)
		}
		for i := range k {
			other := bytes.Clone(k)
			other[i] ^= 1
			readsWhole(t, fmt.Sprint("by ", k), other, w, api.Plan{}, api.ErrTag)
		}
	}
}

// P12.2: of two errors the one that is looked for first is told.
func TestTwoErrors(t *testing.T) {
	long, bad := make([]byte, 65), []byte{0, 0}
	for name, x := range map[string]struct {
		key, b []byte
		e      api.Errno
	}{
		"a long key, few bytes":       {long, make([]byte, 31), api.ErrText},
		"a long key, too many bytes":  {long, make([]byte, 2049), api.ErrText},
		"a long key, another tag":     {long, tagged(key, bad), api.ErrText},
		"a long key, no text":         {long, tagged(long, bad), api.ErrText},
		"too many bytes, another tag": {key, make([]byte, 2049), api.ErrText},
		"too many bytes, no text":     {key, tagged(key, made(1, 2017)), api.ErrText},
		"few bytes, no text":          {key, bad, api.ErrBad},
		"another tag, no text":        {key, append(bytes.Clone(bad), make([]byte, 32)...), api.ErrTag},
		"another key's tag, no text":  {key, tagged([]byte("l"), bad), api.ErrTag},
		"the right tag, no text":      {key, tagged(key, bad), api.ErrBad},
	} {
		readsWhole(t, name, x.key, x.b, api.Plan{}, x.e)
	}
}

// calls makes each call of p, k and b, whatever they are.
func calls(p api.Plan, k, b []byte) {
	pack.Text(p)
	pack.Parse(b)
	pack.Write(k, p)
	pack.Read(k, b)
}

// P12.3: what is handed in is only read, its spare room too, also where key and bytes stand in one memory.
func TestOnlyRead(t *testing.T) {
	all := some()
	for _, more := range []map[string]api.Plan{wrongs(), untold()} {
		for name, p := range more {
			all["wrong: "+name] = p
		}
	}
	for name, p := range all {
		handed := sample.Spare(p)
		was := sample.Whole(handed)
		w := tagged(key, text(p))
		memory := slices.Concat(made(1, 5), key, w, made(2, 100))
		stood := bytes.Clone(memory)
		k, b := memory[5:6], memory[6:6+len(w)]
		calls(handed, k, b)
		calls(handed, k, b[:len(b)-32])
		calls(handed, b[:min(len(b), 64)], b)
		calls(handed, memory, memory)
		if !plan.Same(sample.Whole(handed), was) || !bytes.Equal(memory, stood) {
			t.Errorf("%s: changed", name)
		}
	}
}

// spoil makes all bytes of b other ones, those of its spare room too.
func spoil(b []byte) {
	b = b[:cap(b)]
	for i := range b {
		b[i] ^= 255
	}
}

// P12.3: bytes that are answered are new memory, each time.
func TestBytesApart(t *testing.T) {
	for name, p := range few() {
		one, _ := pack.Text(p)
		other, _ := pack.Text(p)
		whole, _ := pack.Write(key, p)
		more, _ := pack.Write(key, p)
		spoil(one)
		spoil(whole)
		if !bytes.Equal(other, text(p)) || !bytes.Equal(more, tagged(key, text(p))) {
			t.Errorf("%s: changed along: %v, %v", name, other, more)
		}
		writes(t, name, p)
	}
}

// filled puts something into all spare room of list.
func filled[T any](list []T, odd T) {
	room := list[len(list):cap(list)]
	for i := range room {
		room[i] = odd
	}
}

// fill puts something into the spare room of each list of p.
func fill(p api.Plan) {
	filled(p.Sections, api.Section{Id: 1001})
	for _, s := range p.Sections {
		filled(s.Ends, sample.To(1002, 1003))
	}
	filled(p.Points, api.Point{Id: 1004})
	filled(p.Signals, api.Signal{Id: 1005})
	filled(p.Routes, api.Route{Id: 1006})
	for _, r := range p.Routes {
		filled(r.Path, 1007)
		filled(r.Over, 1008)
		filled(r.Flanks, api.Flank{Point: 1009})
	}
}

// P12.3: a plan that is answered is new memory, each time; no two lists of it share any, nor is one the other one's spare room.
func TestPlansApart(t *testing.T) {
	for name, p := range some() {
		b, w := text(p), tagged(key, text(p))
		var plans []api.Plan
		for range 2 {
			parsed, _ := pack.Parse(b)
			read, _ := pack.Read(key, w)
			plans = append(plans, parsed, read)
		}
		spoil(b)
		spoil(w)
		seen := map[*int]bool{}
		for i := range plans {
			fill(plans[i])
			for place, at := range sample.Numbers(&plans[i]) {
				if seen[at] {
					t.Errorf("%s: number %d of answer %d has no memory of its own", name, place, i)
				}
				seen[at] = true
			}
		}
		for i := range plans {
			if !plan.Same(plans[i], p) {
				t.Errorf("%s: answer %d changed along: %v; want %v", name, i, plans[i], p)
			}
		}
	}
}

// R2: asked again it is the same, whatever was asked between.
func TestAgain(t *testing.T) {
	for name, p := range some() {
		for range 2 {
			writes(t, name, p)
			reads(t, name, text(p), p, api.OK)
			calls(station(), []byte("l"), tagged([]byte("l"), text(station())))
			calls(api.Plan{}, make([]byte, 65), nil)
			calls(sample.Full(), nil, text(sample.Full())[:200])
		}
	}
}

// P12.4: no two unlike plans have one text, nor two unlike texts one plan.
func TestUnlike(t *testing.T) {
	texts := map[string]api.Plan{}
	for name, p := range some() {
		sample.Changed(&p, []int{1, 2, 3, 9}, func(place int) {
			b, e := pack.Text(p)
			if e != api.OK {
				return
			}
			if q, ok := texts[string(b)]; ok && !plan.Same(p, q) {
				t.Errorf("%s, number %d: %v has the text of %v", name, place, p, q)
			}
			texts[string(b)] = plan.Twin(p)
		})
	}
	if len(texts) < 1000 {
		t.Errorf("but %d texts", len(texts))
	}
}

// P12.4: a text has at most 1,000 bytes, and a package goes into a buffer.
func TestRoom(t *testing.T) {
	for name, p := range some() {
		b, e := pack.Text(p)
		w, f := pack.Write(make([]byte, 64), p)
		if e != api.OK || f != api.OK || len(b) > 1000 || len(w) > api.MaxBuffer || len(w) != len(b)+32 {
			t.Errorf("%s: %d bytes, %d; %d bytes, %d", name, len(b), int(e), len(w), int(f))
		}
		if most := text(sample.Full()); len(b) > len(most) {
			t.Errorf("%s: %d bytes; the greatest one has %d", name, len(b), len(most))
		}
	}
}

// The chapter's examples.
func TestExamples(t *testing.T) {
	p := sample.Example()
	b, e := pack.Text(p)
	if e != api.OK || !bytes.Equal(b[:7], []byte{2, 1, 3, 1, 0, 2, 0}) {
		t.Errorf("Text: %v, %d", b, int(e))
	}
	w, e := pack.Write([]byte("k"), p)
	if e != api.OK {
		t.Errorf("Write: %d", int(e))
	}
	readsWhole(t, "by k", []byte("k"), w, p, api.OK)
	readsWhole(t, "by l", []byte("l"), w, api.Plan{}, api.ErrTag)
	readsWhole(t, "31 bytes", []byte("k"), w[:31], api.Plan{}, api.ErrBad)
	if q, e := pack.Parse(append(b, 0)); e != api.ErrBad || !plan.Same(q, api.Plan{}) {
		t.Errorf("a nought behind: %v, %d", q, int(e))
	}
}
