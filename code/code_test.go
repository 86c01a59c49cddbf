package code_test

import (
	"bytes"
	"math"
	"testing"

	"leverframe/api"
	"leverframe/code"
)

// numbers are those at which the count of digits changes, and some between them, with their bytes.
var numbers = []struct {
	n int
	b []byte
}{
	{0, []byte{0}},
	{1, []byte{1}},
	{127, []byte{127}},
	{128, []byte{128, 1}},
	{129, []byte{129, 1}},
	{255, []byte{255, 1}},
	{256, []byte{128, 2}},
	{300, []byte{172, 2}},
	{16383, []byte{255, 127}},
	{16384, []byte{128, 128, 1}},
	{65536, []byte{128, 128, 4}},
	{65537, []byte{129, 128, 4}},
	{2097151, []byte{255, 255, 127}},
	{2097152, []byte{128, 128, 128, 1}},
	{268435455, []byte{255, 255, 255, 127}},
	{268435456, []byte{128, 128, 128, 128, 1}},
	{305419896, []byte{248, 172, 209, 145, 1}},
	{api.MaxNumber - 1, []byte{254, 255, 255, 255, 7}},
	{api.MaxNumber, []byte{255, 255, 255, 255, 7}},
}

// P1.1: Put's bytes, and what it refuses.
func TestPut(t *testing.T) {
	for _, c := range numbers {
		if b, e := code.Put(c.n); e != api.OK || !bytes.Equal(b, c.b) {
			t.Errorf("Put(%d) = %v, %d; want %v", c.n, b, int(e), c.b)
		}
	}
	for _, n := range []int{-1, -128, math.MinInt32, math.MinInt, api.MaxNumber + 1, api.MaxNumber + 2, 1 << 32, 1<<35 + 1, math.MaxInt} {
		if b, e := code.Put(n); e != api.ErrArg || len(b) != 0 {
			t.Errorf("Put(%d) = %v, %d; want ErrArg", n, b, int(e))
		}
	}
}

// P1.1: Get's number and place, from every place of bytes at which one stands.
func TestGet(t *testing.T) {
	for _, c := range numbers {
		if n, next, e := code.Get(c.b, 0); e != api.OK || n != c.n || next != len(c.b) {
			t.Errorf("Get(%v, 0) = %d, %d, %d; want %d", c.b, n, next, int(e), c.n)
		}
	}
	if n, next, e := code.Get([]byte{9, 172, 2}, 1); e != api.OK || n != 300 || next != 3 {
		t.Errorf("Get(9 172 2, 1) = %d, %d, %d; want 300, 3", n, next, int(e))
	}
	for at, want := range []int{300, 2, 44} {
		if n, next, e := code.Get([]byte{172, 2, 44}, at); e != api.OK || n != want || next != max(2, at+1) {
			t.Errorf("Get(172 2 44, %d) = %d, %d, %d; want %d", at, n, next, int(e), want)
		}
	}
}

// P1.1: Get refuses places that are none, whatever stands in the bytes.
func TestGetArg(t *testing.T) {
	for _, b := range [][]byte{nil, {}, {0}, {128}, {1, 2, 3}} {
		for _, at := range []int{math.MinInt, -2, -1, len(b) + 1, len(b) + 2, math.MaxInt} {
			if n, next, e := code.Get(b, at); e != api.ErrArg || n != 0 || next != 0 {
				t.Errorf("Get(%v, %d) = %d, %d, %d; want ErrArg", b, at, n, next, int(e))
			}
		}
	}
}

// notNumbers begin with no number's bytes: none at all, no last digit, a nought as the last of several, too great, too many digits.
var notNumbers = [][]byte{
	nil,
	{},
	{128},
	{255},
	{128, 128},
	{255, 255, 255, 255},
	{128, 128, 128, 128, 135},
	{128, 0},
	{129, 0},
	{255, 0, 1},
	{128, 128, 0},
	{255, 255, 255, 255, 0},
	{255, 255, 255, 255, 8},
	{128, 128, 128, 128, 8},
	{128, 128, 128, 128, 16},
	{128, 128, 128, 128, 127},
	{128, 128, 128, 128, 128, 0},
	{128, 128, 128, 128, 128, 1},
	{129, 128, 128, 128, 128, 128, 128, 128, 128, 1},
	{255, 255, 255, 255, 135, 0},
	bytes.Repeat([]byte{128}, 1000),
	append(bytes.Repeat([]byte{128}, 1000), 1),
}

// P1.1: Get refuses what is no number's bytes, with nothing beside the error.
func TestGetBad(t *testing.T) {
	for _, b := range notNumbers {
		if n, next, e := code.Get(b, 0); e != api.ErrBad || n != 0 || next != 0 {
			t.Errorf("Get(%v, 0) = %d, %d, %d; want ErrBad", b, n, next, int(e))
		}
		behind := append([]byte{5, 200, 1}, b...)
		if n, next, e := code.Get(behind, 3); e != api.ErrBad || n != 0 || next != 0 {
			t.Errorf("Get(%v, 3) = %d, %d, %d; want ErrBad", behind, n, next, int(e))
		}
	}
	if _, _, e := code.Get([]byte{1, 2}, 2); e != api.ErrBad {
		t.Errorf("Get at the very end: %d; want ErrBad", int(e))
	}
}

// P1.2: Wrap's bytes up to the limit, and what is refused beyond.
func TestWrap(t *testing.T) {
	for _, c := range []struct{ b, want []byte }{
		{nil, []byte{0}},
		{[]byte{}, []byte{0}},
		{[]byte{0}, []byte{1, 0}},
		{[]byte{7, 8}, []byte{2, 7, 8}},
		{[]byte{255, 128}, []byte{2, 255, 128}},
	} {
		if w, e := code.Wrap(c.b); e != api.OK || !bytes.Equal(w, c.want) {
			t.Errorf("Wrap(%v) = %v, %d; want %v", c.b, w, int(e), c.want)
		}
	}
	for _, c := range numbers {
		if c.n > api.MaxBytes {
			continue
		}
		b := bytes.Repeat([]byte{1, 200}, c.n)[:c.n]
		if w, e := code.Wrap(b); e != api.OK || !bytes.Equal(w, append(append([]byte{}, c.b...), b...)) {
			t.Errorf("Wrap of %d bytes: %d bytes, %d", c.n, len(w), int(e))
		}
	}
	for _, n := range []int{api.MaxBytes + 1, api.MaxBytes + 2, 2 * api.MaxBytes} {
		if w, e := code.Wrap(make([]byte, n)); e != api.ErrMany || len(w) != 0 {
			t.Errorf("Wrap of %d bytes: %d bytes, %d; want ErrMany", n, len(w), int(e))
		}
	}
}

// P1.2: what Unwrap answers, each error, and which one is looked for ahead of which.
func TestUnwrap(t *testing.T) {
	great := append([]byte{128, 128, 4}, make([]byte, api.MaxBytes)...)
	tooGreat := append([]byte{129, 128, 4}, make([]byte, api.MaxBytes+1)...)
	for i, c := range []struct {
		b        []byte
		at, most int
		out      []byte
		next     int
		e        api.Errno
	}{
		{[]byte{2, 7, 8, 9}, 0, 2, []byte{7, 8}, 3, api.OK},
		{[]byte{2, 7, 8, 9}, 0, api.MaxBytes, []byte{7, 8}, 3, api.OK},
		{[]byte{2, 7, 8}, 0, 2, []byte{7, 8}, 3, api.OK},
		{[]byte{9, 2, 7, 8, 9}, 1, 2, []byte{7, 8}, 4, api.OK},
		{[]byte{0}, 0, 0, nil, 1, api.OK},
		{[]byte{0, 1}, 0, 9, nil, 1, api.OK},
		{[]byte{9, 0}, 1, 0, nil, 2, api.OK},
		{great, 0, api.MaxBytes, great[3:], 3 + api.MaxBytes, api.OK},

		{[]byte{2, 7, 8, 9}, 0, 1, nil, 0, api.ErrMany},
		{[]byte{1, 7}, 0, 0, nil, 0, api.ErrMany},
		{great, 0, api.MaxBytes - 1, nil, 0, api.ErrMany},
		{tooGreat, 0, api.MaxBytes, nil, 0, api.ErrMany},
		{[]byte{2}, 0, 1, nil, 0, api.ErrMany},
		{[]byte{255, 255, 255, 255, 7}, 0, api.MaxBytes, nil, 0, api.ErrMany},

		{[]byte{1}, 0, 1, nil, 0, api.ErrBad},
		{[]byte{2, 7}, 0, 2, nil, 0, api.ErrBad},
		{great[:len(great)-1], 0, api.MaxBytes, nil, 0, api.ErrBad},
		{[]byte{5, 2, 7}, 1, 2, nil, 0, api.ErrBad},
		{[]byte{1, 7}, 2, 2, nil, 0, api.ErrBad},
		{nil, 0, 0, nil, 0, api.ErrBad},
		{[]byte{130, 0, 7, 8}, 0, 2, nil, 0, api.ErrBad},
		{[]byte{255, 255, 255, 255, 8}, 0, 0, nil, 0, api.ErrBad},

		{[]byte{0, 0}, -1, 1, nil, 0, api.ErrArg},
		{[]byte{0, 0}, math.MinInt, 1, nil, 0, api.ErrArg},
		{[]byte{0, 0}, 3, 1, nil, 0, api.ErrArg},
		{[]byte{0, 0}, math.MaxInt, 1, nil, 0, api.ErrArg},
		{[]byte{0, 0}, 0, -1, nil, 0, api.ErrArg},
		{[]byte{0, 0}, 0, math.MinInt, nil, 0, api.ErrArg},
		{[]byte{0, 0}, 0, api.MaxBytes + 1, nil, 0, api.ErrArg},
		{[]byte{0, 0}, 0, math.MaxInt, nil, 0, api.ErrArg},
		{[]byte{128}, 0, -1, nil, 0, api.ErrArg},
		{nil, 0, api.MaxBytes + 1, nil, 0, api.ErrArg},
	} {
		if out, next, e := code.Unwrap(c.b, c.at, c.most); e != c.e || next != c.next || !bytes.Equal(out, c.out) {
			t.Errorf("%d: Unwrap of %d bytes at %d, at most %d: %d bytes, %d, %d", i, len(c.b), c.at, c.most, len(out), next, int(e))
		}
	}
}

// roomy is b with spare room behind it, full of a byte that the test knows.
func roomy(b ...byte) []byte {
	r := bytes.Repeat([]byte{99}, len(b)+64)
	copy(r, b)
	return r[:len(b)]
}

// scribble writes on all memory that an answer has, its spare room, too.
func scribble(b []byte) {
	b = b[:cap(b)]
	for i := range b {
		b[i] = 77
	}
}

// P1.3: nothing that is handed in is changed, its spare room neither, and no answer shares memory with it.
func TestMemoryApartFromArguments(t *testing.T) {
	for i, call := range []func(b []byte){
		func(b []byte) { code.Get(b, 0) },
		func(b []byte) { w, _ := code.Wrap(b); scribble(w) },
		func(b []byte) { out, _, _ := code.Unwrap(b, 0, 3); scribble(out) },
		func(b []byte) { out, _, _ := code.Unwrap(b, 4, 0); scribble(out) },
	} {
		b := roomy(3, 1, 2, 3, 0)
		call(b)
		if whole, want := b[:cap(b)], append([]byte{3, 1, 2, 3, 0}, bytes.Repeat([]byte{99}, 64)...); !bytes.Equal(whole, want) {
			t.Errorf("%d: %v", i, whole)
		}
	}
	w, _ := code.Wrap(roomy())
	scribble(w)
	b := roomy(1, 2)
	w, _ = code.Wrap(b)
	b[0], b[1] = 8, 9
	if !bytes.Equal(w, []byte{2, 1, 2}) {
		t.Errorf("Wrap kept its argument: %v", w)
	}
	b = roomy(2, 5, 6)
	out, _, _ := code.Unwrap(b, 0, 2)
	b[1], b[2] = 8, 9
	if !bytes.Equal(out, []byte{5, 6}) {
		t.Errorf("Unwrap kept its argument: %v", out)
	}
}

// P1.3: an answer is not handed out again.
func TestMemoryApartFromAnswers(t *testing.T) {
	for i, call := range []func() []byte{
		func() []byte { b, _ := code.Put(0); return b },
		func() []byte { b, _ := code.Put(api.MaxNumber); return b },
		func() []byte { b, _ := code.Wrap(nil); return b },
		func() []byte { b, _ := code.Wrap([]byte{1, 2}); return b },
		func() []byte { b, _, _ := code.Unwrap([]byte{2, 5, 6}, 0, 2); return b },
	} {
		first := call()
		want := bytes.Clone(first)
		scribble(call())
		if !bytes.Equal(first, want) {
			t.Errorf("%d: the first answer changed to %v", i, first)
		}
		scribble(first)
		if again := call(); !bytes.Equal(again, want) {
			t.Errorf("%d: the answer came to be %v", i, again)
		}
	}
}

// P1.4: what is put is got, whatever stands around it.
func TestPutIsGot(t *testing.T) {
	check := func(n int) {
		b, e := code.Put(n)
		if e != api.OK {
			t.Fatalf("Put(%d): %d", n, int(e))
		}
		for _, around := range [][2][]byte{{nil, nil}, {{0}, {0}}, {{128}, {128}}, {{255, 255}, {255, 1}}, {{128, 128, 128, 128, 128}, {7}}} {
			whole := append(append(bytes.Clone(around[0]), b...), around[1]...)
			at := len(around[0])
			if m, next, e := code.Get(whole, at); e != api.OK || m != n || next != at+len(b) {
				t.Fatalf("Get(%v, %d) = %d, %d, %d; want %d", whole, at, m, next, int(e), n)
			}
		}
	}
	for n := range 70000 {
		check(n)
	}
	for n := 70000; n < api.MaxNumber; n += n/3000 + 1 {
		check(n)
	}
	for k := range 31 {
		check(1 << k)
		check(1<<k - 1)
	}
	check(api.MaxNumber)
}

// known tells by the document's words alone which number's bytes b begins with: its digits' sum, each 128 times that ahead of it.
func known(b []byte) (n, size int, ok bool) {
	times := 1
	for i, x := range b {
		if i == 5 {
			return 0, 0, false
		}
		n += int(x%128) * times
		times *= 128
		if x < 128 {
			return n, i + 1, n <= api.MaxNumber && (i == 0 || x > 0)
		}
	}
	return 0, 0, false
}

// P1.4: what is got is put as just these bytes, over all texts of up to two bytes, and all up to six of bytes that matter.
func TestGotIsPut(t *testing.T) {
	check := func(b []byte) {
		n, next, e := code.Get(b, 0)
		m, size, ok := known(b)
		switch {
		case !ok:
			if e != api.ErrBad || n != 0 || next != 0 {
				t.Fatalf("Get(%v, 0) = %d, %d, %d; want ErrBad", b, n, next, int(e))
			}
		case e != api.OK || n != m || next != size:
			t.Fatalf("Get(%v, 0) = %d, %d, %d; want %d, %d", b, n, next, int(e), m, size)
		default:
			if p, e := code.Put(n); e != api.OK || !bytes.Equal(p, b[:next]) {
				t.Fatalf("Put(%d) = %v, %d; want %v", n, p, int(e), b[:next])
			}
		}
	}
	for x := range 256 {
		check([]byte{byte(x)})
		for y := range 256 {
			check([]byte{byte(x), byte(y)})
		}
	}
	matter := []byte{0, 1, 7, 8, 127, 128, 135, 136, 255}
	var grow func(b []byte)
	grow = func(b []byte) {
		check(b)
		if len(b) == 6 {
			return
		}
		for _, x := range matter {
			grow(append(b[:len(b):len(b)], x))
		}
	}
	grow(nil)
}

// P1.4: what is wrapped is unwrapped, whatever stands around it, and again when it is wrapped once more.
func TestWrappedIsUnwrapped(t *testing.T) {
	for _, n := range []int{0, 1, 2, 126, 127, 128, 129, 255, 256, 16383, 16384, 65535, api.MaxBytes} {
		b := make([]byte, n)
		for i := range b {
			b[i] = byte(i*7 + n)
		}
		w, e := code.Wrap(b)
		if e != api.OK {
			t.Fatalf("Wrap of %d bytes: %d", n, int(e))
		}
		for _, around := range [][2][]byte{{nil, nil}, {{255}, {0}}, {{3, 128}, {255, 255}}} {
			whole := append(append(bytes.Clone(around[0]), w...), around[1]...)
			at := len(around[0])
			for _, most := range []int{n, min(n+1, api.MaxBytes), api.MaxBytes} {
				if out, next, e := code.Unwrap(whole, at, most); e != api.OK || !bytes.Equal(out, b) || next != at+len(w) {
					t.Errorf("Unwrap of %d bytes at %d, at most %d: %d bytes, %d, %d", n, at, most, len(out), next, int(e))
				}
			}
		}
		if n+3 > api.MaxBytes {
			continue
		}
		twice, _ := code.Wrap(w)
		once, _, _ := code.Unwrap(twice, 0, api.MaxBytes)
		if out, _, e := code.Unwrap(once, 0, n); e != api.OK || !bytes.Equal(out, b) {
			t.Errorf("wrapped twice, %d bytes: %d bytes, %d", n, len(out), int(e))
		}
	}
}
