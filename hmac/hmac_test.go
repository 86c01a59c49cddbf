package hmac_test

import (
	"bytes"
	stdhmac "crypto/hmac"
	"crypto/sha256"
	"encoding/hex"
	"go/ast"
	"go/parser"
	"go/token"
	"math/rand"
	"slices"
	"testing"

	"leverframe/api"
	"leverframe/hmac"
	"leverframe/sha"
)

// tags are keys, texts, and their tags, known from elsewhere.
var tags = []struct {
	key, text []byte
	tag       string
}{
	{bytes.Repeat([]byte{11}, 20), []byte("Hi There"), "b0344c61d8db38535ca8afceaf0bf12b881dc200c9833da726e9376c2e32cff7"},
	{[]byte("Jefe"), []byte("what do ya want for nothing?"), "5bdcc146bf60754e6a042426089575c75a003f089d2739839dec58b964ec3843"},
	{bytes.Repeat([]byte{0xaa}, 20), bytes.Repeat([]byte{0xdd}, 50), "773ea91e36800e46854db8ebd09181a72959098b3ef8c122d9635514ced565fe"},
	{upTo(25), bytes.Repeat([]byte{0xcd}, 50), "82558a389a443c0ea4cc819899f2083a85f0faa3e578f8077a2e3ff46729665b"},
	{[]byte("key"), []byte("The quick brown fox jumps over the lazy dog"), "f7bc83f430538424b13298e6aa6fb143ef4d59a14946175997479dbc2d1a3cd8"},
	{nil, nil, "b613679a0814d9ec772f95d778c35fc5ff1697c493715653c6c712144292c5ad"},
}

// upTo answers the bytes from 1 to n.
func upTo(n byte) []byte {
	var out []byte
	for x := range n {
		out = append(out, x+1)
	}
	return out
}

// made answers n bytes that hang on seed alone.
func made(seed int64, n int) []byte {
	b := make([]byte, n)
	rand.New(rand.NewSource(seed)).Read(b)
	return b
}

// reference is the tag as the library makes it.
func reference(key, b []byte) [32]byte {
	h := stdhmac.New(sha256.New, key)
	h.Write(b)
	return [32]byte(h.Sum(nil))
}

// turned answers key's block, each byte of it exclusive or x.
func turned(key []byte, x byte) []byte {
	block := make([]byte, 64)
	copy(block, key)
	for i := range block {
		block[i] ^= x
	}
	return block
}

// tag answers the tag of b by key, which has to come without an error.
func tag(t *testing.T, key, b []byte) [32]byte {
	t.Helper()
	x, e := hmac.Tag(key, b)
	if e != api.OK {
		t.Fatalf("Tag by %x: error %d", key, int(e))
	}
	return x
}

// P4.1: tags that are known.
func TestTagKnown(t *testing.T) {
	for _, c := range tags {
		if x := tag(t, c.key, c.text); hex.EncodeToString(x[:]) != c.tag {
			t.Errorf("Tag(%x, %q) = %x; want %s", c.key, c.text, x, c.tag)
		}
	}
}

// P4.1: keys of every length that may be, of all noughts and of none too.
func TestTagKeys(t *testing.T) {
	for n := range 65 {
		for _, key := range [][]byte{make([]byte, n), bytes.Repeat([]byte{54}, n), bytes.Repeat([]byte{92}, n), bytes.Repeat([]byte{255}, n), made(int64(n), n)} {
			for _, b := range [][]byte{nil, []byte("abc"), made(int64(n), 64), made(int64(n), 200)} {
				if x, want := tag(t, key, b), reference(key, b); x != want {
					t.Fatalf("Tag(%x, %x) = %x; want %x", key, b, x, want)
				}
			}
		}
	}
}

// P4.1: texts of every length up to some blocks, and long ones.
func TestTagLengths(t *testing.T) {
	lengths := []int{1000, 1882, 2048, 65535, 65536, 65537, 1 << 20}
	for n := range 300 {
		lengths = append(lengths, n)
	}
	for _, n := range lengths {
		for _, key := range [][]byte{nil, []byte("k"), made(71, 32), made(72, 64)} {
			b := made(int64(n), n)
			if x, want := tag(t, key, b), reference(key, b); x != want {
				t.Fatalf("Tag by %x of %d bytes = %x; want %x", key, n, x, want)
			}
		}
	}
}

// P4.1: each bit of the key and of the bytes counts.
func TestTagEachBit(t *testing.T) {
	for i := range 512 {
		one := make([]byte, 64)
		one[i/8] = 1 << (i % 8)
		if x, want := tag(t, one, []byte("abc")), reference(one, []byte("abc")); x != want {
			t.Errorf("Tag(%x, abc) = %x; want %x", one, x, want)
		}
		if x, want := tag(t, []byte("k"), one), reference([]byte("k"), one); x != want {
			t.Errorf("Tag(k, %x) = %x; want %x", one, x, want)
		}
	}
}

// P4.1: a key that is too long is refused, whatever it ends with, and whatever the bytes are; nothing stands beside the error.
func TestTagText(t *testing.T) {
	for _, n := range []int{65, 66, 100, 128, 131, 1000, 65536} {
		for _, key := range [][]byte{make([]byte, n), bytes.Repeat([]byte{0xaa}, n), made(int64(n), n), append(made(1, 64), make([]byte, n-64)...)} {
			for _, b := range [][]byte{nil, {}, []byte("abc"), made(2, 300)} {
				if x, e := hmac.Tag(key, b); e != api.ErrText || x != [32]byte{} {
					t.Errorf("Tag by %d bytes = %x, %d; want ErrText", n, x, int(e))
				}
			}
		}
	}
}

// DOC.md's word of lists: one without elements may be nil or not.
func TestTagEmpty(t *testing.T) {
	for _, b := range [][]byte{nil, []byte("abc")} {
		if tag(t, nil, b) != tag(t, []byte{}, b) {
			t.Errorf("%q: two tags by no key", b)
		}
	}
	for _, key := range [][]byte{nil, []byte("k"), made(3, 64)} {
		if tag(t, key, nil) != tag(t, key, []byte{}) {
			t.Errorf("%x: two tags of no bytes", key)
		}
	}
}

// P4.1: the same bytes are the same, whichever they are.
func TestSame(t *testing.T) {
	for _, a := range [][32]byte{{}, [32]byte(bytes.Repeat([]byte{255}, 32)), [32]byte(upTo(32)), [32]byte(made(4, 32))} {
		b := a
		if !hmac.Same(a, b) || !hmac.Same(a, a) {
			t.Errorf("%x: not the same as itself", a)
		}
	}
}

// P4.1: bytes of which one bit is another one, at each place.
func TestSameOneBit(t *testing.T) {
	for _, a := range [][32]byte{{}, [32]byte(bytes.Repeat([]byte{255}, 32)), [32]byte(made(5, 32))} {
		for i := range 256 {
			b := a
			b[i/8] ^= 1 << (i % 8)
			if hmac.Same(a, b) || hmac.Same(b, a) {
				t.Errorf("%x and %x: the same", a, b)
			}
		}
	}
}

// P4.1: two places that are unlike by as much, or by what makes up for each other in a sum, and places changed about, are not the same.
func TestSameTwoPlaces(t *testing.T) {
	for i := range 32 {
		for k := range i {
			for _, d := range [][2]byte{{1, 1}, {128, 128}, {1, 255}, {255, 255}, {170, 85}} {
				var a, b [32]byte
				b[i], b[k] = d[0], d[1]
				if hmac.Same(a, b) || hmac.Same(b, a) {
					t.Errorf("places %d and %d, by %v: the same", i, k, d)
				}
			}
			a := [32]byte(upTo(32))
			b := a
			b[i], b[k] = b[k], b[i]
			if hmac.Same(a, b) {
				t.Errorf("places %d and %d, changed about: the same", i, k)
			}
		}
	}
}

// turns answers the places of body at which what is done next may hang on bytes: each of them but loops over the whole of something.
func turns(body ast.Node) []token.Pos {
	var out []token.Pos
	ast.Inspect(body, func(n ast.Node) bool {
		turn := false
		switch x := n.(type) {
		case *ast.IfStmt, *ast.SwitchStmt, *ast.TypeSwitchStmt, *ast.SelectStmt, *ast.ForStmt, *ast.BranchStmt, *ast.CallExpr:
			turn = true
		case *ast.RangeStmt:
			ast.Inspect(x.Body, func(n ast.Node) bool {
				_, leaves := n.(*ast.ReturnStmt)
				turn = turn || leaves
				return true
			})
		case *ast.BinaryExpr:
			_, number := x.Y.(*ast.BasicLit)
			held := x.Op == token.EQL || x.Op == token.NEQ // a library's way to hold arrays against each other may stop early
			turn = x.Op == token.LAND || x.Op == token.LOR || held && !number
		}
		if turn {
			out = append(out, n.Pos())
		}
		return true
	})
	return out
}

// P4.1: all bytes are looked at, wherever two are not the same. No answer shows it; so the text has to: Same goes one way only, and on that way each byte counts (TestSameOneBit).
func TestSameLooksAtAll(t *testing.T) {
	files := token.NewFileSet()
	file, err := parser.ParseFile(files, "hmac.go", nil, 0)
	if err != nil {
		t.Fatal(err)
	}
	same := slices.IndexFunc(file.Decls, func(d ast.Decl) bool {
		f, ok := d.(*ast.FuncDecl)
		return ok && f.Recv == nil && f.Name.Name == "Same"
	})
	if same < 0 {
		t.Fatal("no Same in hmac.go")
	}
	for _, at := range turns(file.Decls[same].(*ast.FuncDecl).Body) {
		t.Errorf("%v: the way through Same may hang on the bytes here", files.Position(at))
	}
}

// P4.2: what is handed in is only read, its spare room too, also where key and bytes stand in one memory, side by side or one upon the other.
func TestOnlyRead(t *testing.T) {
	for _, n := range []int{0, 1, 20, 63, 64, 65, 100} {
		for _, m := range []int{0, 1, 55, 64, 200} {
			all := made(int64(n), n+m+200)
			was := bytes.Clone(all)
			key, b := all[5:5+n], all[5+n:5+n+m]
			x, e := hmac.Tag(key, b)
			y, f := hmac.Tag(key[:n:n], b[:m:m])
			if n <= 64 && (x != reference(key, b) || e != api.OK) || x != y || e != f {
				t.Errorf("%d and %d bytes side by side: %x, %d; %x, %d", n, m, x, int(e), y, int(f))
			}
			hmac.Tag(b, key)
			hmac.Tag(key, all)
			if !bytes.Equal(all, was) {
				t.Errorf("%d and %d bytes: changed", n, m)
			}
		}
	}
}

// R2: what was asked ahead leaves nothing behind, and what was handed in is not kept.
func TestAgain(t *testing.T) {
	key, b := made(6, 40), made(7, 150)
	want := tag(t, key, b)
	tag(t, made(8, 64), made(9, 333))
	hmac.Tag(made(10, 65), b)
	tag(t, nil, nil)
	if tag(t, bytes.Clone(key), bytes.Clone(b)) != want {
		t.Error("another tag of the same bytes")
	}
	clear(key)
	clear(b)
	if x := tag(t, key, b); x != reference(make([]byte, 40), make([]byte, 150)) {
		t.Errorf("%x: that of what stood there ahead", x)
	}
}

// P4.3: a tag is what the key's block makes of the inner hash alone.
func TestTagOfInner(t *testing.T) {
	for n := range 65 {
		key := made(int64(n), n)
		for _, m := range []int{0, 1, 55, 56, 64, 200} {
			b := made(int64(m), m)
			inner := sha.Sum(append(turned(key, 54), b...))
			if x, want := tag(t, key, b), sha.Sum(append(turned(key, 92), inner[:]...)); x != want {
				t.Errorf("Tag(%x, %x) = %x; want %x", key, b, x, want)
			}
		}
	}
}

// P4.3: keys that are one but for noughts behind have the same tags, up to 64 bytes in all.
func TestTagNoughtsBehind(t *testing.T) {
	for _, n := range []int{0, 1, 2, 31, 62, 63, 64} {
		key := made(int64(n), n)
		for _, b := range [][]byte{nil, {0}, []byte("abc"), made(12, 200)} {
			want := tag(t, key, b)
			for more := range 65 - n {
				if x := tag(t, append(bytes.Clone(key), make([]byte, more)...), b); x != want {
					t.Errorf("Tag(%x and %d noughts, %x) = %x; want %x", key, more, b, x, want)
				}
			}
			if _, e := hmac.Tag(append(bytes.Clone(key), make([]byte, 65-n)...), b); e != api.ErrText {
				t.Errorf("%x and noughts, 65 bytes: %d; want ErrText", key, int(e))
			}
		}
	}
}

// P4.3: noughts that are not behind the key's last byte make another block; so do noughts that go from the key to the bytes.
func TestTagNoughtsElsewhere(t *testing.T) {
	b := []byte("abc")
	was := tag(t, []byte("key"), b)
	for _, c := range []struct{ key, text string }{
		{"\x00key", "abc"}, {"k\x00ey", "abc"}, {"ke\x00y", "abc"}, {"key", "\x00abc"}, {"key", "abc\x00"}, {"keya", "bc"}, {"ke", "yabc"},
	} {
		x := tag(t, []byte(c.key), []byte(c.text))
		if x == was || x != reference([]byte(c.key), []byte(c.text)) {
			t.Errorf("Tag(%q, %q) = %x", c.key, c.text, x)
		}
	}
}
