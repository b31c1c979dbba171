package sha

import (
	"bytes"
	"crypto/sha256"
	"encoding/hex"
	"fmt"
	"strings"
	"testing"

	"assize/api"
)

// edges are lengths at which a message just fits its blocks with what stands
// behind it, or is just whole blocks, with their neighbours.
var edges = []int{0, 1, 2, 3, 54, 55, 56, 57, 62, 63, 64, 65, 66, 118, 119, 120, 121, 126, 127, 128, 129, 183, 184, 191, 192, 193}

// some is n bytes of all values, in no simple order.
func some(n int) []byte {
	b := make([]byte, n)
	for i := range b {
		b[i] = byte(i*i*7 + i*151 + i>>8 + 200)
	}
	return b
}

// written is a hash to which each of pieces has come.
func written(pieces ...[]byte) *Hash {
	h := New()
	for _, p := range pieces {
		h.Write(p)
	}
	return h
}

func TestP3_1Known(t *testing.T) {
	for _, c := range []struct{ s, want string }{
		{"abc", "ba7816bf 8f01cfea 414140de 5dae2223 b00361a3 96177a9c b410ff61 f20015ad"},
		{"", "e3b0c442 98fc1c14 9afbf4c8 996fb924 27ae41e4 649b934c a495991b 7852b855"},
		{"abcdbcdecdefdefgefghfghighijhijkijkljklmklmnlmnomnopnopq", "248d6a61 d20638b8 e5c02693 0c3e6039 a33ce459 64ff2167 f6ecedd4 19db06c1"},
		{"abcdefghbcdefghicdefghijdefghijkefghijklfghijklmghijklmnhijklmnoijklmnopjklmnopqklmnopqrlmnopqrsmnopqrstnopqrstu", "cf5b16a7 78af8380 036ce59e 7b049237 0b249b11 e8f07a51 afac4503 7afee9d1"},
		{strings.Repeat("a", 1000000), "cdc76e5c 9914fb92 81a1c7e2 84d73e67 f1809a48 a497200e 046d39cc c7112cd0"},
	} {
		want := strings.ReplaceAll(c.want, " ", "")
		if got := Hex(Sum([]byte(c.s))); got != want {
			t.Errorf("Sum of %d bytes is %s, not %s", len(c.s), got, want)
		}
		if got := Hex(written([]byte(c.s)).Sum()); got != want {
			t.Errorf("Sum of a hash of %d bytes is %s, not %s", len(c.s), got, want)
		}
	}
	if Sum(nil) != Sum([]byte{}) {
		t.Error("nil and no byte differ")
	}
}

func TestP3_1Lengths(t *testing.T) {
	lengths := []int{1000, 8191, 8192, 8193, 1<<16 + 1, 1<<21 - 1, 1 << 21}
	for n := range 400 {
		lengths = append(lengths, n)
	}
	for _, n := range append(lengths, edges...) {
		for _, b := range [][]byte{some(n), make([]byte, n), bytes.Repeat([]byte{0xff}, n), bytes.Repeat([]byte{0x80}, n)} {
			if got, want := Sum(b), sha256.Sum256(b); got != api.Digest(want) {
				t.Errorf("Sum of %d bytes is %x, not %x", n, got, want)
			}
		}
	}
}

// TestP3_1Bits: each bit of a block has its say.
func TestP3_1Bits(t *testing.T) {
	seen := map[api.Digest]int{}
	for bit := range 8 * 64 {
		b := make([]byte, 64)
		b[bit/8] = 1 << (bit % 8)
		got := Sum(b)
		if got != sha256.Sum256(b) {
			t.Errorf("bit %d: %x", bit, got)
		}
		seen[got]++
	}
	if len(seen) != 8*64 {
		t.Errorf("%d sums of %d blocks", len(seen), 8*64)
	}
}

// TestP3_1Ending: also of messages that are too long for a test to write.
func TestP3_1Ending(t *testing.T) {
	for _, c := range []struct {
		length int64
		nought int
		count  string
	}{
		{0, 55, "0000000000000000"},
		{1, 54, "0000000000000008"},
		{54, 1, "00000000000001b0"},
		{55, 0, "00000000000001b8"},
		{56, 63, "00000000000001c0"},
		{63, 56, "00000000000001f8"},
		{64, 55, "0000000000000200"},
		{119, 0, "00000000000003b8"},
		{120, 63, "00000000000003c0"},
		{1<<29 - 1, 56, "00000000fffffff8"},
		{1 << 29, 55, "0000000100000000"},
		{1<<31 - 1, 56, "00000003fffffff8"},
	} {
		want := "80" + strings.Repeat("00", c.nought) + c.count
		if got := fmt.Sprintf("%x", ending(c.length)); got != want {
			t.Errorf("behind %d bytes stands %s, not %s", c.length, got, want)
		}
	}
}

func TestP3_2Hash(t *testing.T) {
	h := New()
	if h == nil || h.Len() != 0 || h.Sum() != Sum(nil) {
		t.Fatal("a new hash is not empty")
	}
	var all []byte
	for i, n := range append([]int{3, 0, 200, 0, 0}, edges...) {
		piece := some(n + i)[i:]
		h.Write(piece)
		all = append(all, piece...)
		if h.Len() != int64(len(all)) {
			t.Errorf("write %d: Len is %d, not %d", i, h.Len(), len(all))
		}
		want := api.Digest(sha256.Sum256(all))
		if one, two := h.Sum(), h.Sum(); one != want || two != want {
			t.Errorf("write %d: Sum is %x, then %x, not %x", i, one, two, want)
		}
		if h.Len() != int64(len(all)) {
			t.Errorf("write %d: Len behind Sum is %d, not %d", i, h.Len(), len(all))
		}
	}
}

// TestP3_2SumBetween: a sum that was asked for leaves no trace, wherever the block stands.
func TestP3_2SumBetween(t *testing.T) {
	for _, n := range edges {
		for _, m := range edges {
			b := some(n + m)
			h := written(b[:n])
			if one, two := h.Sum(), h.Sum(); one != sha256.Sum256(b[:n]) || two != one {
				t.Errorf("the sum of %d bytes is wrong", n)
			}
			h.Write(b[n:])
			if h.Sum() != sha256.Sum256(b) || h.Len() != int64(n+m) {
				t.Errorf("the sum of %d and %d bytes is wrong", n, m)
			}
		}
	}
}

func TestP3_2WriteNothing(t *testing.T) {
	for _, n := range edges {
		b := some(n)
		h := written(nil, b, nil, []byte{}, b[:0])
		if h.Len() != int64(n) || h.Sum() != sha256.Sum256(b) {
			t.Errorf("a write of nothing changed the hash of %d bytes", n)
		}
	}
}

func TestP3_2Hex(t *testing.T) {
	for first := range 256 {
		var d api.Digest
		for i := range d {
			d[i] = byte(first + 37*i)
		}
		s := Hex(d)
		if s != hex.EncodeToString(d[:]) {
			t.Errorf("Hex of %d is %s", d, s)
		}
		if back, ok := Parse(s); back != d || !ok {
			t.Errorf("Parse(%s) is %d, %v", s, back, ok)
		}
	}
	if got := Hex(api.Digest{}); got != strings.Repeat("0", 64) {
		t.Errorf("Hex of noughts is %s", got)
	}
	if back, ok := Parse(strings.Repeat("0", 64)); back != (api.Digest{}) || !ok {
		t.Errorf("Parse of noughts is %d, %v", back, ok)
	}
	if back, ok := Parse("0123456789abcdef" + strings.Repeat("f0", 24)); !ok || back[0] != 0x01 || back[7] != 0xef || back[8] != 0xf0 || back[31] != 0xf0 {
		t.Errorf("Parse is %x, %v", back, ok)
	}
}

func TestP3_2ParseWrong(t *testing.T) {
	good := Hex(Sum([]byte("abc")))
	spaced := "ba7816bf 8f01cfea 414140de 5dae2223 b00361a3 96177a9c b410ff61 f20015ad"
	for _, s := range []string{
		"", "0", "ba", good[:62], good[:63], good[1:], good + "0", "0" + good, good + "00", good + good,
		strings.ToUpper(good), " " + good[1:], good[:63] + " ", good[:63] + "\n", good + "\n", "0x" + good[2:], "0x" + good,
		"-" + good[1:], "+" + good[1:], good[:62] + "é", good[:60] + "０", good[:31] + "_" + good[32:],
		spaced, spaced[:64], strings.Repeat("é", 32), strings.Repeat("é", 64), strings.Repeat("\x00", 64), strings.Repeat("\xff", 64),
	} {
		if d, ok := Parse(s); ok || d != (api.Digest{}) {
			t.Errorf("Parse(%q) is %x, %v", s, d, ok)
		}
	}
}

// TestP3_2ParseDigits: every byte at every place is a digit or none.
func TestP3_2ParseDigits(t *testing.T) {
	good := []byte(Hex(Sum(nil)))
	for at := range good {
		for c := range 256 {
			b := bytes.Clone(good)
			b[at] = byte(c)
			isDigit := strings.IndexByte("0123456789abcdef", byte(c)) >= 0
			d, ok := Parse(string(b))
			if ok != isDigit || ok && Hex(d) != string(b) || !ok && d != (api.Digest{}) {
				t.Errorf("Parse(%q) is %x, %v", b, d, ok)
			}
		}
	}
}

func TestP3_2Nil(t *testing.T) {
	var h *Hash
	for _, b := range [][]byte{nil, []byte("a"), some(64), some(200)} {
		h.Write(b)
		if h.Len() != 0 || h.Sum() != (api.Digest{}) {
			t.Errorf("a nil hash tells %d, %x", h.Len(), h.Sum())
		}
	}
}

// TestP3_2Declared: a hash that was made without New is an empty one.
func TestP3_2Declared(t *testing.T) {
	var h Hash
	if h.Len() != 0 || h.Sum() != Sum(nil) {
		t.Error("a hash that is just declared is not empty")
	}
	b := some(100)
	h.Write(b)
	if h.Len() != 100 || h.Sum() != sha256.Sum256(b) {
		t.Error("a hash that is just declared sums otherwise")
	}
}

func TestP3_3TwoAndThree(t *testing.T) {
	b := some(200)
	want := api.Digest(sha256.Sum256(b))
	for i := range len(b) + 1 {
		if got := written(b[:i], b[i:]).Sum(); got != want {
			t.Errorf("cut at %d: %x", i, got)
		}
		for _, j := range edges {
			if j < i {
				continue
			}
			if h := written(b[:i], b[i:j], b[j:]); h.Sum() != want || h.Len() != 200 {
				t.Errorf("cut at %d, %d: %x", i, j, h.Sum())
			}
		}
	}
}

func TestP3_3Many(t *testing.T) {
	for _, n := range append([]int{1000, 4096}, edges...) {
		b := some(n)
		want := api.Digest(sha256.Sum256(b))
		for size := 1; size < 140; size++ {
			h := New()
			for at := 0; at < n; at += size {
				h.Write(b[at:min(at+size, n)])
			}
			if h.Sum() != want || h.Sum() != Sum(b) || h.Len() != int64(n) {
				t.Errorf("%d bytes by %d: %x", n, size, h.Sum())
			}
		}
		// Pieces that grow stand at every place of a block.
		h := New()
		for at, size := 0, 0; at < n; size++ {
			end := min(at+size, n)
			h.Write(b[at:end])
			at = end
		}
		if h.Sum() != want {
			t.Errorf("%d bytes by growing pieces: %x", n, h.Sum())
		}
	}
}

// TestR2Kept: nothing of a slice is kept, or changed, or read behind its length.
func TestR2Kept(t *testing.T) {
	for _, n := range edges {
		whole := append(some(n), bytes.Repeat([]byte("."), 200)...)
		before := bytes.Clone(whole)
		want := api.Digest(sha256.Sum256(whole[:n]))
		if Sum(whole[:n]) != want {
			t.Errorf("Sum of %d bytes with more behind their length is another", n)
		}
		h := written(whole[:n])
		if h.Sum() != want || h.Len() != int64(n) {
			t.Errorf("%d bytes with more behind their length are another's", n)
		}
		if !bytes.Equal(whole, before) {
			t.Errorf("%d bytes were changed", n)
		}
		for i := range whole {
			whole[i] ^= 0xff
		}
		if h.Sum() != want {
			t.Errorf("%d bytes that were changed behind the write changed the sum", n)
		}
		h.Write(whole)
		if h.Sum() != sha256.Sum256(append(before[:n:n], whole...)) {
			t.Errorf("%d bytes that were changed behind the write changed a later sum", n)
		}
	}
}

// TestR2OneBuffer: one slice may be filled again for each write.
func TestR2OneBuffer(t *testing.T) {
	b := some(500)
	h, room := New(), make([]byte, 50)
	for at := 0; at < len(b); at += len(room) {
		copy(room, b[at:])
		h.Write(room)
	}
	if h.Sum() != sha256.Sum256(b) {
		t.Error("a buffer that is filled again changes what was written")
	}
}

func TestR2Apart(t *testing.T) {
	b, c := some(300), bytes.Repeat([]byte("xyz"), 100)
	one, two := New(), New()
	for at := 0; at < 300; at += 20 {
		one.Write(b[at : at+20])
		two.Write(c[at : at+20])
		if one.Sum() != sha256.Sum256(b[:at+20]) || two.Sum() != sha256.Sum256(c[:at+20]) {
			t.Errorf("two hashes mix at %d", at)
		}
	}
	copied := *one
	copied.Write(c)
	if one.Sum() != sha256.Sum256(b) || one.Len() != 300 || copied.Sum() != sha256.Sum256(append(bytes.Clone(b), c...)) {
		t.Error("a copy of a hash does not go its own way")
	}
	d := one.Sum()
	d[0] ^= 1
	if one.Sum() != sha256.Sum256(b) {
		t.Error("a changed answer changed the hash")
	}
}
