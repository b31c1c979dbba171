package chain

import (
	"bytes"
	"crypto/sha256"
	"fmt"
	"math"
	"slices"
	"testing"

	"assize/api"
)

// most is how long the rows of these tests are at most: beyond some powers of 2.
const most = 70

// direct is SHA-256 of kind and parts, by the library.
func direct(kind byte, parts ...[]byte) api.Digest {
	return sha256.Sum256(append([]byte{kind}, bytes.Join(parts, nil)...))
}

// digest is one of many digests.
func digest(n int) api.Digest {
	return sha256.Sum256(fmt.Append(nil, "digest ", n))
}

// row is n data that differ, of many lengths, one of them empty.
func row(n int) [][]byte {
	var l [][]byte
	for i := range n {
		l = append(l, bytes.Repeat([]byte{byte(i)}, i))
	}
	return l
}

// copied is l in memory of its own.
func copied(l [][]byte) [][]byte {
	var out [][]byte
	for _, b := range l {
		out = append(out, bytes.Clone(b))
	}
	return out
}

// split is the greatest power of 2 less than n, found by trying.
func split(n int) int {
	k := 1
	for 2*k < n {
		k *= 2
	}
	return k
}

// layered is the root of l and the path of its ith, worked out from the leaves
// upward, not from the root downward: a row's pairs are joined, and who has no
// partner goes up as it is. That is the document's tree, seen from below.
func layered(l [][]byte, i int) (api.Digest, []api.Digest) {
	var now, path []api.Digest
	for _, b := range l {
		now = append(now, direct(1, b))
	}
	for len(now) > 1 {
		var up []api.Digest
		for at := 0; at < len(now); at += 2 {
			if at+1 == len(now) {
				up = append(up, now[at])
				continue
			}
			up = append(up, direct(2, now[at][:], now[at+1][:]))
			if i/2 == at/2 {
				path = append(path, now[i^1])
			}
		}
		now, i = up, i/2
	}
	return now[0], path
}

func TestP4_1Link(t *testing.T) {
	zero := api.Digest{}
	for _, prev := range []api.Digest{zero, digest(1), digest(2)} {
		for _, data := range [][]byte{nil, {}, {0}, []byte("a"), bytes.Repeat([]byte("x"), 31), bytes.Repeat([]byte("x"), 1000)} {
			if got, want := Link(prev, data), direct(0, prev[:], data); got != want {
				t.Errorf("Link(%x, %d bytes) is %x, not %x", prev, len(data), got, want)
			}
		}
	}
}

func TestP4_1Fold(t *testing.T) {
	for n := range most {
		l := row(n)
		for _, start := range []api.Digest{{}, digest(n)} {
			want := start
			for _, data := range l {
				want = direct(0, want[:], data)
			}
			if got := Fold(start, l); got != want {
				t.Errorf("Fold of %d is %x, not %x", n, got, want)
			}
		}
	}
	d := digest(3)
	if Fold(d, nil) != d || Fold(d, [][]byte{}) != d {
		t.Error("Fold of none is not where it starts")
	}
	if Fold(d, [][]byte{nil}) != Link(d, nil) || Fold(d, [][]byte{nil}) == d {
		t.Error("Fold of an empty one is not its Link")
	}
	a, b := []byte("a"), []byte("b")
	if Fold(d, [][]byte{a, b}) != Link(Link(d, a), b) || Fold(d, [][]byte{a, b}) == Fold(d, [][]byte{b, a}) {
		t.Error("Fold of two")
	}
}

func TestP4_1Leaf(t *testing.T) {
	for _, data := range append(row(most), nil, []byte{}, bytes.Repeat([]byte("x"), 1000)) {
		if got, want := Leaf(data), direct(1, data); got != want {
			t.Errorf("Leaf of %d bytes is %x, not %x", len(data), got, want)
		}
	}
	if Leaf(nil) != Leaf([]byte{}) {
		t.Error("nil and no byte differ")
	}
}

func TestP4_1Node(t *testing.T) {
	zero := api.Digest{}
	for _, a := range []api.Digest{zero, digest(1), digest(2)} {
		for _, b := range []api.Digest{zero, digest(1), digest(3)} {
			if got, want := Node(a, b), direct(2, a[:], b[:]); got != want {
				t.Errorf("Node(%x, %x) is %x, not %x", a, b, got, want)
			}
		}
	}
	if Node(digest(1), digest(2)) == Node(digest(2), digest(1)) {
		t.Error("Node's sides make no difference")
	}
}

// TestP4_1Kinds: the same bytes are no two kinds' digest.
func TestP4_1Kinds(t *testing.T) {
	a, b := digest(1), digest(2)
	both := append(a[:], b[:]...)
	seen := map[api.Digest]int{}
	for _, d := range []api.Digest{Link(a, b[:]), Leaf(both), Node(a, b), Root(nil), Leaf(nil)} {
		seen[d]++
	}
	if len(seen) != 5 {
		t.Error("two kinds have one digest")
	}
}

func TestP4_2Few(t *testing.T) {
	a, b, c, d, e := []byte("a"), []byte("b"), []byte("c"), []byte("d"), []byte("e")
	ab := Node(Leaf(a), Leaf(b))
	abcd := Node(ab, Node(Leaf(c), Leaf(d)))
	for _, x := range []struct {
		l    [][]byte
		want api.Digest
	}{
		{nil, sha256.Sum256([]byte{3})},
		{[][]byte{}, sha256.Sum256([]byte{3})},
		{[][]byte{a}, sha256.Sum256([]byte("\x01a"))},
		{[][]byte{nil}, sha256.Sum256([]byte{1})},
		{[][]byte{{}}, sha256.Sum256([]byte{1})},
		{[][]byte{a, b}, ab},
		{[][]byte{a, b, c}, Node(ab, Leaf(c))},
		{[][]byte{a, b, c, d}, abcd},
		{[][]byte{a, b, c, d, e}, Node(abcd, Leaf(e))},
		{[][]byte{a, b, c, d, e, a}, Node(abcd, Node(Leaf(e), Leaf(a)))},
		{[][]byte{a, b, c, d, e, a, b}, Node(abcd, Node(Node(Leaf(e), Leaf(a)), Leaf(b)))},
		{[][]byte{a, b, c, d, a, b, c, d}, Node(abcd, abcd)},
		{[][]byte{a, b, c, d, a, b, c, d, e}, Node(Node(abcd, abcd), Leaf(e))},
	} {
		if got := Root(x.l); got != x.want {
			t.Errorf("Root(%q) is %x, not %x", x.l, got, x.want)
		}
	}
}

func TestP4_2Many(t *testing.T) {
	for _, n := range []int{255, 256, 257, 1000, 4095, 4096, 4097} {
		if got, _ := layered(row(n), 0); Root(row(n)) != got {
			t.Errorf("Root of %d is not the tree's", n)
		}
	}
	for n := 1; n < most; n++ {
		l := row(n)
		want, _ := layered(l, 0)
		if got := Root(l); got != want {
			t.Errorf("Root of %d is %x, not %x", n, got, want)
		}
		if k := split(n); n > 1 && Root(l) != Node(Root(l[:k]), Root(l[k:])) {
			t.Errorf("Root of %d is not its parts' Node", n)
		}
	}
}

func TestP4_3Path(t *testing.T) {
	for n := 1; n < most; n++ {
		l := row(n)
		for i := range n {
			_, want := layered(l, i)
			if got, e := Path(l, i); e != api.OK || !slices.Equal(got, want) {
				t.Errorf("Path of %d at %d is %x, %d, not %x", n, i, got, e, want)
			}
		}
	}
	l := row(4097)
	for _, i := range []int{0, 1, 2047, 2048, 4094, 4095, 4096} {
		_, want := layered(l, i)
		if got, e := Path(l, i); e != api.OK || !slices.Equal(got, want) {
			t.Errorf("Path of 4097 at %d is %x, %d", i, got, e)
		}
	}
}

func TestP4_3Few(t *testing.T) {
	a, b, c := []byte("a"), []byte("b"), []byte("c")
	l := [][]byte{a, b, c}
	for i, want := range [][]api.Digest{
		{Leaf(b), Leaf(c)},
		{Leaf(a), Leaf(c)},
		{Node(Leaf(a), Leaf(b))},
	} {
		if got, e := Path(l, i); e != api.OK || !slices.Equal(got, want) {
			t.Errorf("Path of three at %d is %x, %d", i, got, e)
		}
	}
	if got, e := Path(l[:1], 0); e != api.OK || len(got) != 0 {
		t.Errorf("Path of one is %x, %d", got, e)
	}
}

func TestP4_3NoPlace(t *testing.T) {
	for n := range most {
		for _, i := range []int{math.MinInt, -n - 1, -1, n, n + 1, 2 * most, math.MaxInt} {
			if got, e := Path(row(n), i); e != api.ErrArg || len(got) != 0 {
				t.Errorf("Path of %d at %d is %x, %d", n, i, got, e)
			}
		}
	}
	if got, e := Path(nil, 0); e != api.ErrArg || len(got) != 0 {
		t.Errorf("Path of nil is %x, %d", got, e)
	}
}

func TestP4_4Right(t *testing.T) {
	for n := 1; n < most; n++ {
		l := row(n)
		for i := range n {
			root, path := layered(l, i)
			if !Check(root, l[i], i, n, path) {
				t.Errorf("Check of %d at %d says no", n, i)
			}
		}
	}
}

func TestP4_4NoPlace(t *testing.T) {
	for n := 1; n < most; n++ {
		l := row(n)
		for i := range n {
			root, path := layered(l, i)
			for _, at := range []int{math.MinInt, i - n - most, -1, n, n + i, i + 1<<32, math.MaxInt} {
				if !(0 <= at && at < n) && Check(root, l[i], at, n, path) {
					t.Errorf("Check of %d takes place %d", n, at)
				}
			}
			for _, size := range []int{math.MinInt, -n, -1, 0, i - 1, i} {
				if Check(root, l[i], i, size, path) {
					t.Errorf("Check at %d takes a row of %d", i, size)
				}
			}
		}
	}
	none := Root(nil)
	for _, i := range []int{-1, 0, 1} {
		if Check(none, nil, i, 0, nil) || Check(Leaf(nil), nil, i, 0, nil) || Check(Leaf(nil), nil, i, -1, nil) {
			t.Errorf("a row of none has a place %d", i)
		}
	}
}

func TestP4_4WrongLength(t *testing.T) {
	for n := 1; n < most; n++ {
		l := row(n)
		for i := range n {
			root, path := layered(l, i)
			for k := range path {
				shorter := slices.Delete(slices.Clone(path), k, k+1)
				if Check(root, l[i], i, n, path[:k]) || Check(root, l[i], i, n, shorter) {
					t.Errorf("Check of %d at %d takes a path without its %dth", n, i, k)
				}
			}
			for k := range len(path) + 1 {
				if Check(root, l[i], i, n, slices.Insert(slices.Clone(path), k, digest(k))) {
					t.Errorf("Check of %d at %d takes a path with one more", n, i)
				}
			}
			if Check(root, l[i], i, n, append(slices.Clone(path), make([]api.Digest, 1000)...)) {
				t.Errorf("Check of %d at %d takes a path of 1000 more", n, i)
			}
		}
	}
}

// TestP4_4LongerTree: a path that leads to the root, but from a place of another depth.
func TestP4_4LongerTree(t *testing.T) {
	l := row(3)
	root := Root(l)
	pair := Node(Leaf(l[0]), Leaf(l[1]))
	// The third stands by one node below the root, the others by two.
	if !Check(root, l[2], 2, 3, []api.Digest{pair}) || Check(root, l[2], 2, 4, []api.Digest{pair}) || Check(root, l[2], 1, 3, []api.Digest{pair}) {
		t.Error("the third of three")
	}
	// The inner node itself is no leaf's data.
	a, b := Leaf(l[0]), Leaf(l[1])
	if Check(root, append(a[:], b[:]...), 0, 2, []api.Digest{Leaf(l[2])}) {
		t.Error("a node passed for a leaf")
	}
	// A row of which only the place's own nodes are told may as well be longer.
	if path := []api.Digest{b, Leaf(l[2])}; !Check(root, l[0], 0, 3, path) || !Check(root, l[0], 0, 4, path) {
		t.Error("the first of three, or of four")
	}
}

func TestP4_4WrongDigest(t *testing.T) {
	for n := 1; n < most; n++ {
		l := row(n)
		for i := range n {
			root, path := layered(l, i)
			for at := range root {
				other := root
				other[at] ^= 1
				if Check(other, l[i], i, n, path) {
					t.Errorf("Check of %d at %d takes a root with another byte %d", n, i, at)
				}
			}
			for k := range path {
				other := slices.Clone(path)
				other[k][(k+i)%32] ^= 0x80
				if Check(root, l[i], i, n, other) {
					t.Errorf("Check of %d at %d takes another %dth", n, i, k)
				}
			}
			if turned := slices.Clone(path); len(turned) > 1 {
				slices.Reverse(turned)
				if Check(root, l[i], i, n, turned) {
					t.Errorf("Check of %d at %d takes the path from above", n, i)
				}
			}
		}
	}
}

// upFrom joins leaf with path as the tree of n has it at i, by trying powers of 2
// from the root downward, without recursion.
func upFrom(leaf api.Digest, i, n uint64, path []api.Digest) api.Digest {
	var right []bool
	for n > 1 {
		k := uint64(1)
		for 2*k < n {
			k *= 2
		}
		right = append(right, i >= k)
		if i >= k {
			i, n = i-k, n-k
		} else {
			n = k
		}
	}
	slices.Reverse(right)
	for at, d := range path {
		if right[at] {
			leaf = direct(2, d[:], leaf[:])
		} else {
			leaf = direct(2, leaf[:], d[:])
		}
	}
	return leaf
}

// TestP4_4Huge: rows so long that a place's path has all heights up to 63.
func TestP4_4Huge(t *testing.T) {
	data := []byte("data")
	for _, x := range []struct{ i, n, height int }{
		{0, 1<<62 + 1, 63},
		{1 << 62, 1<<62 + 1, 1},
		{1<<62 - 1, 1<<62 + 1, 63},
		{0, 1 << 62, 62},
		{1<<62 - 1, 1 << 62, 62},
		{0, math.MaxInt, 63},
		{1 << 62, math.MaxInt, 63},
		{math.MaxInt - 1, math.MaxInt, 62},
		{math.MaxInt / 3, math.MaxInt, 63},
		{0, math.MaxInt - 1, 63},
		{math.MaxInt - 2, math.MaxInt - 1, 62},
		{1 << 40, 1<<40 + 1, 1},
		{1<<40 + 4, 1<<40 + 5, 2},
	} {
		var path []api.Digest
		for k := range x.height {
			path = append(path, digest(k))
		}
		root := upFrom(direct(1, data), uint64(x.i), uint64(x.n), path)
		if !Check(root, data, x.i, x.n, path) {
			t.Errorf("Check at %d of %d says no", x.i, x.n)
		}
		if Check(root, data, x.i, x.n, path[1:]) || Check(root, data, x.i, x.n, append(path, digest(99))) || Check(digest(0), data, x.i, x.n, path) {
			t.Errorf("Check at %d of %d takes another root, or another height", x.i, x.n)
		}
	}
	for _, height := range []int{0, 1, 62, 63, 64, 65, 1000, 1 << 17} {
		if Check(digest(1), data, 0, math.MaxInt, make([]api.Digest, height)) {
			t.Errorf("a path of %d noughts", height)
		}
	}
}

func TestP4_5OfPath(t *testing.T) {
	for n := 1; n < most; n++ {
		l := row(n)
		root := Root(l)
		for i := range n {
			path, e := Path(l, i)
			if e != api.OK {
				t.Fatalf("Path of %d at %d: %d", n, i, e)
			}
			for at := range n {
				if Check(root, l[i], at, n, path) != (at == i) {
					t.Errorf("Check of %d: the path of %d at %d", n, i, at)
				}
				if Check(root, l[at], i, n, path) != (at == i) {
					t.Errorf("Check of %d: the path of %d with the data of %d", n, i, at)
				}
			}
			for _, data := range [][]byte{append(bytes.Clone(l[i]), 0), append([]byte{1}, l[i]...), []byte("other")} {
				if Check(root, data, i, n, path) {
					t.Errorf("Check of %d at %d takes %q", n, i, data)
				}
			}
		}
	}
}

// TestP4_5Alike: where a row has the same data twice, each place has a path of its own that holds.
func TestP4_5Alike(t *testing.T) {
	for n := 1; n < most; n++ {
		l := make([][]byte, n)
		root := Root(l)
		for i := range n {
			path, e := Path(l, i)
			if e != api.OK || !Check(root, nil, i, n, path) || !Check(root, []byte{}, i, n, path) || Check(root, []byte{0}, i, n, path) {
				t.Errorf("%d alike, at %d", n, i)
			}
		}
	}
}

func TestP4_5FoldOfParts(t *testing.T) {
	l := row(20)
	for _, start := range []api.Digest{{}, digest(1)} {
		whole := Fold(start, l)
		for i := range len(l) + 1 {
			if Fold(Fold(start, l[:i]), l[i:]) != whole {
				t.Errorf("Fold in two at %d is another", i)
			}
		}
	}
}

// TestR2Unchanged: what is handed in stays as it is, what lies behind its length too,
// and makes no difference; and a changed answer changes no other.
func TestR2Unchanged(t *testing.T) {
	for n := 1; n < 20; n++ {
		whole := append(row(n), []byte("behind"), []byte("it"))
		for i := range whole {
			whole[i] = append(whole[i], "more"...)[:len(whole[i])]
		}
		before, l := copied(whole), whole[:n]
		root, start := Root(l), digest(n)
		if want, _ := layered(row(n), 0); root != want || Fold(start, l) != Fold(start, row(n)) {
			t.Errorf("what lies behind a row of %d makes a difference", n)
		}
		for i := range n {
			_, want := layered(row(n), i)
			path, _ := Path(l, i)
			again, _ := Path(l, i)
			room := append(slices.Clone(path), digest(1), digest(2))
			kept := slices.Clone(room)
			if !Check(root, l[i], i, n, room[:len(path)]) || !slices.Equal(room, kept) {
				t.Errorf("Check of %d at %d changed its path, or read behind it", n, i)
			}
			clear(path[:cap(path)])
			if !slices.Equal(again, want) {
				t.Errorf("two paths of %d at %d share memory", n, i)
			}
		}
		Link(start, l[0])
		for i, b := range whole {
			if !bytes.Equal(b, before[i]) || i < n && string(b[len(b):len(b)+4]) != "more" {
				t.Errorf("the row of %d was changed at %d", n, i)
			}
		}
	}
}
