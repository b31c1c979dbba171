package wire

import (
	"bytes"
	"encoding/binary"
	"fmt"
	"math"
	"slices"
	"testing"

	"assize/api"
)

// numbers are those at whose bits a byte more is needed, with their neighbours.
func numbers() []uint64 {
	l := []uint64{0, 1, 5, 300, math.MaxUint64, math.MaxUint64 - 1}
	for shift := range 64 {
		l = append(l, 1<<shift-1, 1<<shift, 1<<shift+1)
	}
	return l
}

// roomy is s in a slice with filled room behind its length; whole shows that room too.
func roomy(s string) (b, whole []byte) {
	whole = append([]byte(s), "................................"...)
	return whole[:len(s)], whole
}

// untouched hands b of s, with room behind it, to call, and checks that
// neither b nor the room changed, and that what call told shares no memory with b.
func untouched(t *testing.T, name, s string, call func(b []byte) []byte) {
	t.Helper()
	b, whole := roomy(s)
	before := bytes.Clone(whole)
	told := call(b)
	if !bytes.Equal(whole, before) {
		t.Errorf("%s: what was handed in became %q", name, whole)
	}
	was := bytes.Clone(told)
	for i := range whole {
		whole[i] ^= 0xff
	}
	if !bytes.Equal(told, was) {
		t.Errorf("%s: the answer shares memory with what was handed in", name)
	}
	before = bytes.Clone(whole)
	told = told[:cap(told)]
	for i := range told {
		told[i] ^= 0xff
	}
	if !bytes.Equal(whole, before) {
		t.Errorf("%s: writing to the answer changed what was handed in", name)
	}
}

// taken takes a number as an int.
func taken(b []byte) (int, int, api.Errno) {
	n, k, e := Take(b)
	return int(n), k, e
}

// says is a function that tells 7 and so many bytes, whatever it is handed.
func says(k int, e api.Errno) func([]byte) (int, int, api.Errno) {
	return func([]byte) (int, int, api.Errno) { return 7, k, e }
}

func TestP2_1Put(t *testing.T) {
	for _, c := range []struct {
		b    string
		n    uint64
		want string
	}{
		{"", 0, "00"}, {"", 1, "01"}, {"", 127, "7f"}, {"", 128, "8001"}, {"", 300, "ac02"},
		{"", 16383, "ff7f"}, {"", 16384, "808001"}, {"\x09\x80", 300, "0980ac02"},
		{"", 1 << 63, "80808080808080808001"}, {"", 1<<63 - 1, "ffffffffffffffff7f"},
		{"", math.MaxUint64, "ffffffffffffffffff01"},
	} {
		if got := fmt.Sprintf("%x", Put([]byte(c.b), c.n)); got != c.want {
			t.Errorf("Put(%x, %d) is %s, not %s", c.b, c.n, got, c.want)
		}
	}
	for _, n := range numbers() {
		if got, want := Put(nil, n), binary.AppendUvarint(nil, n); !bytes.Equal(got, want) {
			t.Errorf("Put(nil, %d) is %x, not %x", n, got, want)
		}
	}
}

func TestP2_1Take(t *testing.T) {
	ff := bytes.Repeat([]byte{0xff}, 9)
	long := bytes.Repeat([]byte{0x80}, 100000)
	for _, c := range []struct {
		b    []byte
		n    uint64
		k    int
		want api.Errno
	}{
		{nil, 0, 0, api.ErrShort},
		{[]byte{}, 0, 0, api.ErrShort},
		{[]byte{0}, 0, 1, api.OK},
		{[]byte{0, 0}, 0, 1, api.OK},
		{[]byte{5, 0x80}, 5, 1, api.OK},
		{[]byte{0x7f, 0xff}, 127, 1, api.OK},
		{[]byte{0xac, 2, 0}, 300, 2, api.OK},
		{[]byte{0x80, 0x80, 1}, 16384, 3, api.OK},
		{append(slices.Clone(ff), 1), math.MaxUint64, 10, api.OK},
		{append(slices.Clone(ff), 1, 0, 9), math.MaxUint64, 10, api.OK},
		{append(slices.Clone(long[:9]), 1), 1 << 63, 10, api.OK},
		{[]byte{0x80}, 0, 0, api.ErrShort},
		{[]byte{0xff, 0x80}, 0, 0, api.ErrShort},
		{ff, 0, 0, api.ErrShort},
		{long[:10], 0, 0, api.ErrShort},
		{long[:11], 0, 0, api.ErrShort},
		{long, 0, 0, api.ErrShort},
		{append(slices.Clone(ff), 0xff), 0, 0, api.ErrShort},
		{[]byte{0x80, 0}, 0, 0, api.ErrForm},
		{[]byte{0x85, 0, 1}, 0, 0, api.ErrForm},
		{[]byte{0x80, 0x80, 0}, 0, 0, api.ErrForm},
		{append(slices.Clone(ff), 0), 0, 0, api.ErrForm},
		{append(slices.Clone(ff), 2), 0, 0, api.ErrForm},
		{append(slices.Clone(ff), 3), 0, 0, api.ErrForm},
		{append(slices.Clone(ff), 0x7f), 0, 0, api.ErrForm},
		{append(slices.Clone(long[:9]), 0x40), 0, 0, api.ErrForm},
		{append(slices.Clone(long[:10]), 1), 0, 0, api.ErrForm},
		{append(slices.Clone(long[:10]), 0), 0, 0, api.ErrForm},
		{append(slices.Clone(ff), 0x81, 0), 0, 0, api.ErrForm},
		{append(slices.Clone(long), 1), 0, 0, api.ErrForm},
	} {
		n, k, e := Take(c.b)
		if n != c.n || k != c.k || e != c.want {
			t.Errorf("Take(%x) is %d, %d, %d, not %d, %d, %d", c.b[:min(len(c.b), 20)], n, k, e, c.n, c.k, c.want)
		}
		m, k, e := TakeInt(c.b)
		if e != c.want || k != c.k || e != api.OK && m != 0 {
			t.Errorf("TakeInt(%x) is %d, %d, %d, not .., %d, %d", c.b[:min(len(c.b), 20)], m, k, e, c.k, c.want)
		}
	}
	b, _ := roomy("\x80")
	b[:2][1] = 1
	if _, _, e := Take(b); e != api.ErrShort {
		t.Error("Take reads behind the length:", e)
	}
}

func TestP2_2Ints(t *testing.T) {
	for _, c := range []struct {
		n    int64
		want string
	}{
		{0, "00"}, {-1, "01"}, {1, "02"}, {-2, "03"}, {2, "04"}, {63, "7e"}, {-64, "7f"}, {64, "8001"}, {-65, "8101"},
		{math.MaxInt64, "feffffffffffffffff01"}, {math.MinInt64, "ffffffffffffffffff01"},
		{math.MinInt64 + 1, "fdffffffffffffffff01"},
	} {
		b := PutInt([]byte{9}, c.n)
		if got := fmt.Sprintf("%x", b); got != "09"+c.want {
			t.Errorf("PutInt(09, %d) is %s, not 09%s", c.n, got, c.want)
			continue
		}
		b = append(b, 0x80, 0)
		if m, k, e := TakeInt(b[1:]); m != c.n || k != len(b)-3 || e != api.OK {
			t.Errorf("TakeInt(%x) is %d, %d, %d, not %d", b[1:], m, k, e, c.n)
		}
	}
}

func TestP2_3Bytes(t *testing.T) {
	long := bytes.Repeat([]byte("ab"), 100)
	for _, c := range []struct{ b, s, want string }{
		{"", "", "\x00"}, {"x", "", "x\x00"}, {"", "abc", "\x03abc"}, {"x\x80", "abc", "x\x80\x03abc"},
		{"x", string(long), "x\xc8\x01" + string(long)},
	} {
		if got := PutBytes([]byte(c.b), []byte(c.s)); string(got) != c.want {
			t.Errorf("PutBytes(%q, %q) is %q", c.b, c.s, got)
		}
	}
	if got := PutBytes(nil, nil); string(got) != "\x00" {
		t.Errorf("PutBytes of nothing is %q", got)
	}
	huge := "\xff\xff\xff\xff\xff\xff\xff\xff\xff\x01"
	for _, c := range []struct {
		b    string
		most int
		s    string
		k    int
		want api.Errno
	}{
		{"\x03abc", 3, "abc", 4, api.OK},
		{"\x03abcd", 3, "abc", 4, api.OK},
		{"\x03abcd", math.MaxInt, "abc", 4, api.OK},
		{"\xc8\x01" + string(long) + "z", 200, string(long), 202, api.OK},
		{"\x00", 0, "", 1, api.OK},
		{"\x00abc", 9, "", 1, api.OK},
		{"\x03abcd", 2, "", 0, api.ErrLong},
		{"\x01a", 0, "", 0, api.ErrLong},
		{"\x03", 2, "", 0, api.ErrLong},
		{"\x00", -1, "", 0, api.ErrLong},
		{"\x03abc", math.MinInt, "", 0, api.ErrLong},
		{huge + "abc", math.MaxInt, "", 0, api.ErrLong},
		{huge, -1, "", 0, api.ErrLong},
		{"\x03ab", 3, "", 0, api.ErrShort},
		{"\x01", 9, "", 0, api.ErrShort},
		{"\xff\xff\xff\xff\xff\xff\xff\xff\x7fabc", math.MaxInt, "", 0, api.ErrShort},
		{"\xfe\xff\xff\xff\xff\xff\xff\xff\x7fabc", math.MaxInt, "", 0, api.ErrShort},
		{"", 9, "", 0, api.ErrShort},
		{"", -1, "", 0, api.ErrShort},
		{"\x80", -1, "", 0, api.ErrShort},
		{"\x80\x00", 9, "", 0, api.ErrForm},
		{"\x80\x00", -1, "", 0, api.ErrForm},
		{huge[:9] + "\x02abc", 9, "", 0, api.ErrForm},
	} {
		s, k, e := TakeBytes([]byte(c.b), c.most)
		if string(s) != c.s || k != c.k || e != c.want || e != api.OK && s != nil {
			t.Errorf("TakeBytes(%q, %d) is %q, %d, %d, not %q, %d, %d", c.b, c.most, s, k, e, c.s, c.k, c.want)
		}
	}
	b, _ := roomy("\x03ab")
	if _, _, e := TakeBytes(b, 9); e != api.ErrShort {
		t.Error("TakeBytes reads behind the length:", e)
	}
}

func TestP2_4PutList(t *testing.T) {
	for _, c := range []struct {
		b    string
		l    []uint64
		want string
	}{
		{"", nil, "00"}, {"\x01", []uint64{}, "0100"}, {"\x01", []uint64{5, 300}, "010205ac02"},
	} {
		if got := fmt.Sprintf("%x", PutList([]byte(c.b), c.l, Put)); got != c.want {
			t.Errorf("PutList(%x, %d) is %s, not %s", c.b, c.l, got, c.want)
		}
	}
	if got := PutList(nil, make([]uint64, 200), Put); fmt.Sprintf("%x", got[:4]) != "c8010000" || len(got) != 202 {
		t.Errorf("PutList of 200 is %x", got)
	}
	// What there is so far is handed on whole, from element to element.
	var seen []string
	wide := func(b []byte, s string) []byte {
		seen = append(seen, string(b))
		return PutBytes(b, []byte(s))
	}
	got := PutList([]byte("x"), []string{"ab", "", "c"}, wide)
	if string(got) != "x\x03\x02ab\x00\x01c" || !slices.Equal(seen, []string{"x\x03", "x\x03\x02ab", "x\x03\x02ab\x00"}) {
		t.Errorf("PutList of texts is %q; f was handed %q", got, seen)
	}
	forget := func([]byte, int) []byte { return nil }
	if got := PutList([]byte("x"), []int{1, 2}, forget); len(got) != 0 {
		t.Errorf("PutList by a function that forgets is %q", got)
	}
	if got := PutList([]byte("xy"), []int{3}, nil); string(got) != "xy" {
		t.Errorf("PutList by nil is %q", got)
	}
	if got := PutList[int](nil, nil, nil); len(got) != 0 {
		t.Errorf("PutList of nothing by nil is %q", got)
	}
}

func TestP2_4TakeList(t *testing.T) {
	huge := "\xff\xff\xff\xff\xff\xff\xff\xff\xff\x01"
	for _, c := range []struct {
		b    string
		most int
		f    func([]byte) (int, int, api.Errno)
		l    []int
		k    int
		want api.Errno
	}{
		{"\x02\x05\x07", 9, taken, []int{5, 7}, 3, api.OK},
		{"\x02\x05\x07", 2, taken, []int{5, 7}, 3, api.OK},
		{"\x02\x05\x07z", math.MaxInt, taken, []int{5, 7}, 3, api.OK},
		{"\x02\xac\x02\x07z", 9, taken, []int{300, 7}, 4, api.OK},
		{"\x02abcdefg", 9, says(3, api.OK), []int{7, 7}, 7, api.OK},
		{"\x02abcdef", 9, says(3, api.OK), []int{7, 7}, 7, api.OK},
		{"\x00", 0, taken, nil, 1, api.OK},
		{"\x00\x80\x00", 9, taken, nil, 1, api.OK},
		{"\x02\x05\x07", 1, taken, nil, 0, api.ErrMany},
		{"\x01\x05", 0, taken, nil, 0, api.ErrMany},
		{"\x02\x80\x00", 1, taken, nil, 0, api.ErrMany},
		{"\x00", -1, taken, nil, 0, api.ErrMany},
		{"\x02\x05\x07", math.MinInt, taken, nil, 0, api.ErrMany},
		{huge + "\x05", math.MaxInt, taken, nil, 0, api.ErrMany},
		{"", 9, taken, nil, 0, api.ErrShort},
		{"", -1, taken, nil, 0, api.ErrShort},
		{"\x80", -1, taken, nil, 0, api.ErrShort},
		{"\x80\x00", -1, taken, nil, 0, api.ErrForm},
		{huge[:9] + "\x02", 9, taken, nil, 0, api.ErrForm},
		{"\x02\x05", 9, taken, nil, 0, api.ErrShort},
		{"\x02\x05\x80", 9, taken, nil, 0, api.ErrShort},
		{"\x02\x05\x80\x00", 9, taken, nil, 0, api.ErrForm},
		{"\x02\x80\x00\x80", 9, taken, nil, 0, api.ErrForm},
		{"\xff\xff\xff\xff\xff\xff\xff\xff\x7f\x05\x06", math.MaxInt, taken, nil, 0, api.ErrShort},
		{"\xff\xff\xff\xff\xff\xff\xff\xff\x7f\x05\x06", math.MaxInt, says(1, api.OK), nil, 0, api.ErrForm},
		{"\x02ab", 9, says(0, api.OK), nil, 0, api.ErrForm},
		{"\x02ab", 9, says(-1, api.OK), nil, 0, api.ErrForm},
		{"\x02ab", 9, says(math.MinInt, api.OK), nil, 0, api.ErrForm},
		{"\x02ab", 9, says(3, api.OK), nil, 0, api.ErrForm},
		{"\x02ab", 9, says(2, api.OK), nil, 0, api.ErrForm},
		{"\x02ab", 9, says(math.MaxInt, api.OK), nil, 0, api.ErrForm},
		{"\x02ab", 9, says(0, api.ErrPos), nil, 0, api.ErrPos},
		{"\x02ab", 9, says(1, api.ErrPos), nil, 0, api.ErrPos},
		{"\x02ab", 9, says(99, -3), nil, 0, -3},
		{"\x00", 9, says(0, api.ErrPos), nil, 1, api.OK},
		{"\x02\x05\x07", 9, nil, nil, 0, api.ErrArg},
		{"", -1, nil, nil, 0, api.ErrArg},
		{"\x80\x00", 9, nil, nil, 0, api.ErrArg},
	} {
		l, k, e := TakeList([]byte(c.b), c.most, c.f)
		if !slices.Equal(l, c.l) || k != c.k || e != c.want || e != api.OK && l != nil {
			t.Errorf("TakeList(%q, %d) is %d, %d, %d, not %d, %d, %d", c.b, c.most, l, k, e, c.l, c.k, c.want)
		}
	}
	// f is handed what is left, and is not asked again once it refused.
	var seen []string
	watch := func(b []byte) (string, int, api.Errno) {
		seen = append(seen, string(b))
		s, k, e := TakeBytes(b, 2)
		return string(s), k, e
	}
	l, k, e := TakeList([]byte("\x03\x02ab\x00\x01cz"), 3, watch)
	if !slices.Equal(l, []string{"ab", "", "c"}) || k != 7 || e != api.OK || !slices.Equal(seen, []string{"\x02ab\x00\x01cz", "\x00\x01cz", "\x01cz"}) {
		t.Errorf("TakeList of texts is %q, %d, %d; f was handed %q", l, k, e, seen)
	}
	seen = nil
	if _, _, e := TakeList([]byte("\x03\x01a\x03bcd\x01c"), 3, watch); e != api.ErrLong || len(seen) != 2 {
		t.Errorf("TakeList goes on: %d, %q", e, seen)
	}
}

func TestP2_5Whole(t *testing.T) {
	for _, c := range []struct {
		b    string
		f    func([]byte) (int, int, api.Errno)
		n    int
		want api.Errno
	}{
		{"\x05", taken, 5, api.OK},
		{"\xac\x02", taken, 300, api.OK},
		{"", says(0, api.OK), 7, api.OK},
		{"ab", says(2, api.OK), 7, api.OK},
		{"\x05\x05", taken, 0, api.ErrForm},
		{"", taken, 0, api.ErrShort},
		{"\x80\x00", taken, 0, api.ErrForm},
		{"\x80", taken, 0, api.ErrShort},
		{"ab", says(1, api.OK), 0, api.ErrForm},
		{"ab", says(3, api.OK), 0, api.ErrForm},
		{"ab", says(math.MaxInt, api.OK), 0, api.ErrForm},
		{"ab", says(0, api.OK), 0, api.ErrForm},
		{"ab", says(-1, api.OK), 0, api.ErrForm},
		{"", says(-1, api.OK), 0, api.ErrForm},
		{"", says(1, api.OK), 0, api.ErrForm},
		{"ab", says(2, api.ErrPos), 0, api.ErrPos},
		{"ab", says(3, api.ErrPos), 0, api.ErrPos},
		{"ab", nil, 0, api.ErrArg},
		{"", nil, 0, api.ErrArg},
	} {
		n, e := Whole([]byte(c.b), c.f)
		if n != c.n || e != c.want {
			t.Errorf("Whole(%q) is %d, %d, not %d, %d", c.b, n, e, c.n, c.want)
		}
	}
	if n, e := Whole(nil, says(0, api.OK)); n != 7 || e != api.OK {
		t.Error("Whole(nil) is", n, e)
	}
	list := func(b []byte) ([]uint64, int, api.Errno) { return TakeList(b, 2, Take) }
	if l, e := Whole([]byte("\x02\x05\x07"), list); !slices.Equal(l, []uint64{5, 7}) || e != api.OK {
		t.Error("Whole of a list is", l, e)
	}
	if l, e := Whole([]byte("\x02\x05\x07\x00"), list); l != nil || e != api.ErrForm {
		t.Error("Whole of a list and more is", l, e)
	}
}

func TestP2_6Numbers(t *testing.T) {
	for _, n := range numbers() {
		b := Put(nil, n)
		for _, behind := range []string{"", "\x00", "\x80", "\x80\x00", "\xff\xff\xff\xff\xff\xff\xff\xff\xff\xff"} {
			if m, k, e := Take(append(bytes.Clone(b), behind...)); m != n || k != len(b) || e != api.OK {
				t.Errorf("%d with %x behind it comes back as %d, %d, %d", n, behind, m, k, e)
			}
		}
		for i := range b {
			if m, k, e := Take(b[:i]); m != 0 || k != 0 || e != api.ErrShort {
				t.Errorf("%d cut off at %d is %d, %d, %d", n, i, m, k, e)
			}
		}
		for _, s := range []int64{int64(n), -int64(n)} {
			if m, k, e := TakeInt(PutInt(nil, s)); m != s || k != len(PutInt(nil, s)) || e != api.OK {
				t.Errorf("%d comes back as %d, %d, %d", s, m, k, e)
			}
		}
	}
}

// TestP2_6OneForm: whichever bytes are taken, put again they are the same.
func TestP2_6OneForm(t *testing.T) {
	some := []byte{0, 1, 2, 3, 0x7f, 0x80, 0x81, 0xff}
	var b []byte
	var grow func(deep int)
	grow = func(deep int) {
		again(t, b)
		if deep == 0 {
			return
		}
		for _, c := range some {
			b = append(b, c)
			grow(deep - 1)
			b = b[:len(b)-1]
		}
	}
	grow(5)
	for _, ahead := range []byte{0x80, 0xff} {
		for n := 6; n < 12; n++ {
			for last := range 256 {
				again(t, append(bytes.Repeat([]byte{ahead}, n), byte(last)))
			}
		}
	}
}

// again takes b in each way, puts back what it got, and holds it against b.
func again(t *testing.T, b []byte) {
	t.Helper()
	if n, k, e := Take(b); e == api.OK && !bytes.Equal(Put(nil, n), b[:k]) {
		t.Errorf("number of %x", b)
	}
	if n, k, e := TakeInt(b); e == api.OK && !bytes.Equal(PutInt(nil, n), b[:k]) {
		t.Errorf("int of %x", b)
	}
	if s, k, e := TakeBytes(b, 9); e == api.OK && !bytes.Equal(PutBytes(nil, s), b[:k]) {
		t.Errorf("bytes of %x", b)
	}
	if l, k, e := TakeList(b, 9, TakeInt); e == api.OK && !bytes.Equal(PutList(nil, l, PutInt), b[:k]) {
		t.Errorf("list of %x", b)
	}
	if n, e := Whole(b, Take); e == api.OK && !bytes.Equal(Put(nil, n), b) {
		t.Errorf("whole of %x", b)
	}
}

func TestR2Memory(t *testing.T) {
	untouched(t, "Put", "abc", func(b []byte) []byte { return Put(b, math.MaxUint64) })
	untouched(t, "PutInt", "abc", func(b []byte) []byte { return PutInt(b, -1) })
	untouched(t, "PutBytes", "abc", func(b []byte) []byte { return PutBytes(b, []byte("def")) })
	untouched(t, "PutBytes, the bytes", "abc", func(b []byte) []byte { return PutBytes(nil, b) })
	untouched(t, "PutBytes, both", "abc", func(b []byte) []byte { return PutBytes(b, b) })
	untouched(t, "PutList", "abc", func(b []byte) []byte { return PutList(b, []uint64{5, 300}, Put) })
	untouched(t, "PutList of none", "abc", func(b []byte) []byte { return PutList(b, nil, Put) })
	untouched(t, "PutList by nil", "abc", func(b []byte) []byte { return PutList(b, []int{5}, nil) })
	untouched(t, "PutList in place", "abc", func(b []byte) []byte {
		return PutList(b, []byte("xy"), func(b []byte, c byte) []byte { return append(b, c) })
	})
	untouched(t, "PutList that tells another's", "abc", func(b []byte) []byte {
		return PutList(nil, []int{1}, func([]byte, int) []byte { return b })
	})
	untouched(t, "TakeBytes", "\x02abc", func(b []byte) []byte { s, _, _ := TakeBytes(b, 9); return s })
	untouched(t, "TakeBytes of none", "\x00abc", func(b []byte) []byte { s, _, _ := TakeBytes(b, 9); return s })
	widen := func(b []byte) (byte, int, api.Errno) {
		wide := append(b, "zzz"...)
		return wide[0], 1, api.OK
	}
	untouched(t, "TakeList", "\x03abc", func(b []byte) []byte { l, _, _ := TakeList(b, 9, widen); return l })
	untouched(t, "Whole", "a", func(b []byte) []byte { c, _ := Whole(b, widen); return []byte{c} })
	l := []uint64{5, 300, 8}
	PutList(nil, l[:2], Put)
	if !slices.Equal(l, []uint64{5, 300, 8}) {
		t.Error("PutList changed the list:", l)
	}
	// What f kept of its work is not the answer's memory.
	var kept []byte
	got := PutList(nil, []byte("xy"), func(b []byte, c byte) []byte { kept = append(b, c); return kept })
	kept[0] = 'z'
	if string(got) != "\x02xy" {
		t.Errorf("PutList's answer is still f's: %q", got)
	}
	one, _, _ := TakeBytes([]byte("\x02ab"), 9)
	two, _, _ := TakeBytes([]byte("\x02ab"), 9)
	if one[0] = 'z'; string(two) != "ab" {
		t.Error("two answers share memory")
	}
}
