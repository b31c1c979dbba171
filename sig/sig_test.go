package sig

import (
	"bytes"
	"crypto/sha256"
	"encoding/binary"
	"fmt"
	"math"
	"slices"
	"testing"

	"assize/api"
)

// keys are keys of all kinds: also those that no replica has.
var keys = []int{0, 1, 2, 3, 4, 63, 255, 256, 257, 1 << 31, 1 << 32, 0x0102030405060708, math.MaxInt, -1, -2, -256, math.MinInt}

// messages are messages that differ, of the lengths at which a sum's blocks end.
func messages() [][]byte {
	l := [][]byte{nil, {0}, {4}, []byte("m"), []byte("n"), []byte("mm")}
	for _, n := range []int{46, 47, 54, 55, 56, 64, 1000} {
		l = append(l, bytes.Repeat([]byte("x"), n))
	}
	return l
}

// direct is the signature's sum, by the library.
func direct(key int, msg []byte) api.Digest {
	return sha256.Sum256(append(binary.BigEndian.AppendUint64([]byte{4}, uint64(key)), msg...))
}

// forged is a signature that Sign never tells.
func forged(key, n int) api.Sig {
	return api.Sig{Key: key, Of: sha256.Sum256(fmt.Append(nil, "forged ", n))}
}

func TestP5_1Sign(t *testing.T) {
	for _, key := range keys {
		for _, msg := range messages() {
			want := api.Sig{Key: key, Of: direct(key, msg)}
			if got := Sign(key, msg); got != want {
				t.Errorf("Sign(%d, %q) is %x, not %x", key, msg, got, want)
			}
		}
	}
	if Sign(1, nil) != Sign(1, []byte{}) {
		t.Error("nil and no byte differ")
	}
}

// TestP5_1SignBytes: what is summed, written out.
func TestP5_1SignBytes(t *testing.T) {
	for _, c := range []struct {
		key  int
		msg  string
		text string
	}{
		{0, "", "\x04\x00\x00\x00\x00\x00\x00\x00\x00"},
		{2, "m", "\x04\x00\x00\x00\x00\x00\x00\x00\x02m"},
		{256, "ab", "\x04\x00\x00\x00\x00\x00\x00\x01\x00ab"},
		{0x0102030405060708, "", "\x04\x01\x02\x03\x04\x05\x06\x07\x08"},
		{-1, "m", "\x04\xff\xff\xff\xff\xff\xff\xff\xffm"},
		{math.MinInt, "", "\x04\x80\x00\x00\x00\x00\x00\x00\x00"},
		{math.MaxInt, "", "\x04\x7f\xff\xff\xff\xff\xff\xff\xff"},
	} {
		if got := Sign(c.key, []byte(c.msg)); got.Key != c.key || got.Of != sha256.Sum256([]byte(c.text)) {
			t.Errorf("Sign(%d, %q) is %x", c.key, c.msg, got)
		}
	}
}

func TestP5_1Valid(t *testing.T) {
	m := []byte("m")
	for _, c := range []struct {
		key, n int
		want   bool
	}{
		{2, 4, true}, {4, 4, false}, {3, 4, true}, {0, 4, true}, {0, 1, true}, {1, 1, false}, {5, 4, false},
		{0, 0, false}, {1, 0, false}, {0, -1, false}, {-1, 4, false}, {-1, 0, false}, {-1, -1, false}, {-2, -1, false},
		{-1, math.MaxInt, false}, {math.MinInt, math.MaxInt, false}, {0, math.MinInt, false}, {math.MinInt, math.MinInt, false},
		{math.MaxInt - 1, math.MaxInt, true}, {math.MaxInt, math.MaxInt, false}, {1 << 32, 1<<32 + 1, true}, {1 << 32, 1, false},
	} {
		if got := Valid(Sign(c.key, m), m, c.n); got != c.want {
			t.Errorf("Valid(Sign(%d, m), m, %d) is %v", c.key, c.n, got)
		}
	}
}

func TestP5_1ValidWrong(t *testing.T) {
	m := []byte("m")
	s := Sign(2, m)
	for _, wrong := range []api.Sig{{}, {Key: 2}, {Key: 1, Of: s.Of}, {Key: 3, Of: s.Of}, {Key: 2, Of: Sign(1, m).Of}, {Key: 2, Of: sha256.Sum256(m)}, forged(2, 1)} {
		if Valid(wrong, m, 4) {
			t.Errorf("%x passes for a signature", wrong)
		}
	}
	for bit := range 8 * len(s.Of) {
		wrong := s
		wrong.Of[bit/8] ^= 1 << (bit % 8)
		if Valid(wrong, m, 4) {
			t.Errorf("with bit %d turned the signature still holds", bit)
		}
	}
	for _, msg := range [][]byte{nil, []byte("n"), []byte("mm"), []byte("m\x00"), []byte("\x00m"), []byte("M")} {
		if Valid(s, msg, 4) {
			t.Errorf("the signature of m passes for one of %q", msg)
		}
	}
}

func TestP5_2Ledger(t *testing.T) {
	l := New()
	if l == nil || l.Len() != 0 || l.Issued(api.Sig{}) || l.Issued(Sign(0, nil)) {
		t.Fatal("a new ledger is not empty")
	}
	// The zero signature, and those of which none is valid, are data as others are.
	all := []api.Sig{{}, {Key: 1}, {Key: -1}, forged(1, 1), forged(2, 1), forged(1, 2), {Key: math.MinInt}, {Key: math.MaxInt}, {Of: api.Digest{31: 1}}, {Of: api.Digest{1}}}
	for _, key := range keys {
		all = append(all, Sign(key, []byte("m")), Sign(key, []byte("n")))
	}
	for i, s := range all {
		if l.Issued(s) || l.Len() != i {
			t.Errorf("%x is there ahead of its time; %d are there, not %d", s, l.Len(), i)
		}
		if !l.Issue(s) {
			t.Errorf("%x is not new", s)
		}
		for j, other := range all {
			if l.Issued(other) != (j <= i) {
				t.Errorf("behind %d: Issued of %d is %v", i, j, j > i)
			}
		}
		if l.Issue(s) || l.Len() != i+1 || !l.Issued(s) {
			t.Errorf("%x again: Len is %d", s, l.Len())
		}
	}
	for _, s := range all {
		if l.Issue(s) || l.Len() != len(all) {
			t.Errorf("%x is new once more", s)
		}
	}
}

// TestP5_2Asked: to ask for a signature does not issue it.
func TestP5_2Asked(t *testing.T) {
	l, s := New(), Sign(1, []byte("m"))
	if l.Issued(s) || l.Derivable([]api.Sig{s}, nil) || !l.Derivable([]api.Sig{s}, []int{1}) || !Valid(s, []byte("m"), 4) {
		t.Error("a signature that nobody issued")
	}
	if l.Issued(s) || l.Len() != 0 || !l.Issue(s) || l.Len() != 1 {
		t.Error("a signature was issued by a question")
	}
}

func TestP5_2Many(t *testing.T) {
	l := New()
	const many = 20000
	for i := range many {
		if !l.Issue(forged(i%7, i)) {
			t.Fatalf("%d is not new", i)
		}
	}
	for i := range many {
		if !l.Issued(forged(i%7, i)) || l.Issued(forged(i%7+1, i)) {
			t.Fatalf("%d is not there, or at another key too", i)
		}
	}
	if l.Len() != many {
		t.Errorf("Len is %d", l.Len())
	}
}

func TestP5_2Nil(t *testing.T) {
	var l *Ledger
	s := Sign(1, []byte("m"))
	if l.Issue(s) || l.Issue(s) || l.Issued(s) || l.Len() != 0 {
		t.Error("a nil ledger keeps signatures")
	}
	if l.Derivable(nil, nil) || l.Derivable([]api.Sig{}, []int{1}) || l.Derivable([]api.Sig{s}, []int{1}) {
		t.Error("a nil ledger tells no zero value")
	}
}

// TestP5_2Declared: a ledger that was made without New is an empty one.
func TestP5_2Declared(t *testing.T) {
	var l Ledger
	s := Sign(1, []byte("m"))
	if l.Issued(s) || l.Len() != 0 || !l.Derivable(nil, nil) || l.Derivable([]api.Sig{s}, nil) {
		t.Error("a ledger that is just declared is not empty")
	}
	if !l.Issue(s) || l.Issue(s) || !l.Issued(s) || l.Len() != 1 {
		t.Error("a ledger that is just declared does not keep")
	}
}

func TestP5_3Derivable(t *testing.T) {
	m := []byte("m")
	a, b, c := Sign(0, m), Sign(1, m), Sign(2, m)
	l := New()
	l.Issue(c)
	for i, x := range []struct {
		all    []api.Sig
		faulty []int
		want   bool
	}{
		{nil, nil, true}, {[]api.Sig{}, []int{}, true}, {nil, []int{0, 1, 2}, true},
		{[]api.Sig{c}, nil, true}, {[]api.Sig{c, c}, nil, true}, {[]api.Sig{a}, nil, false}, {[]api.Sig{a}, []int{0}, true},
		{[]api.Sig{c, a}, []int{0}, true}, {[]api.Sig{a, c}, []int{0}, true}, {[]api.Sig{a, c}, []int{1}, false},
		{[]api.Sig{c, a, b}, []int{0}, false}, {[]api.Sig{b, c, a}, []int{0}, false}, {[]api.Sig{a, b, c}, []int{0}, false}, {[]api.Sig{c, a, b}, []int{1, 0}, true},
		{[]api.Sig{c, c, c, b}, []int{0}, false}, {[]api.Sig{b, c, c, c}, []int{0}, false}, {[]api.Sig{c, c}, []int{0}, true},
		// The faulty may show whatever bears their keys.
		{[]api.Sig{b, {Key: 1}, forged(1, 1)}, []int{5, 1}, true}, {[]api.Sig{{Key: 2}}, []int{2}, true}, {[]api.Sig{forged(-7, 1)}, []int{-7}, true},
		// Another's, with what was issued in part alone, nobody may.
		{[]api.Sig{{Key: 2}}, nil, false}, {[]api.Sig{{Key: 3, Of: c.Of}}, nil, false}, {[]api.Sig{{Key: 3, Of: c.Of}}, []int{2}, false}, {[]api.Sig{Sign(2, []byte("n"))}, []int{0, 1, 3}, false},
		{[]api.Sig{{}}, nil, false}, {[]api.Sig{{}}, []int{}, false}, {[]api.Sig{{}}, []int{1, 2}, false}, {[]api.Sig{{}}, []int{0}, true},
		{[]api.Sig{a}, []int{0, 0, 0}, true}, {[]api.Sig{a}, []int{1, 1}, false}, {[]api.Sig{Sign(-1, m)}, []int{1, math.MaxInt}, false}, {[]api.Sig{Sign(math.MinInt, m)}, []int{math.MinInt}, true},
	} {
		if got := l.Derivable(x.all, x.faulty); got != x.want {
			t.Errorf("%d: Derivable(%x, %d) is %v", i, x.all, x.faulty, got)
		}
	}
	if l.Len() != 1 || l.Issued(a) || l.Issued(b) {
		t.Error("what was shown is issued now")
	}
	l.Issue(b)
	if !l.Derivable([]api.Sig{c, a, b}, []int{0}) {
		t.Error("what was issued is not derivable")
	}
}

// TestP5_3Each: each of many must be issued or a faulty one's, wherever it stands.
func TestP5_3Each(t *testing.T) {
	const n = 40
	m := []byte("m")
	var all []api.Sig
	for key := range n {
		all = append(all, Sign(key, m))
	}
	for lacks := range n {
		l := New()
		var faulty []int
		for key := range n {
			if key == lacks {
				continue
			}
			if key%3 == 0 {
				faulty = append(faulty, key)
			} else {
				l.Issue(all[key])
			}
		}
		if l.Derivable(all, faulty) {
			t.Errorf("%d is derivable from nothing", lacks)
		}
		if !l.Derivable(slices.Delete(slices.Clone(all), lacks, lacks+1), faulty) || !l.Derivable(all, append(faulty, lacks)) {
			t.Errorf("without %d not all are derivable", lacks)
		}
		l.Issue(all[lacks])
		if !l.Derivable(all, faulty) {
			t.Errorf("with %d issued not all are derivable", lacks)
		}
	}
}

// TestP5_3Long: two long lists are not gone over for each other.
func TestP5_3Long(t *testing.T) {
	const many = 200000
	var all []api.Sig
	var faulty []int
	for i := range many {
		all = append(all, api.Sig{Key: many - i})
		faulty = append(faulty, i+1)
	}
	l := New()
	if !l.Derivable(all, faulty) || l.Derivable(append(all, api.Sig{}), faulty) {
		t.Error("long lists")
	}
}

func TestP5_4Follows(t *testing.T) {
	const n = 7
	msgs := messages()
	seen := map[api.Sig]int{}
	sums := map[api.Digest]int{}
	for key := range n {
		for i, msg := range msgs {
			s := Sign(key, msg)
			seen[s]++
			sums[s.Of]++
			for most := range n + 2 {
				if Valid(s, msg, most) != (key < most) {
					t.Errorf("Valid(Sign(%d, %q), .., %d) is %v", key, msg, most, key >= most)
				}
			}
			for j, other := range msgs {
				if Valid(s, other, n) != (i == j) {
					t.Errorf("the signature of %q passes for one of %q: %v", msg, other, i != j)
				}
			}
			for other := range n {
				if Valid(api.Sig{Key: other, Of: s.Of}, msg, n) != (other == key) {
					t.Errorf("the signature of %d passes for one of %d: %v", key, other, other != key)
				}
			}
		}
	}
	if len(seen) != n*len(msgs) || len(sums) != n*len(msgs) {
		t.Error("two keys or messages have one signature")
	}
}

// TestP5_4Border: a byte does not move from the key into the message.
func TestP5_4Border(t *testing.T) {
	if Sign(1, []byte{0}).Of == Sign(256, nil).Of || Sign(0, []byte{1}).Of == Sign(1, nil).Of || Sign(4, nil).Of == Sign(0, []byte{4}).Of {
		t.Error("key and message run into each other")
	}
}

// TestR2Handed: nothing of what is handed in is changed, kept, or read behind its length.
func TestR2Handed(t *testing.T) {
	msg := []byte("message and more")
	before := slices.Clone(msg)
	s := Sign(1, msg[:7])
	if s != Sign(1, []byte("message")) || !Valid(s, msg[:7], 4) || !bytes.Equal(msg, before) {
		t.Error("what lies behind a message's length makes a difference, or was changed")
	}
	a, b := Sign(1, msg), Sign(2, msg)
	all, faulty := []api.Sig{a, b, a}, []int{2, 1, 9}
	l := New()
	l.Issue(a)
	if l.Derivable(all[:2], faulty[:0]) || !l.Derivable(all[:2], faulty[:1]) || !l.Derivable(all[:1], nil) {
		t.Error("what lies behind a list's length makes a difference")
	}
	if !slices.Equal(all, []api.Sig{a, b, a}) || !slices.Equal(faulty, []int{2, 1, 9}) {
		t.Error("a list was changed")
	}
	all[0], faulty[0] = api.Sig{}, 0
	if l.Len() != 1 || !l.Issued(a) || l.Derivable([]api.Sig{b}, nil) {
		t.Error("a list was kept")
	}
	clear(msg)
	if s != Sign(1, []byte("message")) || !l.Issued(a) {
		t.Error("a message was kept")
	}
}

func TestR2Apart(t *testing.T) {
	one, two := New(), New()
	a, b := Sign(1, nil), Sign(2, nil)
	one.Issue(a)
	two.Issue(b)
	if one.Issued(b) || two.Issued(a) || one.Len() != 1 || two.Len() != 1 || !New().Issue(a) {
		t.Error("two ledgers mix")
	}
}
