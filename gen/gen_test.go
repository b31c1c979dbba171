package gen

import (
	"fmt"
	"iter"
	"math"
	"slices"
	"strconv"
	"testing"
)

func odd(n int) bool { return n%2 != 0 }

func all(int) bool { return true }

func double(n int) int { return 2 * n }

// many is more than any sequence of these tests has.
const many = 1000

// list goes over s as a caller's own loop does, not by Collect.
func list[T any](s iter.Seq[T]) []T {
	var l []T
	for x := range s {
		l = append(l, x)
	}
	return l
}

// watched is 0, 1, .. below n, and counts how many were asked for.
func watched(n int, asked *int) iter.Seq[int] {
	return func(yield func(int) bool) {
		for i := range n {
			*asked++
			if !yield(i) {
				return
			}
		}
	}
}

// stubborn is 0, 1, .. below n, and goes on when yield says false.
func stubborn(n int) iter.Seq[int] {
	return func(yield func(int) bool) {
		for i := range n {
			yield(i)
		}
	}
}

// same checks that s tells want, twice over, and stops as soon as it is told to, at each place.
func same[T comparable](t *testing.T, name string, s iter.Seq[T], want ...T) {
	t.Helper()
	if s == nil {
		t.Errorf("%s: a nil sequence", name)
		return
	}
	for range 2 {
		if got := list(s); !slices.Equal(got, want) {
			t.Errorf("%s: got %v, want %v", name, got, want)
		}
	}
	for stop := 1; stop <= len(want); stop++ {
		var got []T
		s(func(x T) bool {
			got = append(got, x)
			return len(got) < stop
		})
		if !slices.Equal(got, want[:stop]) {
			t.Errorf("%s, stopped at %d: got %v", name, stop, got)
		}
	}
	s(nil)
}

// P1.1

func TestOf(t *testing.T) {
	same(t, "of three", Of([]string{"b", "a", "b"}), "b", "a", "b")
	same(t, "of none", Of([]int{}))
	same(t, "of nil", Of[int](nil))
}

func TestOfTellsTheListAsItWas(t *testing.T) {
	room := []int{1, 2, 3, 4}
	l := room[:2]
	s := Of(l)
	l[0] = 9
	_ = append(l, 8)
	same(t, "of a list that was changed", s, 1, 2)
	if !slices.Equal(room, []int{9, 2, 8, 4}) {
		t.Error("the list was changed", room)
	}
}

func TestCount(t *testing.T) {
	same(t, "count 3", Count(3), 0, 1, 2)
	same(t, "count 1", Count(1), 0)
	same(t, "count 0", Count(0))
	same(t, "count -1", Count(-1))
	same(t, "count lowest", Count(math.MinInt))
	same(t, "count highest", Take(Count(math.MaxInt), 2), 0, 1)
}

func TestCollect(t *testing.T) {
	for _, c := range []struct{ most, want int }{{math.MinInt, 0}, {-1, 0}, {0, 0}, {1, 1}, {4, 4}, {5, 5}, {6, 5}, {math.MaxInt, 5}} {
		asked := 0
		got := Collect(watched(5, &asked), c.most)
		if !slices.Equal(got, list(Count(c.want))) || asked != c.want {
			t.Errorf("most %d: got %v, asked for %d", c.most, got, asked)
		}
	}
	if l := Collect[int](nil, many); len(l) != 0 {
		t.Error("of nil", l)
	}
}

func TestCollectTellsNewMemory(t *testing.T) {
	s := Of([]int{1, 2})
	Collect(s, many)[0] = 9
	same(t, "behind a changed answer", s, 1, 2)
}

// P1.2

func TestMap(t *testing.T) {
	same(t, "map", Map(Count(3), strconv.Itoa), "0", "1", "2")
	same(t, "map of none", Map(Count(0), double))
	same(t, "map of nil", Map(nil, double))
	same(t, "map by nil", Map[int, string](Count(3), nil))
	same(t, "map of nil by nil", Map[int, int](nil, nil))
	same(t, "the document's example", Take(Map(Count(9), double), 3), 0, 2, 4)
}

func TestMapCallsOnlyForWhatIsTold(t *testing.T) {
	calls := 0
	s := Map(Count(9), func(n int) int { calls++; return n })
	if calls != 0 {
		t.Error("called ahead of time", calls)
	}
	Collect(s, 4)
	if calls != 4 {
		t.Error("calls", calls)
	}
}

func TestKeep(t *testing.T) {
	same(t, "keep", Keep(Count(6), odd), 1, 3, 5)
	same(t, "keep all", Keep(Count(2), all), 0, 1)
	same(t, "keep none", Keep(Count(6), func(int) bool { return false }))
	same(t, "keep of nil", Keep(nil, odd))
	same(t, "keep by nil", Keep(Count(3), nil))
}

func TestTakeAndDrop(t *testing.T) {
	for n, want := range map[int]int{math.MinInt: 0, -1: 0, 0: 0, 1: 1, 3: 3, 4: 4, 5: 4, math.MaxInt: 4} {
		whole := []int{5, 6, 7, 8}
		same(t, fmt.Sprint("take ", n), Take(Of(whole), n), whole[:want]...)
		same(t, fmt.Sprint("drop ", n), Drop(Of(whole), n), whole[want:]...)
		same(t, fmt.Sprint("take of nil ", n), Take[int](nil, n))
		same(t, fmt.Sprint("drop of nil ", n), Drop[int](nil, n))
	}
}

func TestTakeAsksForNoMore(t *testing.T) {
	for n, want := range map[int]int{-1: 0, 0: 0, 1: 1, 4: 4, 9: 9, 10: 9} {
		asked := 0
		list(Take(watched(9, &asked), n))
		if asked != want {
			t.Errorf("take %d asked for %d", n, asked)
		}
	}
}

func TestChain(t *testing.T) {
	same(t, "chain", Chain(Count(2), Of([]int{7}), Count(1)), 0, 1, 7, 0)
	same(t, "chain of one", Chain(Count(2)), 0, 1)
	same(t, "chain of nothing", Chain[int]())
	same(t, "chain with nil and empty ones", Chain(nil, Count(1), nil, Count(0), Count(1), nil), 0, 0)
	same(t, "chain of nil", Chain[int](nil))
}

func TestChainTellsTheListAsItWas(t *testing.T) {
	l := []iter.Seq[int]{Count(1), Count(2)}
	s := Chain(l...)
	l[0] = nil
	same(t, "chain of a list that was changed", s, 0, 0, 1)
}

func TestChainAsksForNoMore(t *testing.T) {
	first, second := 0, 0
	Collect(Chain(watched(3, &first), watched(3, &second)), 3)
	if first != 3 || second != 0 {
		t.Error("asked for", first, second)
	}
}

func TestEach(t *testing.T) {
	same(t, "each", Each(Count(4), Count), 0, 0, 1, 0, 1, 2)
	same(t, "each of nil", Each(nil, Count))
	same(t, "each by nil", Each[int, string](Count(4), nil))
	same(t, "each, some nil", Each(Count(4), func(n int) iter.Seq[int] {
		if odd(n) {
			return nil
		}
		return Of([]int{n, n})
	}), 0, 0, 2, 2)
}

func TestEachAsksForNoMore(t *testing.T) {
	outer, inner := 0, 0
	Collect(Each(watched(5, &outer), func(int) iter.Seq[int] { return watched(3, &inner) }), 4)
	if outer != 2 || inner != 4 {
		t.Error("asked for", outer, inner)
	}
}

// P1.3

func TestFold(t *testing.T) {
	join := func(a string, n int) string { return "(" + a + strconv.Itoa(n) + ")" }
	for i, c := range []struct{ got, want string }{
		{Fold(Count(3), "a", join), "(((a0)1)2)"},
		{Fold(Count(1), "a", join), "(a0)"},
		{Fold(Count(0), "a", join), "a"},
		{Fold(nil, "a", join), "a"},
		{Fold(Count(3), "a", nil), "a"},
		{Fold[int](nil, "a", nil), "a"},
	} {
		if c.got != c.want {
			t.Errorf("%d: got %s, want %s", i, c.got, c.want)
		}
	}
}

func TestFirst(t *testing.T) {
	over := func(least int) func(int) bool { return func(n int) bool { return n > least } }
	for i, c := range []struct {
		s    iter.Seq[int]
		f    func(int) bool
		want int
		ok   bool
	}{
		{Of([]int{3, 8, 6, 8}), over(5), 8, true},
		{Of([]int{3, 8}), over(-1), 3, true},
		{Of([]int{3, 8}), over(7), 8, true},
		{Of([]int{0, 8}), all, 0, true},
		{Of([]int{3, 8}), over(8), 0, false},
		{Count(0), all, 0, false},
		{nil, all, 0, false},
		{Of([]int{3}), nil, 0, false},
		{nil, nil, 0, false},
	} {
		if got, ok := First(c.s, c.f); got != c.want || ok != c.ok {
			t.Error(i, got, ok)
		}
	}
	asked := 0
	if First(watched(9, &asked), over(2)); asked != 4 {
		t.Error("asked for", asked)
	}
}

// P1.4

func TestSet(t *testing.T) {
	s := NewSet(3, 1, 3)
	same(t, "the document's example", s.All(), 1, 3)
	if s.Len() != 2 || !s.Has(3) || s.Has(2) {
		t.Error("made", s.Len())
	}
	if !s.Add(2) || s.Add(2) || s.Add(1) || s.Len() != 3 {
		t.Error("added", s.Len())
	}
	same(t, "behind Add", s.All(), 1, 2, 3)
	if !s.Remove(1) || s.Remove(1) || s.Remove(9) || s.Len() != 2 || s.Has(1) {
		t.Error("removed", s.Len())
	}
	same(t, "behind Remove", s.All(), 2, 3)
	if !s.Add(1) {
		t.Error("what was removed is new again")
	}
}

func TestSetRises(t *testing.T) {
	same(t, "numbers", NewSet(7, -2, math.MaxInt, 0, math.MinInt).All(), math.MinInt, -2, 0, 7, math.MaxInt)
	same(t, "texts", NewSet("b", "", "ab", "a", "B", "\xff", "é").All(), "", "B", "a", "ab", "b", "é", "\xff")
	same(t, "floats", NewSet(0.5, math.Inf(-1), -1.5).All(), math.Inf(-1), -1.5, 0.5)
	for n := range 100 {
		s := NewSet[int]()
		for i := range n {
			s.Add(i * 37 % 101)
		}
		if l := list(s.All()); len(l) != n || !slices.IsSorted(l) {
			t.Error(n, l)
		}
	}
}

func TestSetTellsItselfAsItWas(t *testing.T) {
	l := []int{2, 1}
	s := NewSet(l...)
	l[0] = 9
	was := s.All()
	s.Add(3)
	s.Remove(1)
	same(t, "ahead of the change", was, 1, 2)
	same(t, "behind the change", s.All(), 2, 3)
	for x := range s.All() {
		s.Remove(x)
		s.Add(x + 10)
	}
	same(t, "changed while gone over", s.All(), 12, 13)
}

func TestEmptySets(t *testing.T) {
	var zero Set[string]
	for _, s := range []*Set[string]{NewSet[string](), &zero} {
		same(t, "empty", s.All())
		if s.Len() != 0 || s.Has("") || s.Remove("") || !s.Add("") || !s.Has("") || s.Len() != 1 {
			t.Error("an empty set takes no element", s.Len())
		}
	}
	var none *Set[string]
	if none.Add("a") || none.Has("a") || none.Remove("a") || none.Len() != 0 {
		t.Error("a nil set")
	}
	same(t, "nil", none.All())
}

func TestSetsKeepToThemselves(t *testing.T) {
	a, b := NewSet(1), NewSet(1)
	a.Add(2)
	b.Remove(1)
	same(t, "the one", a.All(), 1, 2)
	same(t, "the other", b.All())
}

// P1.5

type entry struct {
	key   string
	value int
}

// entries is a table's All as one sequence, so that it can be held against others.
func entries(s iter.Seq2[string, int]) iter.Seq[entry] {
	return func(yield func(entry) bool) {
		if yield == nil {
			s(nil)
			return
		}
		s(func(k string, v int) bool { return yield(entry{k, v}) })
	}
}

func TestTable(t *testing.T) {
	x := NewTable[string, int]()
	x.Put("b", 1)
	x.Put("a", 2)
	x.Put("b", 3)
	x.Put("c", 0)
	if x.Len() != 3 {
		t.Error("put", x.Len())
	}
	same(t, "keys", x.Keys(), "a", "b", "c")
	same(t, "all", entries(x.All()), entry{"a", 2}, entry{"b", 3}, entry{"c", 0})
	for _, c := range []struct {
		key   string
		value int
		ok    bool
	}{{"a", 2, true}, {"b", 3, true}, {"c", 0, true}, {"d", 0, false}, {"", 0, false}} {
		if v, ok := x.Get(c.key); v != c.value || ok != c.ok {
			t.Error(c.key, v, ok)
		}
	}
	if x.Delete("d") || !x.Delete("b") || x.Delete("b") || x.Len() != 2 {
		t.Error("deleted", x.Len())
	}
	if v, ok := x.Get("b"); v != 0 || ok {
		t.Error("got what was deleted", v, ok)
	}
	same(t, "keys behind Delete", x.Keys(), "a", "c")
	same(t, "all behind Delete", entries(x.All()), entry{"a", 2}, entry{"c", 0})
}

func TestTableRises(t *testing.T) {
	x := NewTable[int, int]()
	for i := range 100 {
		x.Put(i*37%101-50, i)
	}
	keys := list(x.Keys())
	if len(keys) != 100 || !slices.IsSorted(keys) {
		t.Error("keys", keys)
	}
	for k, v := range x.All() {
		if k != keys[0] || k != v*37%101-50 {
			t.Error("all", k, v)
		}
		keys = keys[1:]
	}
	if len(keys) != 0 {
		t.Error("all tells too few, behind it", keys)
	}
}

func TestTableTellsItselfAsItWas(t *testing.T) {
	x := NewTable[string, int]()
	x.Put("a", 1)
	x.Put("b", 2)
	keys, pairs := x.Keys(), x.All()
	x.Put("a", 7)
	x.Put("c", 3)
	x.Delete("b")
	same(t, "keys ahead of the change", keys, "a", "b")
	same(t, "all ahead of the change", entries(pairs), entry{"a", 1}, entry{"b", 2})
	same(t, "keys behind the change", x.Keys(), "a", "c")
	same(t, "all behind the change", entries(x.All()), entry{"a", 7}, entry{"c", 3})
	for k, v := range x.All() {
		x.Delete(k)
		x.Put(k+k, v)
	}
	same(t, "changed while gone over", entries(x.All()), entry{"aa", 7}, entry{"cc", 3})
}

func TestEmptyTables(t *testing.T) {
	var zero Table[string, int]
	for _, x := range []*Table[string, int]{NewTable[string, int](), &zero} {
		same(t, "empty keys", x.Keys())
		same(t, "empty all", entries(x.All()))
		if _, ok := x.Get(""); ok || x.Delete("") || x.Len() != 0 {
			t.Error("empty", x.Len())
		}
		x.Put("", 4)
		if v, ok := x.Get(""); v != 4 || !ok || x.Len() != 1 {
			t.Error("an empty table takes no key", v, ok, x.Len())
		}
	}
	var none *Table[string, int]
	none.Put("a", 1)
	if v, ok := none.Get("a"); v != 0 || ok || none.Delete("a") || none.Len() != 0 {
		t.Error("a nil table")
	}
	same(t, "nil keys", none.Keys())
	same(t, "nil all", entries(none.All()))
}

func TestTablesKeepToThemselves(t *testing.T) {
	a, b := NewTable[string, int](), NewTable[string, int]()
	a.Put("a", 1)
	b.Put("a", 2)
	b.Delete("a")
	same(t, "the one", entries(a.All()), entry{"a", 1})
	same(t, "the other", entries(b.All()))
}

// P1.6

func TestTakeThenDropIsTheWhole(t *testing.T) {
	for size := range 5 {
		s := Map(Count(size), double)
		for n := -2; n <= size+2; n++ {
			same(t, fmt.Sprint("of ", size, " at ", n), Chain(Take(s, n), Drop(s, n)), list(s)...)
		}
	}
}

func TestKeepOfChainIsChainOfKeeps(t *testing.T) {
	parts := []iter.Seq[int]{Count(4), nil, Of([]int{5, 2, 1}), Count(0), Count(2)}
	kept := list(Map(Of(parts), func(s iter.Seq[int]) iter.Seq[int] { return Keep(s, odd) }))
	same(t, "keep of chain", Keep(Chain(parts...), odd), 1, 3, 5, 1, 1)
	same(t, "chain of keeps", Chain(kept...), 1, 3, 5, 1, 1)
}

func TestStoppedEarlyAskedForNoMore(t *testing.T) {
	asked := 0
	source := watched(9, &asked)
	for name, c := range map[string]struct {
		s      iter.Seq[int]
		beyond int // what was asked for and not told, by the call's own sense
	}{
		"map":   {Map(source, double), 0},
		"keep":  {Keep(source, all), 0},
		"take":  {Take(source, 8), 0},
		"drop":  {Drop(source, 2), 2},
		"none":  {Drop(source, 0), 0},
		"chain": {Chain(source, source), 0},
		"each":  {Each(source, func(n int) iter.Seq[int] { return Of([]int{n}) }), 0},
	} {
		for told := 1; told <= 5; told++ {
			asked = 0
			Collect(c.s, told)
			if asked != told+c.beyond {
				t.Errorf("%s: told %d, asked for %d", name, told, asked)
			}
		}
	}
}

func TestOneSequenceInsideItself(t *testing.T) {
	for name, s := range map[string]iter.Seq[int]{
		"of": Of([]int{0, 1, 2}), "count": Count(3), "map": Map(Count(3), double), "keep": Keep(Count(6), odd),
		"take": Take(Count(9), 3), "drop": Drop(Count(5), 2), "chain": Chain(Count(1), Count(2)),
		"each": Each(Count(3), Count), "set": NewSet(4, 2, 3).All(),
	} {
		want := list(s)
		for range s {
			if got := list(s); len(got) != 3 || !slices.Equal(got, want) {
				t.Error(name, got)
			}
		}
	}
}

// R3

func TestSourcesThatGoOnRegardless(t *testing.T) {
	bad := stubborn(5)
	same(t, "map", Map(bad, double), 0, 2, 4, 6, 8)
	same(t, "keep", Keep(bad, odd), 1, 3)
	same(t, "take", Take(bad, 2), 0, 1)
	same(t, "drop", Drop(bad, 3), 3, 4)
	same(t, "chain", Chain(bad, bad), 0, 1, 2, 3, 4, 0, 1, 2, 3, 4)
	same(t, "each", Each(stubborn(3), stubborn), 0, 0, 1)
	if l := Collect(bad, 2); !slices.Equal(l, []int{0, 1}) {
		t.Error("collect", l)
	}
	if x, ok := First(bad, odd); x != 1 || !ok {
		t.Error("first", x, ok)
	}
}

func TestSourcesThatCallTooLate(t *testing.T) {
	var kept func(int) bool
	late := func(yield func(int) bool) {
		kept = yield
		yield(1)
	}
	if l := list(Map(late, double)); !slices.Equal(l, []int{2}) || kept(2) {
		t.Error("a sequence that is over was told more", l)
	}
}

func TestDeepNesting(t *testing.T) {
	const levels = 1 << 16
	s := Count(2)
	for i := range levels {
		switch i % 4 {
		case 0:
			s = Map(s, func(n int) int { return n + 1 })
		case 1:
			s = Chain(s)
		case 2:
			s = Take(s, 9)
		default:
			s = Keep(s, all)
		}
	}
	if l := Collect(s, many); !slices.Equal(l, []int{levels / 4, levels/4 + 1}) {
		t.Error(l)
	}
}
