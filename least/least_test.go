package least_test

import (
	"cmp"
	"math"
	"math/rand"
	"slices"
	"testing"

	. "counterfoil/least"
	"counterfoil/turn"
)

func order(x, y Item) int { return cmp.Or(cmp.Compare(x.Weight, y.Weight), cmp.Compare(x.ID, y.ID)) }

func TestQueue(t *testing.T) {
	var q Queue
	if x, ok := q.First(); x != (Item{}) || ok || q.Len() != 0 {
		t.Error(x, ok)
	}
	if x, ok := q.Pop(); x != (Item{}) || ok {
		t.Error(x, ok)
	}
	q.Push(Item{5, 1})
	q.Push(Item{3, 2})
	q.Push(Item{3, 1})
	if x, ok := q.First(); x != (Item{3, 1}) || !ok || q.Len() != 3 {
		t.Error(x, ok)
	}
	for i, want := range []Item{{3, 1}, {3, 2}, {5, 1}} {
		if x, ok := q.Pop(); x != want || !ok || q.Len() != 2-i {
			t.Error(x, ok)
		}
	}
	if _, ok := q.Pop(); ok {
		t.Error("empty")
	}
}

func TestFixAndDrop(t *testing.T) {
	var q Queue
	for id := range 6 {
		q.Push(Item{uint64(10 * id), id})
	}
	if !q.Fix(0, 99) || !q.Fix(5, 15) || q.Fix(7, 1) || q.Fix(-1, 1) {
		t.Error("Fix")
	}
	if !q.Drop(2) || q.Drop(2) || q.Drop(9) || q.Len() != 5 {
		t.Error("Drop")
	}
	want := []Item{{10, 1}, {15, 5}, {30, 3}, {40, 4}, {99, 0}}
	for _, w := range want {
		if x, _ := q.Pop(); x != w {
			t.Error(x, w)
		}
	}
	if q.Fix(1, 1) || q.Drop(1) {
		t.Error("an empty queue")
	}
}

func TestSorted(t *testing.T) {
	l := []Item{{5, 1}, {math.MaxUint64, -3}, {0, 7}, {5, -1}, {5, 1}}
	got := Sorted(l...)
	if !slices.Equal(got, []Item{{0, 7}, {5, -1}, {5, 1}, {5, 1}, {math.MaxUint64, -3}}) {
		t.Error(got)
	}
	if l[0] != (Item{5, 1}) || l[2] != (Item{0, 7}) {
		t.Error("the argument was sorted")
	}
	if len(Sorted()) != 0 {
		t.Error("nothing")
	}
}

func TestPick(t *testing.T) {
	l := []turn.Cand{{Slot: 1, Load: 5}, {Slot: 2, Load: 3, Backend: 8}, {Slot: 6, Load: 3}, {Slot: 7, Load: 9}}
	if c, ok := Pick(l); c != l[1] || !ok {
		t.Error(c, ok)
	}
	if c, ok := Pick([]turn.Cand{{Slot: 0, Load: math.MaxUint32}, {Slot: 1, Load: 0}}); c.Slot != 1 || !ok {
		t.Error(c, ok)
	}
	if c, ok := Pick(nil); c != (turn.Cand{}) || ok {
		t.Error(c, ok)
	}
}

func TestNil(t *testing.T) {
	var q *Queue
	q.Push(Item{1, 1})
	if q.Len() != 0 || q.Fix(1, 1) || q.Drop(1) {
		t.Error("nil")
	}
	if _, ok := q.First(); ok {
		t.Error("First")
	}
	if _, ok := q.Pop(); ok {
		t.Error("Pop")
	}
}

func TestItemsArePoppedInOrder(t *testing.T) {
	rnd := rand.New(rand.NewSource(18))
	for range 100 {
		var q Queue
		var l []Item
		for id := range rnd.Intn(40) {
			x := Item{uint64(rnd.Intn(10)), id}
			l = append(l, x)
			q.Push(x)
		}
		for i := range l {
			switch rnd.Intn(4) {
			case 0:
				l[i].Weight = uint64(rnd.Intn(10))
				q.Fix(l[i].ID, l[i].Weight)
			case 1:
				q.Drop(l[i].ID)
				l[i].ID = -1
			}
		}
		l = slices.DeleteFunc(l, func(x Item) bool { return x.ID < 0 })
		want := slices.SortedFunc(slices.Values(l), order)
		if !slices.Equal(Sorted(l...), want) {
			t.Fatal("Sorted")
		}
		for _, w := range want {
			if x, ok := q.Pop(); x != w || !ok {
				t.Fatal(x, w)
			}
		}
	}
}
