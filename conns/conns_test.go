package conns_test

import (
	"math"
	"math/rand"
	"slices"
	"testing"

	"counterfoil/addr"
	"counterfoil/api"
	. "counterfoil/conns"
)

func flow(n int) api.Flow {
	return api.Flow{Src: addr.V4(1, 2, 3, 4), Dst: addr.V4(5, 6, 7, 8), SrcPort: uint16(n), DstPort: 80, Proto: 6}
}

func TestConns(t *testing.T) {
	c := New(3)
	if c.Len() != 0 || c.Has(flow(1)) || c.Drop(flow(1)) {
		t.Error("not empty")
	}
	if w, ok := c.Get(flow(1)); w != 0 || ok {
		t.Error(w, ok)
	}
	for n := 1; n <= 3; n++ {
		if f, ok := c.Put(flow(n), uint16(10*n)); f != (api.Flow{}) || ok || c.Len() != n {
			t.Error(f, ok)
		}
	}
	if w, ok := c.Get(flow(1)); w != 10 || !ok {
		t.Error(w, ok)
	}
	if f, ok := c.Put(flow(2), 21); f != (api.Flow{}) || ok || c.Len() != 3 {
		t.Error("a known connection evicts nothing:", f, ok)
	}
	// Has is not a use: 3 remains the oldest one.
	c.Has(flow(3))
	if f, ok := c.Put(flow(4), 40); f != flow(3) || !ok || c.Len() != 3 || c.Has(flow(3)) {
		t.Error(f, ok)
	}
	if f, ok := c.Put(flow(5), 50); f != flow(1) || !ok {
		t.Error("Get is a use:", f, ok)
	}
	if w, _ := c.Get(flow(2)); w != 21 {
		t.Error(w)
	}
	if !c.Drop(flow(4)) || c.Drop(flow(4)) || c.Has(flow(4)) || c.Len() != 2 {
		t.Error("Drop")
	}
	if f, ok := c.Put(flow(6), 60); f != (api.Flow{}) || ok {
		t.Error("there is space again:", f, ok)
	}
}

func TestBounds(t *testing.T) {
	for most, want := range map[int]int{1: 1, 0: 1, -5: 1, math.MinInt: 1, 2: 2, 1024: 1024, 1025: 1024, math.MaxInt: 1024} {
		c := New(most)
		for n := range 1100 {
			c.Put(flow(n), 1)
		}
		if c.Len() != want {
			t.Error(most, c.Len())
		}
	}
	c := New(1)
	c.Put(flow(1), 1)
	if f, ok := c.Put(flow(2), 2); f != flow(1) || !ok || c.Has(flow(1)) {
		t.Error(f, ok)
	}
}

func TestFlowsThatDiffer(t *testing.T) {
	a := flow(1)
	b, d := a, a
	b.Proto = 17
	d.Src = addr.V6(0, a.Src.Low)
	c := New(9)
	for i, f := range []api.Flow{a, b, d} {
		c.Put(f, uint16(i))
	}
	for i, f := range []api.Flow{a, b, d} {
		if w, ok := c.Get(f); int(w) != i || !ok {
			t.Error(i, w, ok)
		}
	}
}

func TestNilAndZero(t *testing.T) {
	for _, c := range []*Conns{nil, {}} {
		if f, ok := c.Put(flow(1), 1); f != (api.Flow{}) || ok || c.Len() != 0 || c.Has(flow(1)) || c.Drop(flow(1)) {
			t.Error("not empty")
		}
		if _, ok := c.Get(flow(1)); ok {
			t.Error("Get")
		}
	}
}

func TestAgainstAList(t *testing.T) {
	rnd := rand.New(rand.NewSource(28))
	c := New(5)
	var order []int
	words := map[int]uint16{}
	use := func(n int) {
		order = slices.DeleteFunc(order, func(x int) bool { return x == n })
		order = append(order, n)
	}
	for range 3000 {
		n := rnd.Intn(9)
		_, known := words[n]
		switch rnd.Intn(4) {
		case 0, 1:
			gone, ok := c.Put(flow(n), uint16(n))
			if want := !known && len(order) == 5; ok != want || ok && gone != flow(order[0]) {
				t.Fatal(gone, ok)
			}
			if ok {
				delete(words, order[0])
				order = order[1:]
			}
			words[n] = uint16(n)
			use(n)
		case 2:
			if w, ok := c.Get(flow(n)); ok != known || w != words[n] {
				t.Fatal(w, ok)
			}
			if known {
				use(n)
			}
		case 3:
			if c.Drop(flow(n)) != known {
				t.Fatal("Drop")
			}
			delete(words, n)
			order = slices.DeleteFunc(order, func(x int) bool { return x == n })
		}
		if c.Len() != len(words) {
			t.Fatal(c.Len())
		}
	}
}
