package meter_test

import (
	"math"
	"math/rand"
	"testing"

	"counterfoil/api"
	. "counterfoil/meter"
)

func bucket(t *testing.T, rate, size uint64) *Bucket {
	t.Helper()
	b, e := New(rate, size)
	if e != api.OK {
		t.Fatal(e)
	}
	return b
}

func TestNew(t *testing.T) {
	for _, c := range [][2]uint64{{MostRate + 1, 1}, {math.MaxUint64, 1}, {1, 0}, {1, MostRate + 1}, {0, math.MaxUint64}} {
		if b, e := New(c[0], c[1]); b != nil || e != api.ErrArg {
			t.Error(c, e)
		}
	}
	if b := bucket(t, 0, 1); b.Level(0) != 1 {
		t.Error("not full")
	}
	if b := bucket(t, MostRate, MostRate); b.Level(0) != MostRate {
		t.Error("not full")
	}
}

func TestTake(t *testing.T) {
	b := bucket(t, 1, 2)
	if !b.Take(2, 0) || b.Take(1, 0) || !b.Take(1, 1) {
		t.Error("the document's example")
	}
	b = bucket(t, 3, 10)
	steps := []struct {
		n, now uint64
		ok     bool
		level  uint64
	}{
		{11, 0, false, 10}, {10, 0, true, 0}, {0, 0, true, 0}, {4, 1, false, 3}, {4, 2, true, 2}, {1, 1, true, 1}, {0, 2, true, 1}, {0, 3, true, 4},
		{0, 100, true, 10}, {7, 50, true, 3}, {0, 101, true, 6}, {math.MaxUint64, 101, false, 6}, {0, math.MaxUint64, true, 10}, {10, 0, true, 0}, {0, math.MaxUint64, true, 0},
	}
	for i, s := range steps {
		if b.Take(s.n, s.now) != s.ok || b.Level(s.now) != s.level {
			t.Error(i, b.Level(s.now))
		}
	}
	never := bucket(t, 0, 5)
	if !never.Take(5, 0) || never.Level(math.MaxUint64) != 0 {
		t.Error("a rate of 0")
	}
}

func TestLevelRefills(t *testing.T) {
	b := bucket(t, 1, 10)
	b.Take(10, 0)
	if b.Level(4) != 4 || b.Level(2) != 4 || b.Level(5) != 5 || b.Level(5) != 5 {
		t.Error("Level")
	}
	slow := bucket(t, 1, MostRate)
	slow.Take(MostRate, 0)
	if slow.Level(1<<31-1) != 1<<31-1 || slow.Level(1<<40) != MostRate {
		t.Error("a long time")
	}
	even := bucket(t, MostRate, MostRate)
	even.Take(MostRate, 0)
	if even.Level(1<<33) != MostRate || MostRate != 2147483648 {
		t.Error("a product of 2^64")
	}
	fast := bucket(t, MostRate, MostRate)
	fast.Take(MostRate, 0)
	if fast.Level(math.MaxUint64) != MostRate {
		t.Error("an overflow")
	}
}

func TestHist(t *testing.T) {
	var h Hist
	if x, ok := h.Below(50); x != 0 || ok || h.Total() != 0 {
		t.Error(x, ok)
	}
	for _, x := range []uint64{0, 1, 2, 3, 4, 7, 8, 1 << 40, math.MaxUint64, math.MaxUint64} {
		h.Add(x)
	}
	want := map[int]uint64{0: 0, 1: 0, 10: 0, 11: 1, 20: 1, 21: 3, 40: 3, 41: 7, 60: 7, 61: 15, 70: 15, 71: 1<<41 - 1, 80: 1<<41 - 1, 81: math.MaxUint64, 100: math.MaxUint64}
	for percent, bound := range want {
		if x, ok := h.Below(percent); x != bound || !ok {
			t.Error(percent, x, ok)
		}
	}
	for _, percent := range []int{-1, 101, math.MinInt, math.MaxInt} {
		if x, ok := h.Below(percent); x != 0 || ok {
			t.Error(percent, x, ok)
		}
	}
	if h.Total() != 10 {
		t.Error(h.Total())
	}
}

func TestBelowRoundsUp(t *testing.T) {
	var h Hist
	h.Add(1)
	h.Add(2)
	h.Add(4)
	want := map[int]uint64{0: 1, 1: 1, 33: 1, 34: 3, 66: 3, 67: 7, 100: 7}
	for percent, bound := range want {
		if x, ok := h.Below(percent); x != bound || !ok {
			t.Error(percent, x, ok)
		}
	}
}

func TestBelowOfManyNumbers(t *testing.T) {
	var h Hist
	for n := range 1050 {
		if n < 840 {
			h.Add(1)
		} else {
			h.Add(4)
		}
	}
	want := map[int]uint64{79: 1, 80: 1, 81: 7, 100: 7}
	for percent, bound := range want {
		if x, ok := h.Below(percent); x != bound || !ok {
			t.Error(percent, x, ok)
		}
	}
}

func TestJoin(t *testing.T) {
	var a, b Hist
	a.Add(5)
	b.Add(5)
	b.Add(100)
	a.Join(&b)
	if x, _ := a.Below(66); a.Total() != 3 || b.Total() != 2 || x != 7 {
		t.Error(a.Total(), x)
	}
	for range 61 {
		a.Join(&a)
	}
	if a.Total() != 3<<61 {
		t.Error("a histogram joined with itself")
	}
	if x, ok := a.Below(67); x != 127 || !ok {
		t.Error("an overflow:", x)
	}
	if x, ok := a.Below(66); x != 7 || !ok {
		t.Error("an overflow:", x)
	}
	a.Join(nil)
	if a.Total() != 3<<61 {
		t.Error("nil")
	}
}

func TestNil(t *testing.T) {
	var b *Bucket
	if b.Take(0, 0) || b.Level(9) != 0 {
		t.Error("Bucket")
	}
	var h *Hist
	h.Add(1)
	h.Join(&Hist{})
	if x, ok := h.Below(50); x != 0 || ok || h.Total() != 0 {
		t.Error("Hist")
	}
}

func TestNoIntervalGivesTooMuch(t *testing.T) {
	rnd := rand.New(rand.NewSource(39))
	for range 100 {
		rate, size := uint64(rnd.Intn(5)), uint64(1+rnd.Intn(20))
		b := bucket(t, rate, size)
		now := uint64(0)
		var times, taken []uint64
		for range 60 {
			now += uint64(rnd.Intn(4))
			n := uint64(rnd.Intn(10))
			if b.Take(n, now) {
				times, taken = append(times, now), append(taken, n)
			}
		}
		for i := range times {
			sum := uint64(0)
			for j := i; j < len(times); j++ {
				sum += taken[j]
				if sum > size+rate*(times[j]-times[i]) {
					t.Fatal(rate, size, sum)
				}
			}
		}
	}
}
