package smooth_test

import (
	"math/rand"
	"testing"

	. "counterfoil/smooth"
	"counterfoil/turn"
)

func cands(weights ...int) []turn.Cand {
	var l []turn.Cand
	for i, w := range weights {
		l = append(l, turn.Cand{Slot: i, Backend: i + 1, Weight: w, Load: uint32(i)})
	}
	return l
}

func TestPick(t *testing.T) {
	var s Smooth
	l := cands(5, 1, 1)
	for round := range 2 {
		for i, want := range []int{1, 1, 2, 1, 3, 1, 1} {
			if c, ok := s.Pick(l); c != l[want-1] || !ok {
				t.Error(round, i, c, ok)
			}
		}
	}
	if s.Owed(1) != 0 || s.Owed(2) != 0 || s.Owed(3) != 0 {
		t.Error("after a whole round nothing is owed")
	}
}

func TestOwed(t *testing.T) {
	var s Smooth
	if s.Owed(1) != 0 {
		t.Error("nobody is remembered")
	}
	s.Pick(cands(5, 1, 0))
	if s.Owed(1) != -1 || s.Owed(2) != 1 || s.Owed(3) != 0 || s.Owed(9) != 0 {
		t.Error(s.Owed(1), s.Owed(2), s.Owed(3))
	}
	if c, ok := s.Pick(cands(0, 0)); c != (turn.Cand{}) || ok || s.Owed(1) != -1 {
		t.Error("without weights nothing changes", c, ok)
	}
	if _, ok := s.Pick(nil); ok || s.Owed(2) != 1 {
		t.Error("without candidates nothing changes")
	}
}

func TestOthersStartAnew(t *testing.T) {
	var s Smooth
	s.Pick(cands(5, 1))
	s.Pick(cands(5, 1, 0))
	if s.Owed(1) != -2 || s.Owed(2) != 2 {
		t.Error("a candidate without weight does not count:", s.Owed(1), s.Owed(2))
	}
	moved := cands(5, 1)
	moved[0].Slot, moved[1].Slot, moved[0].Load = 7, 8, 9
	if c, _ := s.Pick(moved); c != moved[0] || s.Owed(1) != -3 {
		t.Error("slots and loads do not count:", c, s.Owed(1))
	}
	s.Pick(cands(4, 1))
	if s.Owed(1) != -1 || s.Owed(2) != 1 {
		t.Error("another weight:", s.Owed(1), s.Owed(2))
	}
	swapped := cands(1, 4)
	swapped[0].Backend, swapped[1].Backend = 2, 1
	s.Pick(swapped)
	if s.Owed(1) != -1 || s.Owed(2) != 1 {
		t.Error("another order:", s.Owed(1), s.Owed(2))
	}
	others := cands(1, 4)
	others[0].Backend, others[1].Backend = 8, 9
	s.Pick(others)
	if s.Owed(9) != -1 || s.Owed(8) != 1 || s.Owed(1) != 0 {
		t.Error("other backends of the same weights:", s.Owed(8), s.Owed(9))
	}
	s.Pick(cands(4))
	if s.Owed(1) != 0 || s.Owed(2) != 0 {
		t.Error("fewer:", s.Owed(1), s.Owed(2))
	}
}

func TestTiesGoToTheFirst(t *testing.T) {
	var s Smooth
	for i, want := range []int{1, 2, 3, 1} {
		if c, _ := s.Pick(cands(2, 2, 2)); c.Backend != want {
			t.Error(i, c)
		}
	}
}

func TestNil(t *testing.T) {
	var s *Smooth
	if c, ok := s.Pick(cands(1)); c != (turn.Cand{}) || ok || s.Owed(1) != 0 {
		t.Error(c, ok)
	}
}

func TestEachIsPickedAsOftenAsItWeighs(t *testing.T) {
	rnd := rand.New(rand.NewSource(17))
	for range 50 {
		var s Smooth
		s.Pick(cands(3, 2))
		l := cands(rnd.Intn(20), 1+rnd.Intn(20), rnd.Intn(20), rnd.Intn(20))
		sum := 0
		for _, c := range l {
			sum += c.Weight
		}
		for range rnd.Intn(30) {
			s.Pick(l)
		}
		counts := map[int]int{}
		for range sum {
			c, _ := s.Pick(l)
			counts[c.Backend]++
		}
		for _, c := range l {
			if counts[c.Backend] != c.Weight {
				t.Fatal(l, counts)
			}
		}
	}
}
