package turn_test

import (
	"math"
	"math/rand"
	"testing"

	. "counterfoil/turn"
)

func TestRight(t *testing.T) {
	good := [][]Cand{nil, {{Slot: 0}}, {{Slot: 4095, Weight: 100}}, {{Slot: 1}, {Slot: 2}, {Slot: 9, Weight: 3}}}
	for _, l := range good {
		if !Right(l) {
			t.Error(l)
		}
	}
	bad := [][]Cand{{{Slot: -1}}, {{Slot: 4096}}, {{Slot: 1}, {Slot: 1}}, {{Slot: 2}, {Slot: 1}}, {{Weight: -1}}, {{Weight: 101}}, {{Slot: 1}, {Slot: 2, Weight: 101}}}
	for _, l := range bad {
		if Right(l) {
			t.Error(l)
		}
	}
}

func TestPick(t *testing.T) {
	var turn Turn
	l := []Cand{{Slot: 1, Backend: 11}, {Slot: 4, Backend: 14}}
	if turn.Next() != 0 {
		t.Error(turn.Next())
	}
	for i, want := range []int{1, 4, 1, 4} {
		if c, ok := turn.Pick(l); c.Slot != want || !ok || c.Backend != want+10 || turn.Next() != want+1 {
			t.Error(i, c, ok)
		}
	}
	if c, ok := turn.Pick(nil); c != (Cand{}) || ok || turn.Next() != 5 {
		t.Error(c, ok)
	}
	if c, _ := turn.Pick([]Cand{{Slot: 2}, {Slot: 5}, {Slot: 6}}); c.Slot != 5 {
		t.Error("the position counts, not the index:", c)
	}
	if c, _ := turn.Pick([]Cand{{Slot: 3}, {Slot: 5}}); c.Slot != 3 || turn.Next() != 4 {
		t.Error(c)
	}
}

func TestTwo(t *testing.T) {
	l := []Cand{{Slot: 0, Load: 5}, {Slot: 3, Load: 4}, {Slot: 7, Load: 5}}
	cases := []struct {
		a, b uint32
		want int
	}{
		{0, 1, 3}, {1, 0, 3}, {0, 2, 0}, {2, 0, 0}, {2, 2, 7}, {3, 5, 0}, {4, 7, 3}, {math.MaxUint32, math.MaxUint32, 0},
	}
	for _, c := range cases {
		if got, ok := Two(l, c.a, c.b); got.Slot != c.want || !ok {
			t.Error(c, got, ok)
		}
	}
	if c, ok := Two(nil, 1, 2); c != (Cand{}) || ok {
		t.Error(c, ok)
	}
}

func TestNil(t *testing.T) {
	var turn *Turn
	if c, ok := turn.Pick([]Cand{{Slot: 1}}); c != (Cand{}) || ok || turn.Next() != 0 {
		t.Error(c, ok)
	}
}

func TestEachCandidateHasItsTurn(t *testing.T) {
	rnd := rand.New(rand.NewSource(16))
	for range 100 {
		var l []Cand
		for slot := 0; len(l) == 0 || slot < 30; slot++ {
			if rnd.Intn(3) == 0 {
				l = append(l, Cand{Slot: slot})
			}
		}
		var turn Turn
		for range rnd.Intn(10) {
			turn.Pick(l[:1+rnd.Intn(len(l))])
		}
		seen := map[int]int{}
		for range l {
			c, _ := turn.Pick(l)
			seen[c.Slot]++
		}
		if len(seen) != len(l) {
			t.Fatal(seen, l)
		}
	}
}
