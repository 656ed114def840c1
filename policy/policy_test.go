package policy_test

import (
	"math/rand"
	"testing"

	. "counterfoil/policy"
	"counterfoil/turn"
)

var some = []turn.Cand{{Slot: 0, Backend: 1, Weight: 5, Load: 9}, {Slot: 1, Backend: 2, Weight: 0, Load: 3}, {Slot: 3, Backend: 3, Weight: 1, Load: 3}}

func TestNames(t *testing.T) {
	names := map[int]string{1: "turns", 2: "weights", 3: "loads", 4: "draws"}
	if Turns != 1 || Weights != 2 || Loads != 3 || Draws != 4 {
		t.Error("numbers")
	}
	for way := -2; way < 9; way++ {
		name := names[way]
		if Right(way) != (name != "") || Name(way) != name {
			t.Error(way, Name(way))
		}
		if name != "" && Of(name) != way {
			t.Error(name, Of(name))
		}
	}
	for _, name := range []string{"", "turn", "Turns", "turns ", "draws\n"} {
		if Of(name) != 0 {
			t.Error(name)
		}
	}
}

func TestChoose(t *testing.T) {
	var c Chooser
	want := map[int][]int{Turns: {1, 2, 3, 1}, Weights: {1, 1, 1, 3, 1, 1}, Loads: {2, 2}}
	for way, l := range want {
		for i, backend := range l {
			if got, ok := c.Choose(way, some, 0, 0); got.Backend != backend || !ok {
				t.Error(way, i, got, ok)
			}
		}
	}
	if got, ok := c.Choose(Draws, some, 0, 5); got.Backend != 3 || !ok {
		t.Error(got, ok)
	}
	if got, ok := c.Choose(Draws, some, 0, 3); got.Backend != 1 || !ok {
		t.Error(got, ok)
	}
	for _, way := range []int{0, -1, 5} {
		if got, ok := c.Choose(way, some, 0, 0); got != (turn.Cand{}) || ok {
			t.Error(way, got, ok)
		}
	}
	for way := range 6 {
		if _, ok := c.Choose(way, nil, 0, 0); ok {
			t.Error("no candidates", way)
		}
		if got, ok := (*Chooser)(nil).Choose(way, some, 0, 0); got != (turn.Cand{}) || ok {
			t.Error("nil", way)
		}
	}
}

func TestPoliciesRememberApart(t *testing.T) {
	var c Chooser
	c.Choose(Turns, some, 0, 0)
	c.Choose(Loads, some, 0, 0)
	c.Choose(Draws, some, 1, 1)
	if got, _ := c.Choose(Weights, some, 0, 0); got.Backend != 1 {
		t.Error(got)
	}
	if got, _ := c.Choose(Turns, some, 0, 0); got.Backend != 2 {
		t.Error(got)
	}
}

func TestFits(t *testing.T) {
	want := map[int][3]bool{Turns: {true, true, true}, Weights: {true, false, true}, Loads: {false, true, false}, Draws: {false, false, true}, 0: {}, 5: {}, -1: {}}
	for way, fits := range want {
		for i, c := range some {
			if Fits(way, some, 0, 2, c) != fits[i] {
				t.Error(way, c)
			}
		}
		other := some[0]
		other.Load++
		if Fits(way, some, 0, 0, other) || Fits(way, some, 0, 0, turn.Cand{}) || Fits(way, nil, 0, 0, turn.Cand{}) {
			t.Error("no candidate", way)
		}
	}
}

func TestWhatIsChosenFits(t *testing.T) {
	rnd := rand.New(rand.NewSource(19))
	var c Chooser
	for range 500 {
		var l []turn.Cand
		for slot := range rnd.Intn(6) {
			l = append(l, turn.Cand{Slot: slot * 2, Backend: slot + 1, Weight: rnd.Intn(3), Load: uint32(rnd.Intn(3))})
		}
		way, a, b := 1+rnd.Intn(4), rnd.Uint32(), rnd.Uint32()
		if got, ok := c.Choose(way, l, a, b); ok && !Fits(way, l, a, b, got) {
			t.Fatal(way, l, got)
		}
	}
}
