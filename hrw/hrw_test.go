package hrw_test

import (
	"math"
	"math/rand"
	"slices"
	"testing"

	. "counterfoil/hrw"
	"counterfoil/octet"
	"counterfoil/siphash"
)

var key = siphash.Of(1, 2)

func TestScore(t *testing.T) {
	for n := range 20 {
		b := []byte("abc")[:n%4]
		id := 0x01020304 + n
		best := uint64(0)
		for i := range 300 {
			text := append(octet.Put(octet.Put([]byte{5}, uint64(id), 4), uint64(i), 2), b...)
			best = max(best, siphash.Sum(key, text))
			if got := Score(key, Member{id, i + 1}, b); got != best {
				t.Fatalf("weight %d: %x, not %x", i+1, got, best)
			}
		}
	}
	b := []byte("abc")
	for _, w := range []int{0, -1, math.MinInt} {
		if Score(key, Member{1, w}, b) != 0 {
			t.Error(w)
		}
	}
	if Score(key, Member{7, 65535}, nil) > Score(key, Member{7, math.MaxInt}, nil) {
		t.Error("a great weight")
	}
}

func TestScoreOfTheGreatestWeight(t *testing.T) {
	for id := range 6 {
		best := uint64(0)
		for i := range 65535 {
			best = max(best, siphash.Sum(key, octet.Put(octet.Put([]byte{5}, uint64(id), 4), uint64(i), 2)))
		}
		if got := Score(key, Member{id, 65535}, nil); got != best {
			t.Errorf("%d: %x, not %x", id, got, best)
		}
	}
}

func TestRankAndPick(t *testing.T) {
	l := []Member{{3, 1}, {1, 2}, {2, 0}, {9, 5}, {4, -3}}
	b := []byte("flow")
	ids := Rank(key, l, b)
	if len(ids) != 3 || slices.Contains(ids, 2) || slices.Contains(ids, 4) {
		t.Error(ids)
	}
	weights := map[int]int{3: 1, 1: 2, 9: 5}
	for i := 1; i < len(ids); i++ {
		if Score(key, Member{ids[i-1], weights[ids[i-1]]}, b) < Score(key, Member{ids[i], weights[ids[i]]}, b) {
			t.Error("not by descending score", ids)
		}
	}
	if id, ok := Pick(key, l, b); id != ids[0] || !ok {
		t.Error(id, ok)
	}
	if id, ok := Pick(key, []Member{{6, 1}}, nil); id != 6 || !ok {
		t.Error(id, ok)
	}
	for _, l := range [][]Member{nil, {{1, 0}}, {{5, -1}}} {
		if id, ok := Pick(key, l, b); id != 0 || ok || len(Rank(key, l, b)) != 0 {
			t.Error(id, ok)
		}
	}
	if twice := Rank(key, []Member{{8, 1}, {8, 1}}, b); !slices.Equal(twice, []int{8, 8}) {
		t.Error(twice)
	}
	// IDs that are the same in 4 bytes score alike.
	if tie := Rank(key, []Member{{1<<32 + 8, 1}, {8, 1}}, b); !slices.Equal(tie, []int{8, 1<<32 + 8}) {
		t.Error(tie)
	}
}

func TestMembersComeAndGo(t *testing.T) {
	rnd := rand.New(rand.NewSource(15))
	for range 300 {
		var l []Member
		for id := range 2 + rnd.Intn(6) {
			l = append(l, Member{id + 1, rnd.Intn(4)})
		}
		b := octet.Put(nil, rnd.Uint64(), 8)
		was, ok := Pick(key, l, b)
		gone := rnd.Intn(len(l))
		rest := slices.Delete(slices.Clone(l), gone, gone+1)
		now, _ := Pick(key, rest, b)
		if ok && was != l[gone].ID && now != was {
			t.Fatal("a pick moved though its member stayed")
		}
		more, _ := Pick(key, append(slices.Clone(l), Member{99, 2}), b)
		if more != 99 && more != was {
			t.Fatal("a pick moved to an old member")
		}
		rnd.Shuffle(len(l), func(i, j int) { l[i], l[j] = l[j], l[i] })
		if again, still := Pick(key, l, b); again != was || still != ok {
			t.Fatal("the order of the members counts")
		}
	}
}
