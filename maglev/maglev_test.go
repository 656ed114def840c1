package maglev_test

import (
	"math"
	"math/rand"
	"testing"

	"counterfoil/api"
	. "counterfoil/maglev"
	"counterfoil/octet"
	"counterfoil/siphash"
)

var key = siphash.Of(1, 2)

func TestPrime(t *testing.T) {
	for n := -5; n < 3000; n++ {
		want := n > 1
		for d := 2; d < n; d++ {
			want = want && n%d != 0
		}
		if Prime(n) != want {
			t.Error(n)
		}
	}
	if !Prime(1<<31-1) || Prime((1<<31-1)*(1<<31-1)) || Prime(math.MaxInt) || Prime(math.MinInt) {
		t.Error("great numbers")
	}
}

func TestOrders(t *testing.T) {
	for _, size := range []int{2, 3, 7, 1024, 2039, 2048} {
		for _, member := range []int{1, 2, 64} {
			first := siphash.Sum(key, octet.Put([]byte{6}, uint64(member), 4)) % uint64(size)
			step := siphash.Sum(key, octet.Put([]byte{7}, uint64(member), 4))%uint64(size-1) + 1
			if o := Of(key, member, size); o != (Order{int(first), int(step)}) {
				t.Error(size, member, o)
			}
		}
	}
	o := Order{First: 5, Step: 3}
	for n, want := range map[int]int{0: 5, 1: 1, 2: 4, 7: 5, 1 << 20: (5 + 3<<20) % 7} {
		if got := o.At(n, 7); got != want {
			t.Error(n, got)
		}
	}
}

func TestBuild(t *testing.T) {
	one, e := Build(key, 7, 9)
	for i := range 7 {
		if one.At(i) != 9 || e != api.OK || one.Len() != 7 {
			t.Error(one, e)
		}
	}
	// The table by the words of the document: in each turn from the beginning of the order on.
	members := []int{5, 64, 1, 7}
	want := make([]int, 23)
	for turn := range want {
		m := members[turn%4]
		for n := 0; ; n++ {
			if slot := Of(key, m, 23).At(n, 23); want[slot] == 0 {
				want[slot] = m
				break
			}
		}
	}
	got, e := Build(key, 23, members...)
	for i, m := range want {
		if got.At(i) != m || e != api.OK {
			t.Error(i, got.At(i), m)
		}
	}
	for _, i := range []int{-1, 23, math.MaxInt} {
		if got.At(i) != 0 {
			t.Error(i)
		}
	}
	if full, e := Build(key, 3, 1, 2, 3); e != api.OK || full.Len() != 3 {
		t.Error(e)
	}
	if MostSize != 2048 {
		t.Error(MostSize)
	}
	bad := []struct {
		size    int
		members []int
	}{{2053, []int{1}}, {8, []int{1}}, {1, []int{1}}, {0, []int{1}}, {-7, []int{1}}, {7, nil}, {3, []int{1, 2, 3, 4}}, {7, []int{0}}, {7, []int{65}}, {7, []int{-1}}, {7, []int{1, 2, 1}}}
	for _, c := range bad {
		if table, e := Build(key, c.size, c.members...); e != api.ErrArg || table.Len() != 0 {
			t.Error(c, e)
		}
	}
	if table, e := Build(key, 2039, 1); e != api.OK || table.Len() != 2039 {
		t.Error(e)
	}
}

func TestPickAndMoved(t *testing.T) {
	a, _ := Build(key, 101, 1, 2, 3)
	b, _ := Build(key, 101, 1, 3)
	c, _ := Build(key, 103, 1, 3)
	for i := range 50 {
		x := []byte{byte(i)}
		if a.Pick(key, x) != a.At(int(siphash.Sum(key, x)%101)) {
			t.Error(i)
		}
	}
	moved := 0
	for i := range 101 {
		if a.At(i) != b.At(i) {
			moved++
		}
	}
	if a.Moved(b) != moved || moved == 0 || a.Moved(a) != 0 || a.Moved(c) != -1 || (Table{}).Moved(Table{}) != 0 || a.Moved(Table{}) != -1 {
		t.Error("Moved")
	}
	if (Table{}).Pick(key, nil) != 0 || (Table{}).At(0) != 0 || (Table{}).Len() != 0 {
		t.Error("the zero table")
	}
}

func TestSlotsAreSpreadEvenly(t *testing.T) {
	rnd := rand.New(rand.NewSource(38))
	primes := []int{2, 3, 5, 13, 61, 251, 2039}
	for range 60 {
		size := primes[rnd.Intn(len(primes))]
		var members []int
		for _, m := range rnd.Perm(64)[:1+rnd.Intn(min(size, 64))] {
			members = append(members, m+1)
		}
		table, e := Build(siphash.Of(rnd.Uint64(), rnd.Uint64()), size, members...)
		if e != api.OK {
			t.Fatal(e)
		}
		counts := map[int]int{}
		for i := range size {
			counts[table.At(i)]++
		}
		for _, m := range members {
			if n := counts[m]; n != size/len(members) && n != size/len(members)+1 {
				t.Fatal(counts)
			}
		}
	}
}
