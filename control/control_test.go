package control_test

import (
	"bytes"
	"math"
	"math/rand"
	"testing"

	"counterfoil/addr"
	"counterfoil/api"
	"counterfoil/codec"
	"counterfoil/config"
	. "counterfoil/control"
	"counterfoil/disk"
	"counterfoil/journal"
	"counterfoil/siphash"
)

var key = siphash.Of(1, 2)

func backend(n int) config.Op {
	return config.Op{Kind: config.AddBackend, Backend: n, Addr: addr.V4(10, 0, 2, byte(n))}
}

func vip() config.Op {
	return config.Op{Kind: config.AddVip, Addr: addr.V4(9, 9, 9, 9), Port: 80, Proto: 6, Way: 1}
}

func members(n int) config.Op {
	return config.Op{Kind: config.SetMembers, Members: []config.Member{{Backend: n, Weight: 1}}}
}

func retire(v int) config.Op  { return config.Op{Kind: config.Retire, Version: v} }
func release(v int) config.Op { return config.Op{Kind: config.Release, Version: v} }

func open(t *testing.T, d *disk.Disk, nodes int) *Controller {
	t.Helper()
	c, e := Open(d, key, nodes)
	if e != api.OK {
		t.Fatal(e)
	}
	return c
}

func issue(t *testing.T, c *Controller, ops ...config.Op) {
	t.Helper()
	for _, o := range ops {
		if e := c.Issue(o); e != api.OK {
			t.Fatalf("%+v: %d", o, e)
		}
	}
}

func lens(t *testing.T, c *Controller, safe, issued int) {
	t.Helper()
	if a, b := c.Len(); a != safe || b != issued {
		t.Error(a, b)
	}
}

func TestOpenErrors(t *testing.T) {
	if c, e := Open(nil, key, -1); c != nil || e != api.ErrNil {
		t.Error(c, e)
	}
	for _, nodes := range []int{-1, 17, math.MinInt, math.MaxInt} {
		d := disk.New(100)
		d.Append([]byte("junk"))
		if c, e := Open(d, key, nodes); c != nil || e != api.ErrArg || d.Len() != 4 {
			t.Error(c, e)
		}
	}
	for _, record := range [][]byte{{1}, codec.Op(vip())[1:], codec.Op(members(1))} {
		d := disk.New(1000)
		j, _ := journal.Open(d)
		j.Write(codec.Op(backend(2)))
		j.Write(record)
		d.Append([]byte("torn"))
		was := d.Len()
		if c, e := Open(d, key, 1); c != nil || e != api.ErrBad {
			t.Error(c, e)
		}
		if d.Len() != was || d.Safe() != 0 {
			t.Error("an error cut the disk")
		}
	}
	for _, nodes := range []int{0, 16} {
		open(t, disk.New(0), nodes)
	}
}

func TestIssueAndCommit(t *testing.T) {
	d := disk.New(1000)
	c := open(t, d, 2)
	lens(t, c, 0, 0)
	issue(t, c, backend(1), vip())
	lens(t, c, 0, 2)
	if s := c.State(); s.Num != 0 || s.Len() != 0 {
		t.Error("the state shows what is not safe")
	}
	if len(c.Since(0)) != 0 {
		t.Error("Since shows what is not safe")
	}
	if e := c.Commit(); e != api.OK || d.Syncs() != 1 || d.Safe() != d.Len() {
		t.Error(e)
	}
	lens(t, c, 2, 2)
	s := c.State()
	if s.Num != 2 || s.Len() != 1 {
		t.Error(s.Num)
	}
	s.Apply(config.Op{Kind: config.Rotate})
	if c.State().Num != 2 {
		t.Error("State is not a copy")
	}
	issue(t, c, members(1))
	l := c.Since(0)
	if len(l) != 2 || !bytes.Equal(l[0], codec.Op(backend(1))) || !bytes.Equal(l[1], codec.Op(vip())) {
		t.Error(l)
	}
	if l := c.Since(1); len(l) != 1 || !bytes.Equal(l[0], codec.Op(vip())) {
		t.Error(l)
	}
	for _, n := range []uint64{2, 3, math.MaxUint64} {
		if len(c.Since(n)) != 0 {
			t.Error(n)
		}
	}
}

func TestIssueErrors(t *testing.T) {
	c := open(t, disk.New(80), 1)
	long := config.Op{Kind: config.SetMembers, Vip: 300}
	if e := c.Issue(long); e != api.ErrArg {
		t.Error("not valid:", e)
	}
	if e := c.Issue(members(1)); e != api.ErrNone {
		t.Error("the error of Apply:", e)
	}
	issue(t, c, backend(1), vip())
	if e := c.Issue(vip()); e != api.ErrTwice {
		t.Error("after all issued operations:", e)
	}
	if e := c.Issue(members(1)); e != api.ErrFull {
		t.Error("a full disk:", e)
	}
	lens(t, c, 0, 2)
	c.Commit()
	if s := c.State(); s.Num != 2 || s.Len() != 1 {
		t.Error("an operation that was refused took effect")
	}
	if v, _ := c.State().Vip(0); v.Tables.Len() != 0 {
		t.Error("an operation that was refused took effect")
	}
}

func TestAcks(t *testing.T) {
	c := open(t, disk.New(1000), 2)
	issue(t, c, backend(1), backend(2), backend(3))
	if e := c.Ack(0, 1); e != api.ErrArg {
		t.Error("not safe:", e)
	}
	c.Commit()
	steps := []struct {
		node        int
		n           uint64
		e           api.Errno
		acked, told uint64
	}{
		{0, 2, api.OK, 2, 2}, {0, 3, api.OK, 3, 3}, {0, 1, api.OK, 3, 1}, {0, 4, api.ErrArg, 3, 1}, {0, 0, api.OK, 3, 0}, {1, 0, api.OK, 0, 0},
		{2, 0, api.ErrArg, 0, 0}, {-1, 0, api.ErrArg, 0, 0}, {0, math.MaxUint64, api.ErrArg, 3, 0},
	}
	for _, s := range steps {
		if e := c.Ack(s.node, s.n); e != s.e || c.Acked(s.node) != s.acked || c.Told(s.node) != s.told {
			t.Error(s, e, c.Acked(s.node), c.Told(s.node))
		}
	}
}

func TestReleaseWaitsForAllNodes(t *testing.T) {
	d := disk.New(10000)
	c := open(t, d, 2)
	issue(t, c, backend(1), vip(), members(1), members(1), retire(0))
	if e := c.Issue(release(0)); e != api.ErrBusy {
		t.Error("nobody knows:", e)
	}
	if e := c.Issue(release(1)); e != api.ErrNone {
		t.Error("not busy:", e)
	}
	c.Commit()
	c.Ack(0, 5)
	c.Ack(1, 4)
	if e := c.Issue(release(0)); e != api.ErrBusy {
		t.Error("one node does not know:", e)
	}
	c.Ack(1, 5)
	c.Ack(1, 0)
	issue(t, c, release(0))
	issue(t, c, members(1), retire(1))
	if e := c.Issue(release(1)); e != api.ErrBusy {
		t.Error("another version:", e)
	}
	issue(t, c, members(1), retire(0))
	if e := c.Issue(release(0)); e != api.ErrBusy {
		t.Error("the last Retire counts:", e)
	}
	c.Commit()
	again := open(t, d, 2)
	if e := again.Issue(release(1)); e != api.ErrBusy {
		t.Error("a new controller has no acknowledgements:", e)
	}
	again.Ack(0, 8)
	again.Ack(1, 8)
	issue(t, again, release(1))
	if e := again.Issue(release(0)); e != api.ErrBusy {
		t.Error("the number of the Retire is lost:", e)
	}
	again.Ack(0, 10)
	again.Ack(1, 10)
	issue(t, again, release(0))
	other := open(t, disk.New(10000), 1)
	issue(t, other, backend(1), vip(), members(1), members(1), retire(0), backend(2), config.Op{Kind: config.Evict, Backend: 1}, members(2))
	other.Commit()
	other.Ack(0, 5)
	issue(t, other, release(0))
	alone := open(t, disk.New(10000), 0)
	issue(t, alone, backend(1), vip(), members(1), members(1), retire(0), release(0))
}

func TestCrash(t *testing.T) {
	d := disk.New(1000)
	c := open(t, d, 1)
	issue(t, c, backend(1))
	d.Crash(0, 0)
	lens(t, open(t, d, 1), 0, 0)
	rnd := rand.New(rand.NewSource(22))
	for range 100 {
		d := disk.New(100000)
		c := open(t, d, 1)
		issue(t, c, backend(1), vip())
		var all [][]byte
		for range rnd.Intn(10) {
			o := []config.Op{backend(1 + rnd.Intn(5)), members(1), retire(rnd.Intn(3)), {Kind: config.Rotate}}[rnd.Intn(4)]
			c.Issue(o)
			if rnd.Intn(3) == 0 {
				c.Commit()
			}
		}
		safe, issued := c.Len()
		was := c.State()
		j, _ := journal.Scan(d.Read())
		all = j
		d.Crash(rnd.Intn(60), byte(rnd.Intn(2)))
		again := open(t, d, 1)
		a, b := again.Len()
		if a != b || a < safe || a > issued || again.Acked(0) != 0 {
			t.Fatal(a, b, safe, issued)
		}
		for i, record := range again.Since(0) {
			if !bytes.Equal(record, all[i]) {
				t.Fatal("not a prefix")
			}
		}
		if a == safe && !bytes.Equal(codec.State(again.State()), codec.State(was)) {
			t.Fatal("another state")
		}
	}
}

func TestVersionsAreNotAssignedTooEarly(t *testing.T) {
	rnd := rand.New(rand.NewSource(23))
	c := open(t, disk.New(1<<20), 3)
	issue(t, c, backend(1), vip())
	retired := map[int]int{}
	for range 600 {
		_, before := c.Len()
		o := []config.Op{members(1), retire(rnd.Intn(8)), release(rnd.Intn(8))}[rnd.Intn(3)]
		if c.Issue(o) == api.OK {
			switch o.Kind {
			case config.Retire:
				retired[o.Version] = before + 1
			case config.SetMembers:
				c.Commit()
				v, _ := c.State().Vip(0)
				version, _, _ := v.Tables.Newest()
				for node := range 3 {
					if c.Acked(node) < uint64(retired[version]) {
						t.Fatal("a version was assigned too early")
					}
				}
			}
		}
		c.Commit()
		safe, _ := c.Len()
		c.Ack(rnd.Intn(3), uint64(safe-rnd.Intn(min(safe, 3))))
	}
}

func TestNil(t *testing.T) {
	var c *Controller
	lens(t, c, 0, 0)
	if c.State() != nil || c.Acked(0) != 0 || c.Told(0) != 0 || len(c.Since(0)) != 0 {
		t.Error("nil")
	}
	if c.Issue(config.Op{Kind: 999}) != api.ErrNil || c.Commit() != api.ErrNil || c.Ack(0, 0) != api.ErrNil {
		t.Error("errors")
	}
}
