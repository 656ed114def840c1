package journal_test

import (
	"bytes"
	"hash/crc32"
	"math"
	"math/rand"
	"testing"

	"counterfoil/api"
	"counterfoil/disk"
	. "counterfoil/journal"
	"counterfoil/octet"
)

func TestFrame(t *testing.T) {
	table := crc32.MakeTable(crc32.Castagnoli)
	for _, record := range [][]byte{nil, []byte("a"), []byte("123456789"), make([]byte, 4096)} {
		head := octet.Put(octet.Put(nil, 0x0102030405060708, 8), uint64(len(record)), 2)
		sum := crc32.Checksum(append(bytes.Clone(head), record...), table)
		want := append(octet.Put(head, uint64(sum), 4), record...)
		if got := Frame(0x0102030405060708, record); !bytes.Equal(got, want) {
			t.Errorf("%x\n%x", got, want)
		}
	}
	if len(Frame(1, make([]byte, 4097))) != 0 {
		t.Error("too long")
	}
}

func join(l ...[]byte) []byte { return bytes.Join(l, nil) }

func TestScan(t *testing.T) {
	a, b, c := Frame(1, []byte("a")), Frame(2, nil), Frame(3, make([]byte, 4096))
	all := join(a, b, c)
	cases := []struct {
		b       []byte
		records int
		length  int
	}{
		{nil, 0, 0}, {all, 3, len(all)}, {append(bytes.Clone(all), 1, 2, 3), 3, len(all)},
		{all[:len(all)-1], 2, len(a) + len(b)}, {join(a, a), 1, len(a)}, {join(a, c), 1, len(a)}, {b, 0, 0}, {a[:13], 0, 0}, {a[:14], 0, 0},
		{Frame(0, []byte("a")), 0, 0}, {Frame(1<<32+1, []byte("a")), 0, 0},
	}
	for i, x := range cases {
		l, n := Scan(x.b)
		if len(l) != x.records || n != x.length {
			t.Error(i, len(l), n)
		}
	}
	l, _ := Scan(all)
	if string(l[0]) != "a" || len(l[1]) != 0 || len(l[2]) != 4096 {
		t.Error(l)
	}
	for i := range 8 * (len(a) + len(b)) {
		wrong := bytes.Clone(all)
		wrong[i/8] ^= 1 << (i % 8)
		want := 0
		if i/8 >= len(a) {
			want = 1
		}
		if l, _ := Scan(wrong); len(l) != want {
			t.Fatal("bit", i, len(l))
		}
	}
}

func TestScanSharesNothing(t *testing.T) {
	b := Frame(1, []byte("abc"))
	l, _ := Scan(b)
	l[0][0] = 'x'
	if again, _ := Scan(b); len(again) != 1 || string(again[0]) != "abc" {
		t.Error("shared memory")
	}
}

func TestScanRejectsLongRecords(t *testing.T) {
	record := make([]byte, 4097)
	head := octet.Put(octet.Put(nil, 1, 8), uint64(len(record)), 2)
	sum := crc32.Checksum(append(bytes.Clone(head), record...), crc32.MakeTable(crc32.Castagnoli))
	if l, n := Scan(append(octet.Put(head, uint64(sum), 4), record...)); len(l) != 0 || n != 0 {
		t.Error(len(l), n)
	}
}

func open(t *testing.T, d *disk.Disk) *Journal {
	t.Helper()
	j, e := Open(d)
	if e != api.OK {
		t.Fatal(e)
	}
	return j
}

func TestJournal(t *testing.T) {
	d := disk.New(100)
	j := open(t, d)
	b := []byte("first")
	if e := j.Write(b); e != api.OK || j.Len() != 1 || d.Safe() != 0 {
		t.Error(e)
	}
	b[0] = 'x'
	got, ok := j.Get(1)
	if string(got) != "first" || !ok {
		t.Error(string(got), ok)
	}
	got[0] = 'x'
	if got, _ := j.Get(1); string(got) != "first" {
		t.Error("shared memory")
	}
	for _, n := range []int{0, 2, -1, math.MaxInt, math.MinInt} {
		if got, ok := j.Get(n); len(got) != 0 || ok {
			t.Error(n, got, ok)
		}
	}
	if e := j.Sync(); e != api.OK || d.Safe() != 19 || d.Syncs() != 1 {
		t.Error(e)
	}
	if e := j.Write(make([]byte, 4097)); e != api.ErrLong || j.Len() != 1 || d.Len() != 19 {
		t.Error(e)
	}
	if e := j.Write(make([]byte, 68)); e != api.ErrFull || j.Len() != 1 || d.Len() != 19 {
		t.Error(e)
	}
	if e := j.Write(make([]byte, 67)); e != api.OK || !bytes.Equal(d.Read(), join(Frame(1, []byte("first")), Frame(2, make([]byte, 67)))) {
		t.Error(e)
	}
	again := open(t, d)
	if got, ok := again.Get(2); again.Len() != 2 || len(got) != 67 || !ok {
		t.Error(again.Len())
	}
}

func TestOpenCuts(t *testing.T) {
	d := disk.New(1000)
	j := open(t, d)
	j.Write([]byte("a"))
	j.Sync()
	j.Write([]byte("b"))
	d.Crash(3, 0)
	j = open(t, d)
	if j.Len() != 1 || d.Len() != 15 || d.Safe() != 15 {
		t.Error(j.Len(), d.Len())
	}
	j.Write([]byte("c"))
	if got, _ := open(t, d).Get(2); string(got) != "c" || d.Safe() != 30 {
		t.Error(string(got))
	}
	if j, e := Open(nil); j != nil || e != api.ErrNil {
		t.Error(j, e)
	}
}

func TestTheLongestRecord(t *testing.T) {
	d := disk.New(10000)
	j := open(t, d)
	if e := j.Write(make([]byte, 4096)); e != api.OK || d.Len() != 4110 || MostRecord != 4096 {
		t.Error(e)
	}
	if got, ok := open(t, d).Get(1); len(got) != 4096 || !ok {
		t.Error(len(got), ok)
	}
}

func TestNil(t *testing.T) {
	var j *Journal
	if _, ok := j.Get(1); ok || j.Len() != 0 {
		t.Error("nil")
	}
	if j.Write(make([]byte, 5000)) != api.ErrNil || j.Sync() != api.ErrNil {
		t.Error("errors")
	}
}

func TestCrashesKeepSyncedRecords(t *testing.T) {
	rnd := rand.New(rand.NewSource(21))
	for range 300 {
		d := disk.New(10000)
		j := open(t, d)
		var records [][]byte
		synced := 0
		for range rnd.Intn(12) {
			b := make([]byte, rnd.Intn(20))
			rnd.Read(b)
			records = append(records, b)
			j.Write(b)
			if rnd.Intn(4) == 0 {
				j.Sync()
				synced = len(records)
			}
		}
		d.Crash(rnd.Intn(100), byte(rnd.Intn(4)))
		j = open(t, d)
		if j.Len() < synced || j.Len() > len(records) {
			t.Fatal(j.Len(), synced)
		}
		for i := range j.Len() {
			if b, _ := j.Get(i + 1); !bytes.Equal(b, records[i]) {
				t.Fatal("record", i)
			}
		}
	}
}
