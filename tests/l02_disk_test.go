package tests

import (
	"bytes"
	"fmt"
	"math"
	"reflect"
	"slices"
	"testing"

	"loop.example/g00341/impl"
)

const half = impl.Sector / 2

// sectorOf: a sector each byte of which tells mark and its place, so that a byte at a wrong place shows.
func sectorOf(mark int) []byte {
	s := make([]byte, impl.Sector)
	for i := range s {
		s[i] = byte(mark*53 + i*29 + 1)
	}
	return s
}

// halves: the first half of one sector, and the second half of another.
func halves(first, second []byte) []byte {
	return append(bytes.Clone(first[:half]), second[half:]...)
}

func zeros() []byte { return make([]byte, impl.Sector) }

// safeDisk: a disk of these sectors on which nothing waits.
func safeDisk(sectors ...[]byte) impl.Disk {
	d := impl.Disk{}
	for _, s := range sectors {
		d.Safe = append(d.Safe, bytes.Clone(s))
	}
	return d
}

func waiting(d impl.Disk, waits ...impl.Wait) impl.Disk {
	out := safeDisk(d.Safe...)
	for _, w := range slices.Concat(d.Waits, waits) {
		out.Waits = append(out.Waits, impl.Wait{At: w.At, Data: bytes.Clone(w.Data)})
	}
	return out
}

func wait(at, mark int) impl.Wait { return impl.Wait{At: at, Data: sectorOf(mark)} }

func sameWait(a, b impl.Wait) bool { return a.At == b.At && bytes.Equal(a.Data, b.Data) }

func sameDisk(a, b impl.Disk) bool {
	return slices.EqualFunc(a.Safe, b.Safe, bytes.Equal) && slices.EqualFunc(a.Waits, b.Waits, sameWait)
}

func wantDisk(t *testing.T, what string, got, want impl.Disk) {
	t.Helper()
	if !sameDisk(got, want) {
		t.Errorf("%s = %v; want %v", what, got, want)
	}
}

func wantSector(t *testing.T, d impl.Disk, at int, data []byte) {
	t.Helper()
	if got, ok := impl.ReadSector(d, at); !ok || !bytes.Equal(got, data) {
		t.Errorf("sector %d = %v, %t; want %v", at, got, ok, data)
	}
}

func wantNoSector(t *testing.T, d impl.Disk, at int) {
	t.Helper()
	if got, ok := impl.ReadSector(d, at); ok || len(got) != 0 {
		t.Errorf("sector %d of %d = %v, %t; want nothing and false", at, len(d.Safe), got, ok)
	}
}

func written(t *testing.T, d impl.Disk, at int, data []byte) impl.Disk {
	t.Helper()
	out, ok := impl.WriteSector(d, at, data)
	if !ok {
		t.Fatalf("sector %d of %d is not written", at, len(d.Safe))
	}
	return out
}

func TestLimitsOfTheDisk(t *testing.T) {
	if impl.Sector != 32 || impl.MaxSectors != 2000 {
		t.Fatal(impl.Sector, impl.MaxSectors)
	}
}

func TestDiskNew(t *testing.T) {
	for _, n := range []int{0, 1, 2, 31, 32, impl.MaxSectors - 1, impl.MaxSectors} {
		d, ok := impl.DiskNew(n)
		if !ok || len(d.Safe) != n || len(d.Waits) != 0 || !impl.DiskOk(d) {
			t.Fatal(n, ok, len(d.Safe), len(d.Waits))
		}
		for at := range n {
			if !bytes.Equal(d.Safe[at], zeros()) {
				t.Fatal(n, at, d.Safe[at])
			}
		}
		wantNoSector(t, d, n)
	}
	for _, n := range []int{-1, -2, impl.MaxSectors + 1, impl.MaxSectors + 2, math.MinInt, math.MaxInt} {
		d, ok := impl.DiskNew(n)
		if ok {
			t.Error(n, "sectors are taken")
		}
		wantDisk(t, fmt.Sprintf("DiskNew(%d)", n), d, impl.Disk{})
	}
}

// badDisks: one a way in which a disk is not DiskOk, with its limit passed by one.
func badDisks() map[string]impl.Disk {
	two := safeDisk(sectorOf(1), sectorOf(2))
	long := append(sectorOf(3), 0)
	bad := map[string]impl.Disk{
		"a sector too many":              {Safe: slices.Repeat([][]byte{sectorOf(1)}, impl.MaxSectors+1)},
		"a first sector too short":       safeDisk(sectorOf(1)[1:], sectorOf(2)),
		"a last sector too short":        safeDisk(sectorOf(1), sectorOf(2)[1:]),
		"a first sector too long":        safeDisk(long, sectorOf(2)),
		"a last sector too long":         safeDisk(sectorOf(1), long),
		"an empty sector":                safeDisk(sectorOf(1), nil),
		"a Wait below the sectors":       waiting(two, wait(-1, 3)),
		"a Wait behind the sectors":      waiting(two, wait(2, 3)),
		"a Wait far below":               waiting(two, wait(math.MinInt, 3)),
		"a Wait far behind":              waiting(two, wait(math.MaxInt, 3)),
		"a first Wait of no sector":      waiting(two, wait(2, 3), wait(0, 4)),
		"a last Wait of no sector":       waiting(two, wait(0, 3), wait(1, 4), wait(2, 5)),
		"a Wait where there is nothing":  waiting(impl.Disk{}, wait(0, 3)),
		"a Wait too short":               waiting(two, impl.Wait{At: 0, Data: sectorOf(3)[1:]}),
		"a Wait too long":                waiting(two, impl.Wait{At: 0, Data: long}),
		"an empty Wait":                  waiting(two, impl.Wait{At: 0}),
		"a last Wait too long":           waiting(two, wait(0, 3), impl.Wait{At: 1, Data: long}),
		"a Wait too many":                waiting(two, slices.Repeat([]impl.Wait{wait(1, 3)}, impl.MaxSectors+1)...),
		"a Wait too many, all sectors":   waiting(impl.Disk{Safe: slices.Repeat([][]byte{sectorOf(1)}, impl.MaxSectors)}, slices.Repeat([]impl.Wait{wait(1, 3)}, impl.MaxSectors+1)...),
		"a sector and a Wait both wrong": waiting(safeDisk(long), wait(7, 3)),
	}
	return bad
}

func TestDisksThatAreNotOk(t *testing.T) {
	for what, d := range badDisks() {
		if impl.DiskOk(d) {
			t.Errorf("%s: it is DiskOk", what)
		}
		for _, at := range []int{0, 1, -1, 2} {
			if data, ok := impl.ReadSector(d, at); ok || len(data) != 0 {
				t.Errorf("%s: sector %d = %v, %t", what, at, data, ok)
			}
			for _, data := range [][]byte{sectorOf(9), nil, sectorOf(9)[1:]} {
				out, ok := impl.WriteSector(d, at, data)
				if ok {
					t.Errorf("%s: sector %d is written", what, at)
				}
				wantDisk(t, what+": WriteSector", out, impl.Disk{})
			}
		}
		wantDisk(t, what+": Flush", impl.Flush(d), impl.Disk{})
		wantDisk(t, what+": Crash", impl.Crash(d, nil, -1), impl.Disk{})
		wantDisk(t, what+": Crash", impl.Crash(d, []bool{true, true}, 0), impl.Disk{})
	}
}

func TestDisksThatAreOk(t *testing.T) {
	two := safeDisk(sectorOf(1), sectorOf(2))
	full := slices.Repeat([]impl.Wait{wait(1, 3)}, impl.MaxSectors)
	for i, d := range []impl.Disk{
		{},
		{Safe: [][]byte{}, Waits: []impl.Wait{}},
		two,
		waiting(two, wait(0, 3)),
		waiting(two, wait(1, 3), wait(0, 4), wait(1, 5)),
		waiting(two, full...),
		waiting(impl.Disk{Safe: slices.Repeat([][]byte{sectorOf(1)}, impl.MaxSectors)}, full...),
	} {
		if !impl.DiskOk(d) {
			t.Error(i, "it is not DiskOk")
		}
	}
}

func TestWhatIsWrittenIsRead(t *testing.T) {
	d := safeDisk(sectorOf(1), sectorOf(2), sectorOf(3))
	for at := range d.Safe {
		w := written(t, d, at, sectorOf(7))
		wantDisk(t, "WriteSector", w, waiting(d, wait(at, 7)))
		for other := range d.Safe {
			want := sectorOf(other + 1)
			if other == at {
				want = sectorOf(7)
			}
			wantSector(t, w, other, want)
			wantSector(t, impl.Flush(w), other, want)
			wantSector(t, d, other, sectorOf(other+1))
		}
	}
}

func TestTheLastOfSeveralWritesIsRead(t *testing.T) {
	d, _ := impl.DiskNew(3)
	d = written(t, d, 1, sectorOf(1))
	d = written(t, d, 2, sectorOf(2))
	d = written(t, d, 1, sectorOf(3))
	d = written(t, d, 1, sectorOf(4))
	d = written(t, d, 0, sectorOf(5))
	wantDisk(t, "five writes", d, waiting(safeDisk(zeros(), zeros(), zeros()), wait(1, 1), wait(2, 2), wait(1, 3), wait(1, 4), wait(0, 5)))
	wantSector(t, d, 0, sectorOf(5))
	wantSector(t, d, 1, sectorOf(4))
	wantSector(t, d, 2, sectorOf(2))
	wantDisk(t, "Flush", impl.Flush(d), safeDisk(sectorOf(5), sectorOf(4), sectorOf(2)))
}

func TestFlushOfNothing(t *testing.T) {
	wantDisk(t, "Flush", impl.Flush(impl.Disk{}), impl.Disk{})
	d := safeDisk(sectorOf(1), sectorOf(2))
	wantDisk(t, "Flush", impl.Flush(d), d)
}

func TestSectorsThatAreNotThere(t *testing.T) {
	for _, n := range []int{0, 1, 3, impl.MaxSectors} {
		d, _ := impl.DiskNew(n)
		for i := range min(n, 3) {
			d = written(t, d, n-1-i, sectorOf(i))
		}
		for _, at := range []int{-1, -2, n, n + 1, impl.MaxSectors, impl.MaxSectors + 1, math.MinInt, math.MaxInt} {
			wantNoSector(t, d, at)
			out, ok := impl.WriteSector(d, at, sectorOf(9))
			if ok {
				t.Errorf("sector %d of %d is written", at, n)
			}
			wantDisk(t, "WriteSector", out, d)
		}
	}
}

func TestDataThatIsNotASectors(t *testing.T) {
	d := waiting(safeDisk(sectorOf(1), sectorOf(2)), wait(1, 3))
	for _, count := range []int{0, 1, half, impl.Sector - 1, impl.Sector + 1, 2 * impl.Sector, 1000} {
		for at := -1; at <= 2; at++ {
			out, ok := impl.WriteSector(d, at, make([]byte, count))
			if ok {
				t.Errorf("%d bytes are written", count)
			}
			wantDisk(t, "WriteSector", out, d)
		}
	}
	// The bytes that lack lie behind the length, where nobody may read.
	roomyData, _ := roomy(sectorOf(4)[1:])
	out, ok := impl.WriteSector(d, 0, roomyData)
	if ok {
		t.Error("bytes behind the length are written")
	}
	wantDisk(t, "WriteSector", out, d)
}

func TestMaxSectorsWait(t *testing.T) {
	d := safeDisk(sectorOf(1), sectorOf(2), sectorOf(3))
	for i := range impl.MaxSectors - 1 {
		d.Waits = append(d.Waits, wait(i%3, i))
	}
	full := written(t, d, 1, sectorOf(77))
	if len(full.Waits) != impl.MaxSectors || !impl.DiskOk(full) {
		t.Fatal(len(full.Waits))
	}
	wantSector(t, full, 1, sectorOf(77))
	out, ok := impl.WriteSector(full, 1, sectorOf(78))
	if ok {
		t.Error("a write too many is taken")
	}
	wantDisk(t, "WriteSector", out, full)
	flushed := impl.Flush(full)
	wantDisk(t, "Flush", flushed, safeDisk(sectorOf(impl.MaxSectors-2), sectorOf(77), sectorOf(impl.MaxSectors-3)))
	written(t, flushed, 1, sectorOf(78))
	keep := slices.Repeat([]bool{true}, impl.MaxSectors)
	wantDisk(t, "Crash", impl.Crash(full, keep, -1), flushed)
	keep[impl.MaxSectors-1] = false
	wantSector(t, impl.Crash(full, keep, -1), 1, sectorOf(impl.MaxSectors-4))
}

func TestAllSectorsOfAFullDisk(t *testing.T) {
	d, _ := impl.DiskNew(impl.MaxSectors)
	for at := range impl.MaxSectors {
		d.Waits = append(d.Waits, wait(at, at+1))
	}
	if !impl.DiskOk(d) {
		t.Fatal("it is not DiskOk")
	}
	f := impl.Flush(d)
	for at := range impl.MaxSectors {
		if !bytes.Equal(f.Safe[at], sectorOf(at+1)) {
			t.Fatal(at, f.Safe[at])
		}
	}
	wantSector(t, d, impl.MaxSectors-1, sectorOf(impl.MaxSectors))
}

const kept, lost = true, false

func TestCrash(t *testing.T) {
	start := safeDisk(sectorOf(10), sectorOf(11), sectorOf(12))
	apart := waiting(start, wait(0, 1), wait(2, 2), wait(1, 3))
	one := waiting(start, wait(1, 1), wait(1, 2), wait(1, 3))
	mixed := waiting(start, wait(1, 1), wait(0, 2), wait(1, 3), wait(0, 4), wait(1, 5))
	s := sectorOf
	for i, c := range []struct {
		d    impl.Disk
		keep []bool
		torn int
		want impl.Disk
	}{
		{apart, nil, -1, start},
		{apart, []bool{lost, lost, lost}, -1, start},
		{apart, []bool{kept, kept, kept}, -1, safeDisk(s(1), s(3), s(2))},
		{apart, []bool{kept, lost, lost}, -1, safeDisk(s(1), s(11), s(12))},
		{apart, []bool{lost, kept, lost}, -1, safeDisk(s(10), s(11), s(2))},
		{apart, []bool{lost, lost, kept}, -1, safeDisk(s(10), s(3), s(12))},
		{apart, []bool{kept, lost, kept}, -1, safeDisk(s(1), s(3), s(12))},
		// keep shorter and longer than what waits
		{apart, []bool{}, 0, start},
		{apart, []bool{kept}, -1, safeDisk(s(1), s(11), s(12))},
		{apart, []bool{kept, kept}, -1, safeDisk(s(1), s(11), s(2))},
		{apart, []bool{kept, kept, kept, kept, kept, lost, kept}, -1, safeDisk(s(1), s(3), s(2))},
		{apart, []bool{lost, lost, lost, kept, kept}, -1, start},
		{start, []bool{kept, kept, kept}, 0, start},
		{start, nil, -1, start},
		{impl.Disk{}, []bool{kept}, 0, impl.Disk{}},
		// torn where it is kept, where it is not, below 0 and past the end
		{apart, []bool{kept, kept, kept}, 0, safeDisk(halves(s(1), s(10)), s(3), s(2))},
		{apart, []bool{kept, kept, kept}, 1, safeDisk(s(1), s(3), halves(s(2), s(12)))},
		{apart, []bool{kept, kept, kept}, 2, safeDisk(s(1), halves(s(3), s(11)), s(2))},
		{apart, []bool{kept, lost, kept}, 1, safeDisk(s(1), s(3), s(12))},
		{apart, []bool{lost, lost, lost}, 0, start},
		{apart, []bool{kept, kept}, 2, safeDisk(s(1), s(11), s(2))},
		{apart, []bool{kept, kept, kept}, 3, safeDisk(s(1), s(3), s(2))},
		{apart, []bool{kept, kept, kept, kept}, 3, safeDisk(s(1), s(3), s(2))},
		{apart, []bool{kept, kept, kept}, -2, safeDisk(s(1), s(3), s(2))},
		{apart, []bool{kept, kept, kept}, math.MinInt, safeDisk(s(1), s(3), s(2))},
		{apart, []bool{kept, kept, kept}, math.MaxInt, safeDisk(s(1), s(3), s(2))},
		// several writes of one sector
		{one, []bool{kept, kept, kept}, -1, safeDisk(s(10), s(3), s(12))},
		{one, []bool{kept, kept, lost}, -1, safeDisk(s(10), s(2), s(12))},
		{one, []bool{kept, lost, lost}, -1, safeDisk(s(10), s(1), s(12))},
		{one, []bool{lost, kept, lost}, -1, safeDisk(s(10), s(2), s(12))},
		{one, []bool{kept, lost, kept}, -1, safeDisk(s(10), s(3), s(12))},
		{one, []bool{kept, kept, kept}, 0, safeDisk(s(10), s(3), s(12))},
		{one, []bool{kept, kept, kept}, 1, safeDisk(s(10), s(3), s(12))},
		{one, []bool{kept, kept, kept}, 2, safeDisk(s(10), halves(s(3), s(2)), s(12))},
		{one, []bool{kept, kept, lost}, 1, safeDisk(s(10), halves(s(2), s(1)), s(12))},
		{one, []bool{lost, kept, lost}, 1, safeDisk(s(10), halves(s(2), s(11)), s(12))},
		{one, []bool{lost, kept, kept}, 2, safeDisk(s(10), halves(s(3), s(2)), s(12))},
		{one, []bool{kept, lost, kept}, 2, safeDisk(s(10), halves(s(3), s(1)), s(12))},
		{one, []bool{lost, lost, kept}, 2, safeDisk(s(10), halves(s(3), s(11)), s(12))},
		{mixed, []bool{kept, kept, kept, kept, kept}, 4, safeDisk(s(4), halves(s(5), s(3)), s(12))},
		{mixed, []bool{kept, kept, kept, kept, lost}, 2, safeDisk(s(4), halves(s(3), s(1)), s(12))},
		{mixed, []bool{kept, kept, lost, kept, lost}, 3, safeDisk(halves(s(4), s(2)), s(1), s(12))},
		{mixed, []bool{lost, lost, lost, kept, kept}, 3, safeDisk(halves(s(4), s(10)), s(5), s(12))},
	} {
		wantDisk(t, fmt.Sprintf("case %d: Crash(.., %v, %d)", i, c.keep, c.torn), impl.Crash(c.d, c.keep, c.torn), c.want)
	}
}

func TestTornIsTheFirstHalfAlone(t *testing.T) {
	d := waiting(safeDisk(bytes.Repeat([]byte{1}, impl.Sector)), impl.Wait{At: 0, Data: bytes.Repeat([]byte{2}, impl.Sector)})
	got := impl.Crash(d, []bool{true}, 0).Safe[0]
	want := append(bytes.Repeat([]byte{2}, 16), bytes.Repeat([]byte{1}, 16)...)
	if !bytes.Equal(got, want) {
		t.Errorf("torn: %v; want %v", got, want)
	}
}

func TestWhatWasFlushedIsThereBehindEachCrash(t *testing.T) {
	d, _ := impl.DiskNew(4)
	for at := range 4 {
		d = written(t, d, at, sectorOf(at+1))
	}
	d = impl.Flush(d)
	d = written(t, d, 1, sectorOf(21))
	d = written(t, d, 3, sectorOf(23))
	for kinds := range 16 {
		var keep []bool
		for i := range 4 {
			keep = append(keep, kinds>>i&1 == 1)
		}
		for torn := -1; torn < 4; torn++ {
			c := impl.Crash(d, keep, torn)
			wantSector(t, c, 0, sectorOf(1))
			wantSector(t, c, 2, sectorOf(3))
			if !keep[0] {
				wantSector(t, c, 1, sectorOf(2))
			}
			if !keep[1] {
				wantSector(t, c, 3, sectorOf(4))
			}
		}
	}
}

// steps: numbers that look mixed and are the same at each run.
type steps struct{ state uint32 }

func (s *steps) below(n int) int {
	s.state = s.state*1664525 + 1013904223
	return int(s.state>>8) % n
}

// model: a disk as the chapter tells it, its sectors as values that cannot be shared.
type model struct {
	safe  [][impl.Sector]byte
	waits []struct {
		at   int
		data [impl.Sector]byte
	}
}

func (m *model) write(at int, data []byte) {
	m.waits = append(m.waits, struct {
		at   int
		data [impl.Sector]byte
	}{at, [impl.Sector]byte(data)})
}

func (m *model) end(keep func(i int) bool, torn int) {
	for i, w := range m.waits {
		for k := range w.data {
			if keep(i) && (i != torn || k < half) {
				m.safe[w.at][k] = w.data[k]
			}
		}
	}
	m.waits = nil
}

func (m *model) disk() impl.Disk {
	d := impl.Disk{}
	for _, s := range m.safe {
		d.Safe = append(d.Safe, s[:])
	}
	for _, w := range m.waits {
		d.Waits = append(d.Waits, impl.Wait{At: w.at, Data: w.data[:]})
	}
	return d
}

func TestLongMixedUse(t *testing.T) {
	s := &steps{state: 5}
	for _, sectors := range []int{1, 2, 5} {
		d, _ := impl.DiskNew(sectors)
		m := &model{safe: make([][impl.Sector]byte, sectors)}
		for step := range 3000 {
			switch s.below(8) {
			case 0:
				d = impl.Flush(d)
				m.end(func(int) bool { return true }, -1)
			case 1:
				keep := make([]bool, s.below(len(d.Waits)+3))
				for i := range keep {
					keep[i] = s.below(3) > 0
				}
				torn := s.below(len(d.Waits)+3) - 1
				d = impl.Crash(d, keep, torn)
				m.end(func(i int) bool { return i < len(keep) && keep[i] }, torn)
			default:
				at := s.below(sectors)
				d = written(t, d, at, sectorOf(step))
				m.write(at, sectorOf(step))
				wantSector(t, d, at, sectorOf(step))
			}
			if !sameDisk(d, m.disk()) {
				t.Fatalf("%d sectors, step %d: %v; want %v", sectors, step, d, m.disk())
			}
		}
	}
}

// roomyDisk: d with spare room behind each of its lists.
func roomyDisk(d impl.Disk) impl.Disk {
	spare, _ := roomy(sectorOf(50))
	out := impl.Disk{
		Safe:  slices.Repeat([][]byte{spare}, len(d.Safe)+3)[:len(d.Safe)],
		Waits: slices.Repeat([]impl.Wait{{At: 0, Data: spare}}, len(d.Waits)+3)[:len(d.Waits)],
	}
	for i, s := range d.Safe {
		out.Safe[i], _ = roomy(s)
	}
	for i, w := range d.Waits {
		data, _ := roomy(w.Data)
		out.Waits[i] = impl.Wait{At: w.At, Data: data}
	}
	return out
}

// wholeDisk: a copy of all memory of d, the spare room too.
func wholeDisk(d impl.Disk) impl.Disk {
	out := impl.Disk{}
	for _, s := range d.Safe[:cap(d.Safe)] {
		out.Safe = append(out.Safe, bytes.Clone(s[:cap(s)]))
	}
	for _, w := range d.Waits[:cap(d.Waits)] {
		out.Waits = append(out.Waits, impl.Wait{At: w.At, Data: bytes.Clone(w.Data[:cap(w.Data)])})
	}
	return out
}

// spoilDisk writes into all that an answer hands out, its spare room too.
func spoilDisk(d impl.Disk) {
	for i, s := range d.Safe[:cap(d.Safe)] {
		spoil(s)
		d.Safe[:cap(d.Safe)][i] = nil
	}
	for i, w := range d.Waits[:cap(d.Waits)] {
		spoil(w.Data)
		d.Waits[:cap(d.Waits)][i] = impl.Wait{At: -5}
	}
}

// wantOwnLists: no two lists of a disk share memory.
func wantOwnLists(t *testing.T, what string, d impl.Disk) {
	t.Helper()
	lists := slices.Clone(d.Safe)
	for _, w := range d.Waits {
		lists = append(lists, w.Data)
	}
	for i, l := range lists {
		ahead := make([][]byte, len(lists))
		for k, o := range lists {
			ahead[k] = bytes.Clone(o)
		}
		spoil(l)
		for k, o := range lists {
			if k != i && !bytes.Equal(o, ahead[k]) {
				t.Fatalf("%s: lists %d and %d of the answer share memory", what, i, k)
			}
		}
	}
}

// wantDiskApart: asking changes no memory of d, nor does writing into the answer; writing into d changes no answer.
func wantDiskApart(t *testing.T, what string, d impl.Disk, ask func(d impl.Disk) impl.Disk) {
	t.Helper()
	d = roomyDisk(d)
	ahead := wholeDisk(d)
	first := ask(d)
	if !reflect.DeepEqual(wholeDisk(d), ahead) {
		t.Fatalf("%s: the disk is changed by the call", what)
	}
	second, third := ask(d), ask(d)
	want := waiting(first)
	wantOwnLists(t, what, third)
	spoilDisk(first)
	if !reflect.DeepEqual(wholeDisk(d), ahead) {
		t.Fatalf("%s: the disk is changed through the answer", what)
	}
	if !sameDisk(second, want) {
		t.Fatalf("%s: two answers share memory", what)
	}
	spoilDisk(d)
	if !sameDisk(second, want) {
		t.Fatalf("%s: the answer shares memory with the disk", what)
	}
}

func TestDisksTakeNewMemory(t *testing.T) {
	start := safeDisk(sectorOf(10), sectorOf(11), sectorOf(12))
	full := waiting(start, slices.Repeat([]impl.Wait{wait(1, 3)}, impl.MaxSectors)...)
	full.Safe = full.Safe[:2]
	for i, d := range []impl.Disk{{}, start, waiting(start, wait(1, 1)), waiting(start, wait(1, 1), wait(0, 2), wait(1, 3))} {
		for at := -1; at <= 3; at++ {
			for _, count := range []int{0, impl.Sector - 1, impl.Sector, impl.Sector + 1} {
				wantDiskApart(t, fmt.Sprintf("disk %d: WriteSector(%d) of %d bytes", i, at, count), d, func(d impl.Disk) impl.Disk {
					out, _ := impl.WriteSector(d, at, make([]byte, count))
					return out
				})
			}
		}
		wantDiskApart(t, fmt.Sprintf("disk %d: Flush", i), d, impl.Flush)
		for torn := -1; torn < 4; torn++ {
			for _, keep := range [][]bool{nil, {lost, lost, lost}, {kept, lost, kept}, {kept, kept, kept, kept}} {
				wantDiskApart(t, fmt.Sprintf("disk %d: Crash(%v, %d)", i, keep, torn), d, func(d impl.Disk) impl.Disk {
					return impl.Crash(d, keep, torn)
				})
			}
		}
	}
	out, ok := impl.WriteSector(full, 0, sectorOf(1))
	want := waiting(full)
	spoilDisk(out)
	if ok || !sameDisk(full, want) {
		t.Error("a full disk is changed through what was handed back")
	}
}

func TestDataAndKeepAreLeftAlone(t *testing.T) {
	d := waiting(safeDisk(sectorOf(10), sectorOf(11)), wait(0, 1), wait(1, 2))
	for _, given := range [][]byte{sectorOf(5), sectorOf(5)[1:], append(sectorOf(5), 1), nil} {
		data, all := roomy(given)
		wantApart(t, fmt.Sprintf("WriteSector of %d bytes", len(data)), func() []byte {
			out, _ := impl.WriteSector(d, 1, data)
			return out.Waits[len(out.Waits)-1].Data
		}, all)
	}
	data := sectorOf(5)
	w := written(t, d, 1, data)
	spoil(data)
	wantSector(t, w, 1, sectorOf(5))
	spoil(w.Waits[2].Data)
	if !bytes.Equal(data, spoiled(sectorOf(5))) {
		t.Error("data is changed through the answer")
	}
	memory := []bool{kept, lost, kept, lost, kept, kept}
	want := slices.Clone(memory)
	impl.Crash(d, memory[:1], 0)
	impl.Crash(d, memory[:4], 1)
	if !slices.Equal(memory, want) {
		t.Error("keep is changed")
	}
	// What lies behind the length of keep is not read.
	wantDisk(t, "Crash", impl.Crash(d, memory[:0], -1), safeDisk(sectorOf(10), sectorOf(11)))
}

func spoiled(b []byte) []byte {
	spoil(b)
	return b
}

func TestReadSectorTakesNewMemory(t *testing.T) {
	start := safeDisk(sectorOf(10), sectorOf(11))
	for _, d := range []impl.Disk{start, waiting(start, wait(0, 1), wait(0, 2))} {
		d = roomyDisk(d)
		ahead := wholeDisk(d)
		for at := -1; at <= 2; at++ {
			one, _ := impl.ReadSector(d, at)
			two, _ := impl.ReadSector(d, at)
			want := bytes.Clone(two)
			spoil(one)
			if !bytes.Equal(two, want) || !reflect.DeepEqual(wholeDisk(d), ahead) {
				t.Errorf("sector %d is handed out itself", at)
			}
		}
	}
}

// A disk whose sectors share memory is the same value as one whose sectors don't.
func TestSectorsThatShareMemory(t *testing.T) {
	one := sectorOf(1)
	d := impl.Disk{Safe: [][]byte{one, one, one}, Waits: []impl.Wait{{At: 1, Data: sectorOf(2)}, {At: 2, Data: one}}}
	wantDisk(t, "Flush", impl.Flush(d), safeDisk(sectorOf(1), sectorOf(2), sectorOf(1)))
	wantDisk(t, "Crash", impl.Crash(d, []bool{kept}, 0), safeDisk(sectorOf(1), halves(sectorOf(2), sectorOf(1)), sectorOf(1)))
	wantDisk(t, "WriteSector", written(t, d, 0, one), waiting(d, wait(0, 1)))
}

func TestSpareRoomOfADiskIsNotThere(t *testing.T) {
	d := roomyDisk(waiting(safeDisk(sectorOf(10), sectorOf(11)), wait(1, 1)))
	wantNoSector(t, d, 2)
	if !impl.DiskOk(d) {
		t.Fatal("spare room spoils a disk")
	}
	d.Waits = append(d.Waits[:0:0], wait(2, 3))
	if impl.DiskOk(d) {
		t.Error("a Wait of a sector in the spare room is taken")
	}
}
