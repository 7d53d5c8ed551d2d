package tests

import (
	"bytes"
	"fmt"
	"math"
	"reflect"
	"slices"
	"testing"

	"loop.example/g00341/impl"
)

// recordOf: a record of count bytes none of which is 0, so that a byte 0 behind it shows.
func recordOf(mark, count int) []byte {
	rec := make([]byte, count)
	for i := range rec {
		rec[i] = byte((mark*41+i*7)%255 + 1)
	}
	return rec
}

// recordSizes: no bytes, whole pieces, and what lies beside them.
var recordSizes = []int{0, 1, 2, 23, 24, 25, 47, 48, 49, 71, 72, 73, 95, 96, 97, 119, 120, 121, 143, 144, 145, 167, 168, 169, 191, 192, 193, 199, 200}

// sectorCount: how many sectors a record's frame has, counted piece by piece.
func sectorCount(size int) int {
	count := 1
	for size > 24 {
		size -= 24
		count++
	}
	return count
}

// laidFrame: a frame as the chapter lays it, byte by byte, with any size at byte 4.
func laidFrame(seq int, rec []byte) [][]byte {
	var frame [][]byte
	count := sectorCount(len(rec))
	for place := range count {
		s := zeros()
		s[0], s[1] = byte(seq&255), byte(seq>>8)
		s[2], s[3], s[4], s[5] = byte(place), byte(count), byte(len(rec)), 0
		for i := 0; i < 24 && place*24+i < len(rec); i++ {
			s[6+i] = rec[place*24+i]
		}
		s[30], s[31] = byte((seq+1)&255), byte((seq+1)>>8)
		frame = append(frame, s)
	}
	return frame
}

// frames: the frames of these records with the numbers from 0 on, one behind the other.
func frames(recs ...[]byte) [][]byte {
	var all [][]byte
	for seq, rec := range recs {
		all = append(all, laidFrame(seq, rec)...)
	}
	return all
}

// lying: a disk of n sectors on which these lie from 0 on.
func lying(n int, sectors [][]byte) impl.Disk {
	d := safeDisk(sectors...)
	for len(d.Safe) < n {
		d.Safe = append(d.Safe, zeros())
	}
	return d
}

func sameLists(a, b [][]byte) bool { return slices.EqualFunc(a, b, bytes.Equal) }

func sameJournal(a, b impl.Journal) bool {
	return sameDisk(a.Disk, b.Disk) && a.Next == b.Next && a.Seq == b.Seq
}

func wantOpen(t *testing.T, what string, d impl.Disk, next int, recs ...[]byte) {
	t.Helper()
	j, got, ok := impl.Open(d)
	if !ok || j.Next != next || j.Seq != len(recs) || !sameLists(got, recs) {
		t.Errorf("%s: Next %d, Seq %d, %v, %t; want Next %d, Seq %d, %v", what, j.Next, j.Seq, got, ok, next, len(recs), recs)
	}
	wantDisk(t, what+": the disk", j.Disk, d)
}

func appended(t *testing.T, j impl.Journal, rec []byte) impl.Journal {
	t.Helper()
	out, ok := impl.Append(j, rec)
	if !ok {
		t.Fatalf("a record of %d bytes is not appended at %d with %d", len(rec), j.Next, j.Seq)
	}
	return out
}

// wantRefused: the record is not appended, and the journal is handed back as it was.
func wantRefused(t *testing.T, what string, j impl.Journal, rec []byte) {
	t.Helper()
	if out, ok := impl.Append(j, rec); ok || !sameJournal(out, j) {
		t.Errorf("%s: Next %d, Seq %d, %t; want the journal and false", what, out.Next, out.Seq, ok)
	}
}

// wantNoJournal: what was given is no journal, and nothing comes back.
func wantNoJournal(t *testing.T, what string, j impl.Journal, rec []byte) {
	t.Helper()
	if out, ok := impl.Append(j, rec); ok || !sameJournal(out, impl.Journal{}) {
		t.Errorf("%s: %v, %t; want the zero value and false", what, out, ok)
	}
}

func TestLimitsOfTheJournal(t *testing.T) {
	if impl.MaxRecord != 200 || impl.Load != 24 || impl.MaxSeq != 60000 {
		t.Fatal(impl.MaxRecord, impl.Load, impl.MaxSeq)
	}
}

func TestFrameOfTwoSectors(t *testing.T) {
	want := [][]byte{
		append([]byte{255, 2, 0, 2, 26, 0}, "abcdefghijklmnopqrstuvwx\x00\x03"...),
		append([]byte{255, 2, 1, 2, 26, 0}, "yz\x00\x00\x00\x00\x00\x00\x00\x00\x00\x00\x00\x00\x00\x00\x00\x00\x00\x00\x00\x00\x00\x00\x00\x03"...),
	}
	if got := impl.Frame(767, []byte("abcdefghijklmnopqrstuvwxyz")); !sameLists(got, want) {
		t.Errorf("%v; want %v", got, want)
	}
}

func TestFrameOfNoBytes(t *testing.T) {
	want := zeros()
	want[3], want[30] = 1, 1
	for _, rec := range [][]byte{nil, {}} {
		if got := impl.Frame(0, rec); !sameLists(got, [][]byte{want}) {
			t.Errorf("%v; want %v", got, want)
		}
	}
}

func TestFramesHaveNoSectorMoreThanPieces(t *testing.T) {
	for size, want := range map[int]int{0: 1, 1: 1, 23: 1, 24: 1, 25: 2, 47: 2, 48: 2, 49: 3, 72: 3, 73: 4, 96: 4, 120: 5, 144: 6, 168: 7, 192: 8, 193: 9, 200: 9} {
		if got := len(impl.Frame(3, recordOf(1, size))); got != want {
			t.Errorf("%d bytes have %d sectors; want %d", size, got, want)
		}
	}
}

func TestFrames(t *testing.T) {
	for _, seq := range []int{0, 1, 2, 127, 128, 254, 255, 256, 257, 510, 511, 512, 32767, 32768, 59903, 59904, impl.MaxSeq - 2, impl.MaxSeq - 1} {
		for size := range impl.MaxRecord + 1 {
			rec := recordOf(seq, size)
			if got, want := impl.Frame(seq, rec), laidFrame(seq, rec); !sameLists(got, want) {
				t.Fatalf("Frame(%d, %d bytes) = %v; want %v", seq, size, got, want)
			}
		}
	}
	for _, size := range []int{1, 24, 30, impl.MaxRecord} {
		for _, rec := range [][]byte{make([]byte, size), bytes.Repeat([]byte{255}, size)} {
			if got, want := impl.Frame(9, rec), laidFrame(9, rec); !sameLists(got, want) {
				t.Fatalf("Frame(9, %v) = %v; want %v", rec, got, want)
			}
		}
	}
}

func TestNoFrame(t *testing.T) {
	for _, seq := range []int{-1, -2, impl.MaxSeq, impl.MaxSeq + 1, 65535, 65536, math.MinInt, math.MaxInt} {
		for _, size := range []int{0, 3, impl.MaxRecord, impl.MaxRecord + 1} {
			if got := impl.Frame(seq, recordOf(1, size)); len(got) != 0 {
				t.Errorf("Frame(%d, %d bytes) = %v", seq, size, got)
			}
		}
	}
	for _, size := range []int{impl.MaxRecord + 1, impl.MaxRecord + 2, 216, 217, 255, 256, 257, 300, 100000} {
		for _, seq := range []int{0, 7, impl.MaxSeq - 1} {
			if got := impl.Frame(seq, make([]byte, size)); len(got) != 0 {
				t.Errorf("Frame(%d, %d bytes) has %d sectors", seq, size, len(got))
			}
		}
	}
}

func TestRecordsComeBackInOrder(t *testing.T) {
	d, _ := impl.DiskNew(200)
	j, _, ok := impl.Open(d)
	if !ok {
		t.Fatal("a new disk is not opened")
	}
	wantOpen(t, "a new disk", d, 0)
	var recs [][]byte
	for i, size := range recordSizes {
		rec := recordOf(i, size)
		next := j.Next
		j = appended(t, j, rec)
		recs = append(recs, rec)
		if j.Next != next+sectorCount(size) || j.Seq != i+1 || len(j.Disk.Waits) != 0 {
			t.Fatal(size, j.Next, j.Seq, len(j.Disk.Waits))
		}
		wantDisk(t, fmt.Sprintf("behind %d records", i+1), j.Disk, lying(200, frames(recs...)))
		wantOpen(t, fmt.Sprintf("%d records", i+1), j.Disk, j.Next, recs...)
	}
}

func TestRecordsOfAllSizesComeBack(t *testing.T) {
	for size := range impl.MaxRecord + 1 {
		for _, rec := range [][]byte{recordOf(size, size), make([]byte, size), bytes.Repeat([]byte{255}, size)} {
			d, _ := impl.DiskNew(sectorCount(size) + 2)
			j := appended(t, impl.Journal{Disk: d}, rec)
			j = appended(t, j, []byte("end"))
			wantOpen(t, fmt.Sprintf("%d bytes", size), j.Disk, j.Next, rec, []byte("end"))
		}
	}
}

func TestAnOpenedJournalGoesOn(t *testing.T) {
	d, _ := impl.DiskNew(60)
	var recs [][]byte
	for i, size := range []int{3, 0, 24, 0, 200, 25, 1, 48} {
		j, got, ok := impl.Open(d)
		if !ok || !sameLists(got, recs) {
			t.Fatal(i, got, ok)
		}
		recs = append(recs, recordOf(i, size))
		d = appended(t, j, recs[i]).Disk
	}
	wantOpen(t, "eight sessions", d, len(frames(recs...)), recs...)
}

func TestRecordsAlikeAreSeveral(t *testing.T) {
	d, _ := impl.DiskNew(7)
	j := impl.Journal{Disk: d}
	for range 3 {
		j = appended(t, j, nil)
	}
	for range 3 {
		j = appended(t, j, []byte("a"))
	}
	a := []byte("a")
	wantOpen(t, "six records", j.Disk, 6, nil, nil, nil, a, a, a)
}

func TestADiskFullOfRecords(t *testing.T) {
	var recs [][]byte
	for i := range impl.MaxSectors {
		recs = append(recs, recordOf(i, i%25))
	}
	d := lying(0, frames(recs...))
	wantOpen(t, "a full disk", d, impl.MaxSectors, recs...)
	j, _, _ := impl.Open(d)
	wantRefused(t, "a full disk", j, nil)
	d.Safe[impl.MaxSectors-1] = zeros()
	wantOpen(t, "a sector fewer", d, impl.MaxSectors-1, recs[:impl.MaxSectors-1]...)
	j, _, _ = impl.Open(d)
	j = appended(t, j, recs[impl.MaxSectors-1])
	wantOpen(t, "filled up", j.Disk, impl.MaxSectors, recs...)
}

func TestADiskOfNoSectors(t *testing.T) {
	for _, d := range []impl.Disk{{}, {Safe: [][]byte{}, Waits: []impl.Wait{}}} {
		wantOpen(t, "no sectors", d, 0)
		for _, seq := range []int{0, 5, impl.MaxSeq} {
			wantRefused(t, "no sectors", impl.Journal{Disk: d, Seq: seq}, nil)
		}
		wantNoJournal(t, "Next 1 of none", impl.Journal{Disk: d, Next: 1}, nil)
		wantNoJournal(t, "Next -1 of none", impl.Journal{Disk: d, Next: -1}, nil)
	}
}

func TestAppendBySeq(t *testing.T) {
	d, _ := impl.DiskNew(12)
	for _, seq := range []int{0, 1, 254, 255, 256, 511, 32767, 59999 - 255, impl.MaxSeq - 2, impl.MaxSeq - 1} {
		for _, size := range []int{0, 24, 30, impl.MaxRecord} {
			rec := recordOf(seq, size)
			j := appended(t, impl.Journal{Disk: d, Next: 2, Seq: seq}, rec)
			want := lying(12, append([][]byte{zeros(), zeros()}, laidFrame(seq, rec)...))
			if !sameJournal(j, impl.Journal{Disk: want, Next: 2 + sectorCount(size), Seq: seq + 1}) {
				t.Errorf("Seq %d, %d bytes: %v", seq, size, j)
			}
		}
	}
	for _, rec := range [][]byte{nil, []byte("a"), recordOf(1, impl.MaxRecord), recordOf(1, impl.MaxRecord+1)} {
		wantRefused(t, "Seq MaxSeq", impl.Journal{Disk: d, Next: 2, Seq: impl.MaxSeq}, rec)
		for _, seq := range []int{-1, -2, impl.MaxSeq + 1, impl.MaxSeq + 2, 65535, 65536, math.MinInt, math.MaxInt} {
			wantNoJournal(t, fmt.Sprint("Seq ", seq), impl.Journal{Disk: d, Next: 2, Seq: seq}, rec)
		}
	}
}

func TestSeqMaxSeqIsReached(t *testing.T) {
	d, _ := impl.DiskNew(4)
	j := appended(t, impl.Journal{Disk: d, Seq: impl.MaxSeq - 1}, []byte("last"))
	if j.Next != 1 || j.Seq != impl.MaxSeq {
		t.Fatal(j.Next, j.Seq)
	}
	wantRefused(t, "behind the last number", j, []byte("more"))
}

func TestAppendByNext(t *testing.T) {
	var sectors [][]byte
	for i := range 5 {
		sectors = append(sectors, sectorOf(i))
	}
	d := safeDisk(sectors...)
	for next := range 5 {
		j := appended(t, impl.Journal{Disk: d, Next: next, Seq: 300}, []byte("abc"))
		want := slices.Clone(sectors)
		want[next] = laidFrame(300, []byte("abc"))[0]
		if !sameJournal(j, impl.Journal{Disk: safeDisk(want...), Next: next + 1, Seq: 301}) {
			t.Errorf("Next %d: %v", next, j)
		}
	}
	for _, rec := range [][]byte{nil, []byte("abc"), recordOf(1, impl.MaxRecord+1)} {
		wantRefused(t, "Next behind all sectors", impl.Journal{Disk: d, Next: 5, Seq: 300}, rec)
		for _, next := range []int{-1, -2, 6, 7, impl.MaxSectors, math.MinInt, math.MaxInt} {
			for _, seq := range []int{0, 300, impl.MaxSeq} {
				wantNoJournal(t, fmt.Sprint("Next ", next), impl.Journal{Disk: d, Next: next, Seq: seq}, rec)
			}
		}
	}
}

func TestJustAsManySectorsAsTheFrameHas(t *testing.T) {
	for _, size := range recordSizes {
		rec, count := recordOf(size, size), sectorCount(size)
		for _, next := range []int{0, 1, 3} {
			d, _ := impl.DiskNew(next + count)
			j := appended(t, impl.Journal{Disk: d, Next: next, Seq: 1}, rec)
			if j.Next != next+count || !sameLists(j.Disk.Safe[next:], laidFrame(1, rec)) {
				t.Errorf("%d bytes at %d of %d: %v", size, next, next+count, j)
			}
			short, _ := impl.DiskNew(next + count - 1)
			wantRefused(t, fmt.Sprintf("%d bytes at %d of %d", size, next, next+count-1), impl.Journal{Disk: short, Next: next, Seq: 1}, rec)
		}
	}
}

func TestRecordsThatAreTooLong(t *testing.T) {
	d, _ := impl.DiskNew(100)
	j := appended(t, impl.Journal{Disk: d}, recordOf(2, impl.MaxRecord))
	for _, size := range []int{impl.MaxRecord + 1, impl.MaxRecord + 2, 216, 255, 256, 257, 100000} {
		wantRefused(t, fmt.Sprint(size, " bytes"), j, make([]byte, size))
	}
	// The bytes that are too many lie behind the length, where nobody may read.
	rec, _ := roomy(recordOf(3, impl.MaxRecord))
	j = appended(t, j, rec)
	wantOpen(t, "two of MaxRecord", j.Disk, 18, recordOf(2, impl.MaxRecord), recordOf(3, impl.MaxRecord))
}

func TestWhatWaitsIsFlushedWithTheRecord(t *testing.T) {
	d := waiting(safeDisk(zeros(), zeros(), zeros(), sectorOf(4)), wait(1, 7), wait(0, 8), wait(2, 9), wait(0, 6))
	rec := recordOf(1, 30)
	j := appended(t, impl.Journal{Disk: d, Next: 1, Seq: 4}, rec)
	f := laidFrame(4, rec)
	if !sameJournal(j, impl.Journal{Disk: safeDisk(sectorOf(6), f[0], f[1], sectorOf(4)), Next: 3, Seq: 5}) {
		t.Error(j)
	}
	wantRefused(t, "no room", impl.Journal{Disk: d, Next: 3, Seq: 4}, rec)
}

func TestAsManyWaitAsMay(t *testing.T) {
	start, _ := impl.DiskNew(12)
	for _, size := range []int{0, 24, 25, 48, impl.MaxRecord} {
		rec, count := recordOf(size, size), sectorCount(size)
		d := waiting(start)
		for i := range impl.MaxSectors - count {
			d.Waits = append(d.Waits, wait(11, i))
		}
		j := appended(t, impl.Journal{Disk: d, Next: 1, Seq: 2}, rec)
		want := lying(12, append([][]byte{zeros()}, laidFrame(2, rec)...))
		want.Safe[11] = sectorOf(impl.MaxSectors - count - 1)
		if !sameJournal(j, impl.Journal{Disk: want, Next: 1 + count, Seq: 3}) {
			t.Errorf("%d bytes with %d that wait: %v", size, len(d.Waits), j)
		}
		d.Waits = append(d.Waits, wait(11, 5))
		wantRefused(t, fmt.Sprintf("%d bytes with %d that wait", size, len(d.Waits)), impl.Journal{Disk: d, Next: 1, Seq: 2}, rec)
		for len(d.Waits) < impl.MaxSectors {
			d.Waits = append(d.Waits, wait(11, 5))
		}
		wantRefused(t, "MaxSectors wait", impl.Journal{Disk: d, Next: 1, Seq: 2}, rec)
	}
}

func TestJournalsOfWrongDisks(t *testing.T) {
	for what, d := range badDisks() {
		for _, rec := range [][]byte{nil, []byte("a"), recordOf(1, impl.MaxRecord+1)} {
			for _, seq := range []int{0, impl.MaxSeq} {
				for next := range 2 {
					wantNoJournal(t, what, impl.Journal{Disk: d, Next: next, Seq: seq}, rec)
				}
			}
		}
		if j, recs, ok := impl.Open(d); ok || len(recs) != 0 || !sameJournal(j, impl.Journal{}) {
			t.Errorf("%s: Open = %v, %v, %t", what, j, recs, ok)
		}
	}
}

func TestOpenWhileSomethingWaits(t *testing.T) {
	recs := [][]byte{[]byte("abc"), nil}
	d := lying(4, frames(recs...))
	wantOpen(t, "nothing waits", d, 2, recs...)
	for at := range 4 {
		w := waiting(d, impl.Wait{At: at, Data: d.Safe[at]})
		if j, got, ok := impl.Open(w); ok || len(got) != 0 || !sameJournal(j, impl.Journal{}) {
			t.Errorf("a write of sector %d waits: %v, %v, %t", at, j, got, ok)
		}
		wantOpen(t, "flushed", impl.Flush(w), 2, recs...)
	}
}

// read: the record whose frame with seq begins the sectors, found by trying each size there may be.
func read(seq int, sectors [][]byte) (rec []byte, count int, ok bool) {
	var bytesThere []byte
	for _, s := range sectors {
		bytesThere = append(bytesThere, s[6:30]...)
	}
	for size := range min(200, len(bytesThere)) + 1 {
		frame := laidFrame(seq, bytesThere[:size])
		if len(frame) <= len(sectors) && sameLists(frame, sectors[:len(frame)]) {
			return bytesThere[:size], len(frame), true
		}
	}
	return nil, 0, false
}

// wantRead: opening tells what trying each size tells.
func wantRead(t *testing.T, what string, d impl.Disk) {
	t.Helper()
	var recs [][]byte
	next := 0
	for {
		rec, count, ok := read(len(recs), d.Safe[next:])
		if !ok {
			break
		}
		recs = append(recs, rec)
		next += count
	}
	wantOpen(t, what, d, next, recs...)
}

func TestAFrameWithOneByteOther(t *testing.T) {
	ahead := [][]byte{[]byte("abc"), recordOf(3, 30)}
	for _, size := range []int{0, 1, 3, 23, 24, 25, 48, 50, 193, impl.MaxRecord} {
		rec := recordOf(size, size)
		d := lying(0, frames(append(slices.Clone(ahead), rec, []byte("behind"))...))
		wantOpen(t, "its own bytes", d, len(d.Safe), append(slices.Clone(ahead), rec, []byte("behind"))...)
		for place := range sectorCount(size) {
			for at := range impl.Sector {
				for _, by := range []byte{1, 2, 128, 255} {
					other := waiting(d)
					other.Safe[3+place][at] ^= by
					what := fmt.Sprintf("%d bytes, byte %d of sector %d other by %d", size, at, place, by)
					wantRead(t, what, other)
					inRecord := at >= 6 && at < 30 && place*24+at-6 < size
					if !inRecord && !(at == 4 && sectorCount(size) == 1) {
						wantOpen(t, what, other, 3, ahead...)
					}
				}
			}
		}
	}
}

func TestAFrameWithAnotherByteOfThePieceIsAnotherRecords(t *testing.T) {
	d := lying(3, frames([]byte("abc"), []byte("def")))
	d.Safe[0][7] = 'x'
	wantOpen(t, "another letter", d, 2, []byte("axc"), []byte("def"))
}

func TestAFrameThatSaysAnotherSize(t *testing.T) {
	d := lying(4, frames([]byte("abc"), []byte("de\x00"), []byte("f")))
	for _, c := range []struct {
		at, size, next int
		recs           [][]byte
	}{
		// Fewer bytes leave one behind the piece that is not 0; more than a piece has would need a sector more.
		{0, 2, 0, nil},
		{0, 0, 0, nil},
		{0, 25, 0, nil},
		{0, 201, 0, nil},
		{0, 255, 0, nil},
		{1, 1, 1, [][]byte{[]byte("abc")}},
		// What lies there then is just another record's frame.
		{0, 4, 3, [][]byte{[]byte("abc\x00"), []byte("de\x00"), []byte("f")}},
		{0, 24, 3, [][]byte{append([]byte("abc"), make([]byte, 21)...), []byte("de\x00"), []byte("f")}},
		{1, 2, 3, [][]byte{[]byte("abc"), []byte("de"), []byte("f")}},
	} {
		other := waiting(d)
		other.Safe[c.at][4] = byte(c.size)
		wantOpen(t, fmt.Sprintf("record %d says %d bytes", c.at, c.size), other, c.next, c.recs...)
	}
}

func TestFramesThatAreNoRecords(t *testing.T) {
	extra := laidFrame(0, recordOf(1, 24))
	extra = append(extra, bytes.Clone(extra[0]))
	copy(extra[1][6:30], make([]byte, 24))
	extra[0][3], extra[1][3], extra[1][2] = 2, 2, 1
	none := zeros()
	none[30] = 1
	turned := laidFrame(0, recordOf(1, 40))
	slices.Reverse(turned)
	for what, sectors := range map[string][][]byte{
		"a record too long":         laidFrame(0, recordOf(1, impl.MaxRecord+1)),
		"a record of 216 bytes":     laidFrame(0, recordOf(1, 216)),
		"a record of 255 bytes":     laidFrame(0, recordOf(1, 255)),
		"a record of 256 bytes":     laidFrame(0, make([]byte, 256)),
		"a sector more than pieces": extra,
		"a frame of no sectors":     {none},
		"its sectors turned round":  turned,
		"its first sector twice":    {turned[1], turned[1]},
		"its last sector alone":     {turned[0]},
		"sectors all 0":             {zeros(), zeros()},
		"sectors all 255":           slices.Repeat([][]byte{bytes.Repeat([]byte{255}, impl.Sector)}, 20),
		"other sectors":             {sectorOf(1), sectorOf(2)},
		"the first of nine, alone":  {laidFrame(0, recordOf(1, impl.MaxRecord))[0]},
	} {
		wantOpen(t, what, lying(20, sectors), 0)
		first := laidFrame(0, []byte("first"))
		seconds := lying(20, append(slices.Clone(first), sectors...))
		wantOpen(t, what+", behind another", seconds, 1, []byte("first"))
	}
}

func TestAFrameThatIsCutOffByTheDisksEnd(t *testing.T) {
	for _, size := range []int{25, 48, 49, 100, impl.MaxRecord} {
		rec := recordOf(size, size)
		for _, ahead := range [][][]byte{nil, {[]byte("abc")}, {nil, recordOf(1, 50)}} {
			all := frames(append(slices.Clone(ahead), rec)...)
			next := len(all) - sectorCount(size)
			for left := next; left < len(all); left++ {
				wantOpen(t, fmt.Sprintf("%d bytes, %d of %d sectors", size, left, len(all)), lying(0, all[:left]), next, ahead...)
				// The sectors that lack lie behind the length, where nobody may read.
				memory := safeDisk(all...)
				memory.Safe = memory.Safe[:left]
				wantOpen(t, "the others behind the length", memory, next, ahead...)
			}
			wantOpen(t, "all of it", lying(0, all), len(all), append(slices.Clone(ahead), rec)...)
		}
	}
}

func TestAFrameWithAnotherRecordsNumber(t *testing.T) {
	for _, size := range []int{0, 3, 24, 30} {
		rec := recordOf(size, size)
		for ahead := range 3 {
			recs := slices.Repeat([][]byte{[]byte("abc")}, ahead)
			for _, seq := range []int{0, 1, 2, 3, 255, 256, 257, 258, 512, impl.MaxSeq - 1} {
				if seq == ahead {
					continue
				}
				d := lying(10, append(frames(recs...), laidFrame(seq, rec)...))
				wantOpen(t, fmt.Sprintf("%d behind %d records", seq, ahead), d, ahead, recs...)
			}
		}
	}
}

func TestNumbersWhoseBytesAreTurnedRound(t *testing.T) {
	var recs [][]byte
	for i := range 258 {
		recs = append(recs, recordOf(i, 2))
	}
	d := lying(300, frames(recs...))
	wantOpen(t, "258 records", d, 258, recs...)
	for _, at := range []int{1, 254, 255, 256} {
		for _, pair := range []int{0, 30} {
			other := waiting(d)
			s := other.Safe[at]
			s[pair], s[pair+1] = s[pair+1], s[pair]
			if s[pair] != s[pair+1] {
				wantOpen(t, fmt.Sprintf("record %d, bytes %d", at, pair), other, at, recs[:at]...)
			}
		}
	}
}

func TestWhatLiesBehindAGapIsNotRead(t *testing.T) {
	abc, def := []byte("abc"), recordOf(5, 40)
	first, second := laidFrame(0, abc), laidFrame(1, def)
	gap := [][]byte{zeros()}
	for what, c := range map[string]struct {
		sectors [][]byte
		next    int
		recs    [][]byte
	}{
		"a gap ahead of all":      {slices.Concat(gap, first, second), 0, nil},
		"a gap between":           {slices.Concat(first, gap, second), 1, [][]byte{abc}},
		"a gap within":            {slices.Concat(first, second[:1], gap, second[1:]), 1, [][]byte{abc}},
		"a record left out":       {slices.Concat(first, laidFrame(2, def)), 1, [][]byte{abc}},
		"a record twice":          {slices.Concat(first, first, second), 1, [][]byte{abc}},
		"in another order":        {slices.Concat(second, first), 0, nil},
		"a gap behind all":        {slices.Concat(first, second, gap, laidFrame(2, abc)), 3, [][]byte{abc, def}},
		"another sector between":  {slices.Concat(first, [][]byte{sectorOf(3)}, second), 1, [][]byte{abc}},
		"no gap":                  {slices.Concat(first, second), 3, [][]byte{abc, def}},
		"older records behind it": {slices.Concat(first, second, laidFrame(1, abc), laidFrame(0, abc)), 3, [][]byte{abc, def}},
	} {
		wantOpen(t, what, lying(9, c.sectors), c.next, c.recs...)
	}
}

func TestRecordsCutOffByACrash(t *testing.T) {
	for _, ahead := range [][][]byte{nil, {[]byte("abc")}, {nil, recordOf(1, 24), recordOf(2, 50)}} {
		for _, size := range []int{0, 1, 10, 11, 24, 25, 34, 48, 72, 96, 192, impl.MaxRecord} {
			for _, rec := range [][]byte{recordOf(size, size), make([]byte, size)} {
				wantWholeOrNotAtAll(t, ahead, rec)
			}
		}
	}
}

// wantWholeOrNotAtAll: each choice of what a crash keeps and tears of the record's writes.
func wantWholeOrNotAtAll(t *testing.T, ahead [][]byte, rec []byte) {
	t.Helper()
	d, _ := impl.DiskNew(16)
	j := impl.Journal{Disk: d}
	for _, r := range ahead {
		j = appended(t, j, r)
	}
	d = j.Disk
	frame := impl.Frame(j.Seq, rec)
	for i, s := range frame {
		d = written(t, d, j.Next+i, s)
	}
	for choice := range 1 << len(frame) {
		keep := make([]bool, len(frame))
		for i := range keep {
			keep[i] = choice>>i&1 == 1
		}
		for torn := -1; torn <= len(frame); torn++ {
			what := fmt.Sprintf("%d bytes behind %d records, kept %v, torn %d", len(rec), len(ahead), keep, torn)
			c := impl.Crash(d, keep, torn)
			if choice == 1<<len(frame)-1 && (torn < 0 || torn == len(frame)) {
				wantOpen(t, what, c, j.Next+len(frame), append(slices.Clone(ahead), rec)...)
			} else {
				wantOpen(t, what, c, j.Next, ahead...)
			}
		}
	}
}

func TestAJournalGoesOnBehindACrash(t *testing.T) {
	d, _ := impl.DiskNew(20)
	j := appended(t, impl.Journal{Disk: d}, []byte("abc"))
	d = j.Disk
	for i, s := range impl.Frame(j.Seq, recordOf(1, 60)) {
		d = written(t, d, j.Next+i, s)
	}
	j, recs, ok := impl.Open(impl.Crash(d, []bool{kept, lost, kept}, 2))
	if !ok || len(recs) != 1 || j.Next != 1 || j.Seq != 1 {
		t.Fatal(j.Next, j.Seq, recs, ok)
	}
	j = appended(t, j, recordOf(2, 30))
	j = appended(t, j, nil)
	wantOpen(t, "behind the crash", j.Disk, 4, []byte("abc"), recordOf(2, 30), nil)
}

func TestWhateverLiesOnADisk(t *testing.T) {
	s := &steps{state: 9}
	for range 3000 {
		var recs [][]byte
		for range s.below(5) {
			recs = append(recs, recordOf(s.below(50), s.below(60)))
		}
		d := lying(12, frames(recs...))
		d.Safe = d.Safe[:min(len(d.Safe), 1+s.below(14))]
		for range s.below(3) {
			// The places that count in a frame lie among the first bytes and the last.
			at := []int{0, 1, 2, 3, 4, 4, 4, 5, 6, 7, 29, 30, 31}[s.below(13)]
			d.Safe[s.below(len(d.Safe))][at] = byte(s.below(4) * (1 + s.below(12)))
		}
		wantRead(t, fmt.Sprint(d.Safe), d)
	}
}

// answerOf: all that a call on a journal hands out, so that one comparison holds for all of it.
type answerOf struct {
	journal impl.Journal
	lists   [][]byte
	ok      bool
}

func copyOf(a answerOf) answerOf {
	out := answerOf{journal: a.journal, ok: a.ok}
	out.journal.Disk = waiting(a.journal.Disk)
	for _, l := range a.lists {
		out.lists = append(out.lists, bytes.Clone(l))
	}
	return out
}

func sameAnswer(a, b answerOf) bool {
	return sameJournal(a.journal, b.journal) && sameLists(a.lists, b.lists) && a.ok == b.ok
}

func spoilAnswer(a answerOf) {
	spoilDisk(a.journal.Disk)
	for i, l := range a.lists[:cap(a.lists)] {
		spoil(l)
		a.lists[:cap(a.lists)][i] = nil
	}
}

// wantAnswerApart: asking changes no memory of d and rec, nor does writing into the answer; writing into d and rec changes no answer.
func wantAnswerApart(t *testing.T, what string, d impl.Disk, rec []byte, ask func(d impl.Disk, rec []byte) answerOf) {
	t.Helper()
	d = roomyDisk(d)
	rec, memory := roomy(rec)
	ahead, memoryAhead := wholeDisk(d), bytes.Clone(memory)
	same := func(when string) {
		t.Helper()
		if !reflect.DeepEqual(wholeDisk(d), ahead) || !bytes.Equal(memory, memoryAhead) {
			t.Fatalf("%s: an argument is changed %s", what, when)
		}
	}
	first := ask(d, rec)
	same("by the call")
	want := copyOf(first)
	second, third := ask(d, rec), ask(d, rec)
	lists := impl.Disk{Safe: slices.Concat(third.journal.Disk.Safe, third.lists), Waits: third.journal.Disk.Waits}
	wantOwnLists(t, what, lists)
	spoilAnswer(first)
	same("through the answer")
	if !sameAnswer(second, want) {
		t.Fatalf("%s: two answers share memory", what)
	}
	spoilDisk(d)
	spoil(memory)
	if !sameAnswer(second, want) {
		t.Fatalf("%s: the answer shares memory with an argument", what)
	}
}

func TestJournalsTakeNewMemory(t *testing.T) {
	recs := [][]byte{[]byte("abc"), nil, recordOf(3, 50), recordOf(4, 24)}
	disks := []impl.Disk{{}, lying(3, nil), lying(0, frames(recs...)), lying(12, frames(recs...)), waiting(lying(5, frames(recs[:1]...)), wait(2, 1), wait(0, 2))}
	for i, d := range disks {
		wantAnswerApart(t, fmt.Sprintf("disk %d: Open", i), d, nil, func(d impl.Disk, _ []byte) answerOf {
			j, all, ok := impl.Open(d)
			return answerOf{j, all, ok}
		})
		for _, next := range []int{-1, 0, 1, len(d.Safe)} {
			for _, seq := range []int{-1, 0, impl.MaxSeq} {
				for _, size := range []int{0, 3, 24, 30, impl.MaxRecord, impl.MaxRecord + 1} {
					what := fmt.Sprintf("disk %d: Append at %d with %d of %d bytes", i, next, seq, size)
					wantAnswerApart(t, what, d, recordOf(1, size), func(d impl.Disk, rec []byte) answerOf {
						j, ok := impl.Append(impl.Journal{Disk: d, Next: next, Seq: seq}, rec)
						return answerOf{journal: j, ok: ok}
					})
				}
			}
		}
	}
}

func TestFramesTakeNewMemory(t *testing.T) {
	for _, seq := range []int{-1, 0, 255, impl.MaxSeq} {
		for _, size := range []int{0, 3, 24, 30, 48, impl.MaxRecord, impl.MaxRecord + 1} {
			wantAnswerApart(t, fmt.Sprintf("Frame(%d, %d bytes)", seq, size), impl.Disk{}, recordOf(1, size), func(_ impl.Disk, rec []byte) answerOf {
				return answerOf{lists: impl.Frame(seq, rec)}
			})
		}
	}
}

func TestARecordFromTheDisksOwnMemory(t *testing.T) {
	d := safeDisk(sectorOf(1), sectorOf(2), sectorOf(3))
	rec := d.Safe[1][4:30]
	want := laidFrame(0, bytes.Clone(rec))
	j := appended(t, impl.Journal{Disk: d}, rec)
	if !sameLists(j.Disk.Safe, append(want, sectorOf(3))) {
		t.Error(j.Disk.Safe)
	}
	wantDisk(t, "the disk ahead of it", d, safeDisk(sectorOf(1), sectorOf(2), sectorOf(3)))
}

func TestAppendsFromOneBeginningStayApart(t *testing.T) {
	d, _ := impl.DiskNew(6)
	start := appended(t, impl.Journal{Disk: d}, []byte("start"))
	one, two := appended(t, start, []byte("one")), appended(t, start, recordOf(2, 40))
	wantOpen(t, "start", start.Disk, 1, []byte("start"))
	wantOpen(t, "one", one.Disk, 2, []byte("start"), []byte("one"))
	wantOpen(t, "two", two.Disk, 3, []byte("start"), recordOf(2, 40))
}
