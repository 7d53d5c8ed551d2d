package tests

import (
	"bytes"
	"encoding/binary"
	"fmt"
	"slices"
	"testing"

	"loop.example/g00341/impl"
)

// scannedRecord: what b must be read as.
func scannedRecord(b []byte) (impl.Record, bool) {
	s := &scan{rest: b}
	r := impl.Record{Kind: s.num()}
	if s.bad || r.Kind >= len(recordFields) {
		return impl.Record{}, false
	}
	var m impl.Msg
	for _, name := range recordFields[r.Kind] {
		switch name {
		case "Client":
			r.Client = s.num()
		case "Fresh":
			r.Fresh = s.handle()
		default:
			s.field(&m, name)
		}
	}
	r.Req, r.Op, r.Reply, r.Tx, r.Part, r.Code = m.Req, m.Op, m.Reply, m.Tx, m.Part, m.Code
	if s.bad || len(s.rest) > 0 || !impl.RecordOk(r) {
		return impl.Record{}, false
	}
	return r, true
}

// wantRecordRightlyRead: b is read as the record whose bytes it is, or as none; whether it was one is told.
func wantRecordRightlyRead(t *testing.T, what string, b []byte) bool {
	t.Helper()
	got, ok := impl.RecordRead(b)
	want, wantOk := scannedRecord(b)
	if ok != wantOk || !sameRecord(got, want) {
		t.Fatalf("%s: RecordRead(%v) = %v, %t; want %v, %t", what, b, got, ok, want, wantOk)
	}
	if !ok {
		return false
	}
	if form, formOk := impl.RecordBytes(got); !formOk || !bytes.Equal(form, b) {
		t.Fatalf("%s: %v is read as %v, whose bytes are %v, %t", what, b, got, form, formOk)
	}
	return true
}

func wantRecordNotRead(t *testing.T, what string, b []byte) {
	t.Helper()
	if r, ok := impl.RecordRead(b); ok || !sameRecord(r, impl.Record{}) {
		t.Errorf("%s: RecordRead(%v) = %v, %t; want the zero value and false", what, b, r, ok)
	}
}

func TestNoBytesAreNoRecord(t *testing.T) {
	wantRecordNotRead(t, "nil", nil)
	wantRecordNotRead(t, "no bytes", []byte{})
	for b := 1; b < 256; b++ {
		wantRecordNotRead(t, "one byte", []byte{byte(b)})
	}
	if r, ok := impl.RecordRead([]byte{impl.RcBoot}); !ok || !sameRecord(r, impl.Record{}) {
		t.Error("a boot is one byte:", r, ok)
	}
}

func TestRecordsThatAreCutOff(t *testing.T) {
	for i, r := range allRecords() {
		form := recordForm(r)
		for end := range form {
			wantRecordNotRead(t, fmt.Sprintf("record %d cut off at %d", i, end), form[:end:end])
			wantRecordNotRead(t, fmt.Sprintf("record %d, the rest of it in the spare room", i), form[:end])
		}
		for from := 1; from < len(form); from++ {
			wantRecordRightlyRead(t, fmt.Sprintf("record %d from %d on", i, from), form[from:])
		}
	}
}

func TestOneByteMoreBehindARecord(t *testing.T) {
	for i, r := range allRecords() {
		form := recordForm(r)
		for b := range 256 {
			wantRecordNotRead(t, fmt.Sprintf("record %d and a byte", i), append(form[:len(form):len(form)], byte(b)))
		}
		wantRecordNotRead(t, fmt.Sprintf("record %d twice", i), append(form[:len(form):len(form)], form...))
	}
}

func TestOneByteOfARecordChanged(t *testing.T) {
	stays := 0
	for i, r := range allRecords() {
		form := recordForm(r)
		for at := range form {
			for b := range 256 {
				other := bytes.Clone(form)
				other[at] = byte(b)
				if wantRecordRightlyRead(t, fmt.Sprintf("record %d with byte %d changed", i, at), other) && byte(b) != form[at] {
					stays++
				}
			}
		}
	}
	if stays == 0 {
		t.Error("no byte could be changed so that there still is a record")
	}
}

func TestOneByteOfARecordTakenOutOrPutIn(t *testing.T) {
	for i, r := range append(recordOfEach(), longRecords()...) {
		form := recordForm(r)
		for at := range form {
			wantRecordRightlyRead(t, fmt.Sprintf("record %d without byte %d", i, at), slices.Delete(bytes.Clone(form), at, at+1))
			for b := range 256 {
				wantRecordRightlyRead(t, fmt.Sprintf("record %d with one byte more at %d", i, at), slices.Insert(bytes.Clone(form), at, byte(b)))
			}
		}
	}
}

func TestNumbersOfRecordsInMoreBytesThanTheyNeed(t *testing.T) {
	for i, r := range allRecords() {
		pieces := laidRecord(r)
		for at, piece := range pieces {
			for zeros := range 5 {
				wantRecordNotRead(t, fmt.Sprintf("record %d with a longer number at %d", i, at), withPiece(pieces, at, longer(piece, zeros)))
			}
			for _, n := range []uint64{impl.MaxNum + 1, 1 << 32, 1<<35 - 1, 1 << 40, 1<<64 - 1} {
				wantRecordNotRead(t, fmt.Sprintf("record %d with %d at %d", i, n, at), withPiece(pieces, at, binary.AppendUvarint(nil, n)))
			}
		}
	}
}

// The bytes would be those of a record, if its Reply might have a List.
func TestBytesOfARecordWithAList(t *testing.T) {
	for _, kind := range []int{impl.RcLocal, impl.RcDecide} {
		r := recordOfEach()[kind]
		for count := range impl.MaxEntries + 2 {
			r.Reply.List = slices.Repeat([]impl.Entry{entry("ab", fileK)}, count)
			if got := wantRecordRightlyRead(t, "a list", recordForm(r)); got != (count == 0) {
				t.Errorf("kind %d with a list of %d is read: %t", kind, count, got)
			}
		}
	}
}

// What one kind has stands behind another one's number.
func TestBytesOfOneKindOfRecordUnderAnother(t *testing.T) {
	for _, r := range allRecords() {
		form := recordForm(r)
		for kind := range 256 {
			form[0] = byte(kind)
			wantRecordRightlyRead(t, "another kind", form)
		}
	}
	for _, m := range allMsgs() {
		wantRecordRightlyRead(t, "a message", formOf(m))
	}
}

func TestLongAndMixedBytesOfRecords(t *testing.T) {
	s := &steps{state: 61}
	for _, size := range []int{1, 5, 50, impl.MaxRecord, impl.MaxRecord + 1, 5000, 200000} {
		for kind := range 6 {
			for _, below := range []int{1, 2, 5, 13, 128, 256} {
				b := make([]byte, size)
				for i := range b {
					b[i] = byte(s.below(below))
				}
				b[0] = byte(kind)
				wantRecordRightlyRead(t, "mixed bytes", b)
			}
		}
		wantRecordNotRead(t, "bytes 128 alone", bytes.Repeat([]byte{128}, size))
		wantRecordNotRead(t, "bytes 255 alone", bytes.Repeat([]byte{255}, size))
	}
}

func TestRecordsWithMixedChanges(t *testing.T) {
	s := &steps{state: 67}
	all := allRecords()
	met := 0
	for range 100000 {
		b := recordForm(all[s.below(len(all))])
		for range 1 + s.below(3) {
			at := s.below(len(b))
			switch s.below(4) {
			case 0:
				b[at] = byte(s.below(256))
			case 1:
				b[at] = byte(s.below(13))
			case 2:
				b[at] ^= 1 << s.below(8)
			default:
				other := recordForm(all[s.below(len(all))])
				b = append(b[:at:at], other[min(at, len(other)-1):]...)
			}
		}
		if wantRecordRightlyRead(t, "a changed record", b) {
			met++
		}
	}
	if met < 1000 {
		t.Error("only", met, "were read")
	}
}
