package tests

import (
	"bytes"
	"encoding/binary"
	"fmt"
	"slices"
	"testing"

	"loop.example/g00341/impl"
)

// scan reads pieces from the front of bytes as the chapter tells it, and remembers whether one was missing.
type scan struct {
	rest []byte
	bad  bool
}

func (s *scan) num() int {
	n, count := binary.Uvarint(s.rest)
	if count <= 0 || n > impl.MaxNum || !bytes.Equal(binary.AppendUvarint(nil, n), s.rest[:count]) {
		s.bad, s.rest = true, nil
		return 0
	}
	s.rest = s.rest[count:]
	return int(n)
}

func (s *scan) text() []byte {
	count := s.num()
	if count > impl.MaxText || count > len(s.rest) {
		s.bad, s.rest = true, nil
		return nil
	}
	text := s.rest[:count]
	s.rest = s.rest[count:]
	return bytes.Clone(text)
}

func (s *scan) handle() (h impl.Handle) {
	h.Shard = s.num()
	h.Ino = s.num()
	dir := s.num()
	s.bad = s.bad || dir > 1
	h.Dir = dir == 1
	return h
}

func (s *scan) field(m *impl.Msg, name string) {
	switch name {
	case "Req":
		m.Req = s.num()
	case "Op":
		m.Op.Kind = s.num()
		m.Op.Dir = s.handle()
		m.Op.Name = s.text()
		m.Op.To = s.handle()
		m.Op.As = s.text()
		m.Op.Val = s.num()
	case "Reply":
		m.Reply.Code = s.num()
		m.Reply.H = s.handle()
		m.Reply.Val = s.num()
		for count := s.num(); count > 0 && !s.bad; count-- {
			name := s.text()
			m.Reply.List = append(m.Reply.List, impl.Entry{Name: name, H: s.handle()})
		}
	case "Tx":
		m.Tx.Shard = s.num()
		m.Tx.Boot = s.num()
		m.Tx.N = s.num()
	case "Part":
		m.Part.Kind = s.num()
		m.Part.H = s.handle()
		m.Part.As = s.text()
		m.Part.To = s.handle()
	case "Code":
		m.Code = s.num()
	case "H":
		m.H = s.handle()
	}
}

// scanned: what b must be read as.
func scanned(b []byte) (impl.Msg, bool) {
	s := &scan{rest: b}
	var m impl.Msg
	m.Kind = s.num()
	m.From = s.num()
	m.To = s.num()
	if s.bad || m.Kind >= len(hasFields) {
		return impl.Msg{}, false
	}
	for _, name := range hasFields[m.Kind] {
		s.field(&m, name)
	}
	if s.bad || len(s.rest) > 0 || !impl.MsgOk(m) {
		return impl.Msg{}, false
	}
	return m, true
}

// wantRightlyRead: b is read as the message whose bytes it is, or as none; whether it was one is told.
func wantRightlyRead(t *testing.T, what string, b []byte) bool {
	t.Helper()
	got, ok := impl.MsgRead(b)
	want, wantOk := scanned(b)
	if ok != wantOk || !sameMsg(got, want) {
		t.Fatalf("%s: MsgRead(%v) = %v, %t; want %v, %t", what, b, got, ok, want, wantOk)
	}
	if !ok {
		return false
	}
	if form, formOk := impl.MsgBytes(got); !formOk || !bytes.Equal(form, b) {
		t.Fatalf("%s: %v is read as %v, whose bytes are %v, %t", what, b, got, form, formOk)
	}
	return true
}

func wantNotRead(t *testing.T, what string, b []byte) {
	t.Helper()
	if m, ok := impl.MsgRead(b); ok || !sameMsg(m, impl.Msg{}) {
		t.Errorf("%s: MsgRead(%v) = %v, %t; want the zero value and false", what, b, m, ok)
	}
}

func TestNoBytesAreNoMessage(t *testing.T) {
	wantNotRead(t, "nil", nil)
	wantNotRead(t, "no bytes", []byte{})
	for b := range 256 {
		wantNotRead(t, "one byte", []byte{byte(b)})
	}
}

func TestMessagesThatAreCutOff(t *testing.T) {
	for i, m := range allMsgs() {
		form := formOf(m)
		for end := range form {
			wantNotRead(t, fmt.Sprintf("message %d cut off at %d", i, end), form[:end])
		}
		for from := 1; from < len(form); from++ {
			wantRightlyRead(t, fmt.Sprintf("message %d from %d on", i, from), form[from:])
		}
	}
}

func TestOneByteMoreBehindAMessage(t *testing.T) {
	for i, m := range allMsgs() {
		form := formOf(m)
		for b := range 256 {
			wantNotRead(t, fmt.Sprintf("message %d and a byte", i), append(form[:len(form):len(form)], byte(b)))
		}
		wantNotRead(t, fmt.Sprintf("message %d twice", i), append(form[:len(form):len(form)], form...))
	}
}

func TestOneByteChanged(t *testing.T) {
	stays := 0
	for i, m := range allMsgs() {
		form := formOf(m)
		for at := range form {
			for b := range 256 {
				other := bytes.Clone(form)
				other[at] = byte(b)
				if wantRightlyRead(t, fmt.Sprintf("message %d with byte %d changed", i, at), other) && byte(b) != form[at] {
					stays++
				}
			}
		}
	}
	if stays == 0 {
		t.Error("no byte could be changed so that there still is a message")
	}
}

// changedMsgs: messages of each kind, operation and part, few enough to put each byte in at each place.
func changedMsgs() []impl.Msg {
	out := msgOfEach()
	for _, op := range allOps() {
		out = append(out, impl.Msg{Kind: impl.MsRequest, From: 6, To: 1, Req: 128, Op: op})
	}
	for _, p := range allParts() {
		out = append(out, impl.Msg{Kind: impl.MsPrepare, Tx: someTx, Part: p})
	}
	return out
}

func TestOneByteTakenOutOrPutIn(t *testing.T) {
	for i, m := range changedMsgs() {
		form := formOf(m)
		for at := range form {
			wantRightlyRead(t, fmt.Sprintf("message %d without byte %d", i, at), slices.Delete(bytes.Clone(form), at, at+1))
			for b := range 256 {
				wantRightlyRead(t, fmt.Sprintf("message %d with one byte more at %d", i, at), slices.Insert(bytes.Clone(form), at, byte(b)))
			}
		}
	}
}

// longer: the number at the front of a piece, in more bytes than it needs; what stands behind it stays.
func longer(piece []byte, zeros int) []byte {
	_, count := binary.Uvarint(piece)
	out := bytes.Clone(piece[:count])
	out[count-1] += 128
	out = append(out, bytes.Repeat([]byte{128}, zeros)...)
	out = append(out, 0)
	return append(out, piece[count:]...)
}

func withPiece(pieces [][]byte, at int, piece []byte) []byte {
	pieces = slices.Clone(pieces)
	pieces[at] = piece
	return bytes.Join(pieces, nil)
}

func TestNumbersInMoreBytesThanTheyNeed(t *testing.T) {
	for i, m := range allMsgs() {
		pieces := laidMsg(m)
		for at, piece := range pieces {
			for zeros := range 5 {
				wantNotRead(t, fmt.Sprintf("message %d with a longer number at %d", i, at), withPiece(pieces, at, longer(piece, zeros)))
			}
		}
	}
}

func TestNumbersAboveMaxNum(t *testing.T) {
	for i, m := range msgOfEach() {
		pieces := laidMsg(m)
		for at := range pieces {
			for _, n := range []uint64{impl.MaxNum + 1, 1 << 32, 1<<35 - 1, 1 << 40, 1<<64 - 1, 1 << 63} {
				wantNotRead(t, fmt.Sprintf("message %d with %d at %d", i, n, at), withPiece(pieces, at, binary.AppendUvarint(nil, n)))
			}
		}
	}
}

// The last byte of these messages is a handle's Dir.
func TestDirBytesOtherThan0And1(t *testing.T) {
	for _, m := range []impl.Msg{
		{Kind: impl.MsReply, Reply: impl.Reply{List: []impl.Entry{entry("a", fileF)}}},
		{Kind: impl.MsPrepare, Tx: someTx, Part: enterPart(dirA, "a", fileF)},
		{Kind: impl.MsVote, Tx: someTx, Part: unlinkPart(fileF), H: fileG},
		{Kind: impl.MsIs, Tx: someTx, H: fileG},
	} {
		form := formOf(m)
		last := len(form) - 1
		for b := range 256 {
			form[last] = byte(b)
			if got := wantRightlyRead(t, "a Dir byte", form); got != (b <= 1) {
				t.Errorf("kind %d with a Dir byte %d is read: %t", m.Kind, b, got)
			}
		}
		wantNotRead(t, "a Dir of two bytes", append(form[:last:last], 129, 0))
		wantNotRead(t, "a Dir of two bytes", append(form[:last:last], 128, 0))
		wantNotRead(t, "a Dir of two bytes", append(form[:last:last], 128, 2))
	}
}

func TestCountsOfListsInBytes(t *testing.T) {
	one := bytes.Join(laid([]byte("ab"), fileK), nil)
	for _, count := range []int{0, 1, 2, impl.MaxEntries, impl.MaxEntries + 1, 127, 128, 4000, impl.MaxNum} {
		for _, there := range []int{0, 1, 2, impl.MaxEntries - 1, impl.MaxEntries, impl.MaxEntries + 1, 4000} {
			b := bytes.Join(laid(impl.MsReply, 1, 4, 7, impl.RpWell, zeroH, 0, count), nil)
			b = append(b, bytes.Repeat(one, there)...)
			if got := wantRightlyRead(t, "a list", b); got != (count == there && count <= impl.MaxEntries) {
				t.Errorf("a list of %d that says %d is read: %t", there, count, got)
			}
		}
	}
}

func TestTextsInBytesThatAreTooLong(t *testing.T) {
	for count := range impl.MaxText + 3 {
		text := bytes.Repeat([]byte{'t'}, count)
		request := formOf(impl.Msg{Kind: impl.MsRequest, Op: impl.Op{Kind: impl.OpLook, Dir: rootDir, Name: text}})
		enter := formOf(impl.Msg{Kind: impl.MsPrepare, Part: impl.Part{Kind: impl.PaEnter, H: rootDir, As: text, To: fileF}})
		for _, b := range [][]byte{request, enter} {
			if got := wantRightlyRead(t, "a text", b); got != (count >= 1 && count <= impl.MaxName) {
				t.Errorf("a name of %d bytes is read: %t", count, got)
			}
		}
	}
}

// What one kind has stands behind another one's head.
func TestBytesOfOneKindUnderAnother(t *testing.T) {
	for _, m := range allMsgs() {
		form := formOf(m)
		for kind := range 256 {
			form[0] = byte(kind)
			wantRightlyRead(t, "another kind", form)
		}
	}
}

func TestAllBytesOfAFewKinds(t *testing.T) {
	read := 0
	var grow func(b []byte, most int, kinds []byte)
	grow = func(b []byte, most int, kinds []byte) {
		if wantRightlyRead(t, "some bytes", b) {
			read++
		}
		for _, k := range kinds {
			if len(b) < most {
				grow(append(b[:len(b):len(b)], k), most, kinds)
			}
		}
	}
	grow(nil, 7, []byte{0, 1, 4, 5, 128})
	for kind := impl.MsUp; kind <= impl.MsIs; kind++ {
		grow([]byte{byte(kind), 0, 3, 1}, 12, []byte{0, 1, 129})
	}
	grow([]byte{impl.MsReply, 4, 0}, 11, []byte{0, 1, 2})
	if read < 1000 {
		t.Error("only", read, "were read")
	}
}

func TestLongAndMixedBytes(t *testing.T) {
	s := &steps{state: 5}
	for _, size := range []int{1, 5, 50, 500, 5000, 200000} {
		for kind := range 9 {
			for _, below := range []int{1, 2, 5, 13, 128, 256} {
				b := make([]byte, size)
				for i := range b {
					b[i] = byte(s.below(below))
				}
				b[0] = byte(kind)
				wantRightlyRead(t, "mixed bytes", b)
			}
		}
		wantNotRead(t, "bytes 128 alone", bytes.Repeat([]byte{128}, size))
		wantNotRead(t, "bytes 255 alone", bytes.Repeat([]byte{255}, size))
	}
}

func TestMessagesWithMixedChanges(t *testing.T) {
	s := &steps{state: 77}
	all := allMsgs()
	read := 0
	for range 200000 {
		b := formOf(all[s.below(len(all))])
		for range 1 + s.below(3) {
			at := s.below(len(b))
			switch s.below(4) {
			case 0:
				b[at] = byte(s.below(256))
			case 1:
				b[at] = byte(s.below(13))
			case 2:
				b[at] ^= 1 << s.below(8)
			default:
				other := formOf(all[s.below(len(all))])
				b = append(b[:at:at], other[min(at, len(other)-1):]...)
			}
		}
		if wantRightlyRead(t, "a changed message", b) {
			read++
		}
	}
	if read < 1000 {
		t.Error("only", read, "were read")
	}
}

// mixedMsg: a message of fields drawn from the limits, most of which are right.
func mixedMsg(s *steps) impl.Msg {
	pick := func(right, wrong int) int {
		if s.below(40) == 0 {
			return wrong
		}
		return right
	}
	ops, parts, replies := allOps(), allParts(), allReplies()
	m := impl.Msg{Kind: pick(s.below(8), 8), From: pick(s.below(ends), ends), To: pick(s.below(ends), -1)}
	h := []impl.Handle{rootDir, dirA, lastDir, fileF, zeroH, dirAt(0, 0)}[s.below(6)]
	for _, name := range hasFields[m.Kind%8] {
		switch name {
		case "Req":
			m.Req = pick(s.below(impl.MaxNum)>>s.below(31), impl.MaxNum+1)
		case "Op":
			m.Op = ops[s.below(len(ops))]
		case "Reply":
			m.Reply = replies[s.below(len(replies))]
		case "Tx":
			m.Tx = impl.Tx{Shard: pick(s.below(impl.MaxShards), impl.MaxShards), Boot: s.below(1000), N: pick(s.below(300), -1)}
		case "Part":
			m.Part = parts[s.below(len(parts))]
		case "Code":
			m.Code = pick(s.below(2), s.below(14))
		case "H":
			m.H = h
		}
	}
	return m
}

func TestLongMixedUseOfMessages(t *testing.T) {
	s := &steps{state: 9}
	ok := 0
	for range 20000 {
		m := mixedMsg(s)
		b, is := impl.MsgBytes(m)
		if is != impl.MsgOk(m) {
			t.Fatalf("%v: MsgOk and MsgBytes differ", m)
		}
		wantMsgOk(t, "mixed", m, is)
		if is {
			ok++
			continue
		}
		if len(b) != 0 {
			t.Fatal(m, b)
		}
	}
	if ok < 5000 {
		t.Error("only", ok, "were messages")
	}
}
