package tests

import (
	"bytes"
	"math"
	"slices"
	"testing"

	"loop.example/g00341/impl"
)

func copyMsg(m impl.Msg) impl.Msg {
	m.Op.Name, m.Op.As, m.Part.As = bytes.Clone(m.Op.Name), bytes.Clone(m.Op.As), bytes.Clone(m.Part.As)
	m.Reply.List = copyEntries(m.Reply.List)
	return m
}

// roomyMsg: m with spare room behind each of its lists.
func roomyMsg(m impl.Msg) impl.Msg {
	m.Op.Name, _ = roomy(m.Op.Name)
	m.Op.As, _ = roomy(m.Op.As)
	m.Part.As, _ = roomy(m.Part.As)
	m.Reply.List = roomyEntries(m.Reply.List)
	return m
}

// wholeMsg: a copy of all memory of m, the spare room too.
func wholeMsg(m impl.Msg) impl.Msg {
	m.Op.Name = bytes.Clone(m.Op.Name[:cap(m.Op.Name)])
	m.Op.As = bytes.Clone(m.Op.As[:cap(m.Op.As)])
	m.Part.As = bytes.Clone(m.Part.As[:cap(m.Part.As)])
	m.Reply.List = wholeEntries(m.Reply.List)
	return m
}

func spoilMsg(m impl.Msg) {
	spoil(m.Op.Name)
	spoil(m.Op.As)
	spoil(m.Part.As)
	spoilEntries(m.Reply.List)
}

// wrongMsgs: messages of each kind that are none, by one thing each.
func wrongMsgs() []impl.Msg {
	var out []impl.Msg
	for _, m := range msgOfEach() {
		for field, changes := range somethings() {
			if !slices.Contains(hasFields[m.Kind], field) {
				other := m
				changes[len(changes)-1](&other)
				out = append(out, other)
			}
		}
		m.To = ends
		out = append(out, m)
	}
	long := impl.Msg{Kind: impl.MsReply, Reply: impl.Reply{List: slices.Repeat([]impl.Entry{entry("ab", dirC)}, impl.MaxEntries+1)}}
	return append(out, long, impl.Msg{Kind: -1}, impl.Msg{Kind: impl.MsRequest, Op: lookOp(dirA, "toolong")})
}

// askAll asks all functions of the chapter that are given a message, or what it has.
func askAll(m impl.Msg) (b []byte, ok [5]bool) {
	ok[0], ok[1], ok[2], ok[3] = impl.TxOk(m.Tx), impl.PartOk(m.Part), impl.ReplyOk(m.Reply), impl.MsgOk(m)
	b, ok[4] = impl.MsgBytes(m)
	return b, ok
}

func TestBytesOfMessagesTakeNewMemory(t *testing.T) {
	for _, plain := range append(allMsgs(), wrongMsgs()...) {
		m := roomyMsg(copyMsg(plain))
		whole := wholeMsg(m)
		same := func(when string) {
			t.Helper()
			if !sameMsg(wholeMsg(m), whole) {
				t.Fatalf("%v is changed %s", plain, when)
			}
		}
		first, ok := askAll(m)
		same("by the call")
		second, _ := askAll(m)
		want, plainOk := askAll(plain)
		if ok != plainOk || !bytes.Equal(first, want) {
			t.Fatalf("%v: with spare room behind its lists %v, %v; else %v, %v", plain, ok, first, plainOk, want)
		}
		spoil(first)
		same("through the answer")
		if !bytes.Equal(second, want) {
			t.Fatalf("%v: two answers share memory", plain)
		}
		spoilMsg(m)
		if !bytes.Equal(second, want) {
			t.Fatalf("%v: the answer shares memory with the message", plain)
		}
	}
}

// wantOwnTexts: no two texts of a message that was read share memory.
func wantOwnTexts(t *testing.T, m impl.Msg) {
	t.Helper()
	texts := [][]byte{m.Op.Name, m.Op.As, m.Part.As}
	list := m.Reply.List[:cap(m.Reply.List)]
	for _, e := range list {
		texts = append(texts, e.Name)
	}
	for i, text := range texts {
		for k := range text[:cap(text)] {
			text[:cap(text)][k] = byte(i)
		}
	}
	for i, text := range texts {
		for _, c := range text[:cap(text)] {
			if c != byte(i) {
				t.Fatalf("two texts of %v share memory", m)
			}
		}
	}
}

func TestMessagesThatAreReadTakeNewMemory(t *testing.T) {
	for _, m := range allMsgs() {
		form := formOf(m)
		b, all := roomy(form)
		whole := bytes.Clone(all)
		same := func(when string) {
			t.Helper()
			if !bytes.Equal(all, whole) {
				t.Fatalf("the bytes of %v are changed %s", m, when)
			}
		}
		first, ok := impl.MsgRead(b)
		same("by the call")
		if !ok || !sameMsg(first, m) {
			t.Fatalf("MsgRead of the bytes of %v = %v, %t", m, first, ok)
		}
		second, _ := impl.MsgRead(b)
		third, _ := impl.MsgRead(b)
		wantOwnTexts(t, third)
		spoilMsg(first)
		same("through the answer")
		if !sameMsg(second, m) {
			t.Fatalf("two answers share memory: %v; want %v", second, m)
		}
		spoil(all)
		if !sameMsg(second, m) {
			t.Fatalf("the answer shares memory with the bytes: %v; want %v", second, m)
		}
	}
}

func TestBytesThatAreNoMessageAreLeftAlone(t *testing.T) {
	for _, m := range msgOfEach() {
		form := formOf(m)
		for end := range form {
			b, all := roomy(form[:end])
			whole := bytes.Clone(all)
			wantNotRead(t, "cut off", b)
			if !bytes.Equal(all, whole) {
				t.Fatalf("reading %v changes it", b)
			}
		}
	}
}

// With the bytes behind the length there would be a message.
func TestSpareRoomOfBytesIsNotRead(t *testing.T) {
	for _, m := range msgOfEach() {
		form := formOf(m)
		for end := range form {
			wantNotRead(t, "the rest in the spare room", form[:end])
		}
	}
}

// A message whose lists share memory is the same value as one whose lists don't.
func TestListsOfAMessageThatShareMemory(t *testing.T) {
	text := []byte("abc")
	op := moveOp(dirA, "", dirB, "")
	op.Name, op.As = text[:2], text[1:]
	list := []impl.Entry{{Name: text[:1], H: dirA}, {Name: text[:2], H: dirB}, {Name: text, H: fileF}}
	for _, m := range []impl.Msg{
		{Kind: impl.MsRequest, Op: op},
		{Kind: impl.MsReply, Reply: impl.Reply{List: list}},
		{Kind: impl.MsReply, Reply: impl.Reply{List: list[1:2]}},
		{Kind: impl.MsPrepare, Part: impl.Part{Kind: impl.PaEnter, H: dirA, As: text[2:], To: dirB}},
	} {
		wantMsg(t, "shared memory", m, formOf(copyMsg(m)))
	}
	if string(text) != "abc" {
		t.Error(text)
	}
}

// Whatever a message is made of, an answer comes.
func TestWildMessagesAreAnswered(t *testing.T) {
	s := &steps{state: 31}
	num := func() int {
		return []int{0, 0, 1, 2, 3, -1, 7, 8, impl.MaxNum, impl.MaxNum + 1, math.MinInt, math.MaxInt}[s.below(12)]
	}
	text := func() []byte {
		return [][]byte{nil, {}, []byte("a"), []byte("toolong"), bytes.Repeat([]byte{255}, 300)}[s.below(5)]
	}
	handle := func() impl.Handle { return impl.Handle{Shard: num(), Ino: num(), Dir: s.below(2) == 0} }
	for range 20000 {
		m := impl.Msg{
			Kind: num(), From: num(), To: num(), Req: num(), Tx: impl.Tx{Shard: num(), Boot: num(), N: num()}, Code: num(), H: handle(),
			Op:    impl.Op{Kind: num(), Dir: handle(), Name: text(), To: handle(), As: text(), Val: num()},
			Reply: impl.Reply{Code: num(), H: handle(), Val: num(), List: slices.Repeat([]impl.Entry{{Name: text(), H: handle()}}, s.below(3)*s.below(8))},
			Part:  impl.Part{Kind: num(), H: handle(), As: text(), To: handle()},
		}
		b, ok := askAll(m)
		if ok[3] != ok[4] || !ok[4] && len(b) != 0 {
			t.Fatalf("%v: %v, %v", m, ok, b)
		}
		if ok[4] {
			wantMsg(t, "a wild message", m, formOf(m))
		}
	}
}
