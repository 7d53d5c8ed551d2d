package tests

import (
	"bytes"
	"encoding/binary"
	"fmt"
	"math"
	"slices"
	"strings"
	"testing"

	"loop.example/g00341/impl"
)

const ends = impl.MaxShards + impl.MaxClients

var (
	someTx   = impl.Tx{Shard: 2, Boot: 3, N: 200}
	zeroH    = impl.Handle{}
	lastFile = fileAt(impl.MaxShards-1, impl.MaxNum)
	lastDir  = dirAt(impl.MaxShards-1, impl.MaxNum)
)

// hasFields: what a message of each kind has behind Kind, From and To, in the order of its bytes.
var hasFields = [][]string{
	impl.MsRequest: {"Req", "Op"},
	impl.MsReply:   {"Req", "Reply"},
	impl.MsPrepare: {"Tx", "Part"},
	impl.MsVote:    {"Tx", "Part", "Code", "H"},
	impl.MsAsk:     {"Tx"},
	impl.MsTell:    {"Tx", "Code"},
	impl.MsUp:      {"Tx", "Req", "H"},
	impl.MsIs:      {"Tx", "Req", "Code", "H"},
}

func unlinkPart(h impl.Handle) impl.Part { return impl.Part{Kind: impl.PaUnlink, H: h} }

func relinkPart(h impl.Handle) impl.Part { return impl.Part{Kind: impl.PaRelink, H: h} }

// makePart asks for a node of the shard and kind of h.
func makePart(h, to impl.Handle) impl.Part {
	return impl.Part{Kind: impl.PaMake, H: impl.Handle{Shard: h.Shard, Dir: h.Dir}, To: to}
}

func enterPart(h impl.Handle, as string, to impl.Handle) impl.Part {
	return impl.Part{Kind: impl.PaEnter, H: h, As: []byte(as), To: to}
}

func parentPart(h, to impl.Handle) impl.Part {
	return impl.Part{Kind: impl.PaParent, H: h, To: to}
}

// partOfEach: a part of each kind that is PartOk, by its kind.
func partOfEach() []impl.Part {
	return []impl.Part{unlinkPart(dirA), relinkPart(fileK), makePart(newby, dirB), enterPart(dirC, "xyz", fileG), parentPart(dirA, dirC), {Kind: impl.PaGate}}
}

// msgOfEach: a message of each kind that is MsgOk, by its kind.
func msgOfEach() []impl.Msg {
	return []impl.Msg{
		{Kind: impl.MsRequest, From: 5, To: 2, Req: 9, Op: moveOp(dirA, "g", dirB, "hi")},
		{Kind: impl.MsReply, From: 2, To: 5, Req: 9, Reply: impl.Reply{Code: impl.RpFull, H: fileK, Val: 7, List: []impl.Entry{entry("a", dirA), entry("bc", fileG)}}},
		{Kind: impl.MsPrepare, From: 0, To: 3, Tx: someTx, Part: enterPart(dirC, "xyz", fileG)},
		{Kind: impl.MsVote, From: 3, To: 0, Tx: someTx, Part: makePart(newby, dirB), Code: impl.RpBusy, H: newby},
		{Kind: impl.MsAsk, From: 1, To: 2, Tx: someTx},
		{Kind: impl.MsTell, From: 2, To: 1, Tx: someTx, Code: 1},
		{Kind: impl.MsUp, From: 1, To: 0, Tx: someTx, Req: 11, H: dirE},
		{Kind: impl.MsIs, From: 0, To: 1, Tx: someTx, Req: 11, Code: impl.RpWell, H: dirC},
	}
}

// allOps: an operation of each kind, and others at the limits.
func allOps() []impl.Op {
	long := strings.Repeat("z", impl.MaxName)
	return append(oneOfEach(),
		lookOp(lastDir, long), listOp(fileF), readOp(dirA), writeOp(lastFile, 0), writeOp(fileF, impl.MaxNum), makeOp(rootDir, "a", lastDir), makeOp(rootDir, "a", fileAt(0, 1)),
		linkOp(rootDir, long, lastFile), moveOp(lastDir, long, lastDir, long), moveOp(rootDir, "a", rootDir, "z"))
}

// allParts: a part of each kind, and others at the limits.
func allParts() []impl.Part {
	long := strings.Repeat("z", impl.MaxName)
	return append(partOfEach(),
		unlinkPart(lastFile), unlinkPart(fileAt(0, 1)), relinkPart(lastFile), makePart(fileAt(0, 1), rootDir), makePart(lastDir, lastDir),
		enterPart(rootDir, "a", rootDir), enterPart(lastDir, long, lastFile), parentPart(rootDir, rootDir), parentPart(lastDir, lastDir))
}

func allReplies() []impl.Reply {
	var out []impl.Reply
	for code := impl.RpWell; code <= impl.RpBad; code++ {
		out = append(out, impl.Reply{Code: code})
	}
	full := slices.Repeat([]impl.Entry{entry(strings.Repeat("q", impl.MaxName), lastDir)}, impl.MaxEntries)
	return append(out, impl.Reply{H: dirA}, impl.Reply{H: lastFile, Val: impl.MaxNum}, impl.Reply{Val: 128}, impl.Reply{List: []impl.Entry{entry("b", fileK), entry("a", rootDir), entry("b", fileG)}},
		impl.Reply{Code: impl.RpBad, H: lastDir, Val: impl.MaxNum, List: full})
}

// allMsgs: messages of each kind, with each operation, part, reply and code, and with numbers of each length.
func allMsgs() []impl.Msg {
	out := msgOfEach()
	for i, op := range allOps() {
		out = append(out, impl.Msg{Kind: impl.MsRequest, From: i % ends, To: (i * 3) % ends, Req: 1 << i, Op: op})
	}
	for i, r := range allReplies() {
		out = append(out, impl.Msg{Kind: impl.MsReply, From: (i * 5) % ends, To: i % ends, Req: 1 << i, Reply: r})
	}
	for i, p := range allParts() {
		x := impl.Tx{Shard: i % impl.MaxShards, Boot: 1 << i, N: impl.MaxNum >> i}
		out = append(out, impl.Msg{Kind: impl.MsPrepare, From: i % ends, To: ends - 1, Tx: x, Part: p})
		for code := impl.RpWell; code <= impl.RpBad; code++ {
			out = append(out, impl.Msg{Kind: impl.MsVote, From: ends - 1, To: i % ends, Tx: x, Part: p, Code: code, H: []impl.Handle{zeroH, newby, lastFile}[i%3]})
		}
	}
	for code := impl.RpWell; code <= impl.RpBad; code++ {
		for _, h := range []impl.Handle{zeroH, rootDir, fileF, lastDir} {
			out = append(out, impl.Msg{Kind: impl.MsIs, From: code % ends, Tx: someTx, Req: 1 << code, Code: code, H: h})
		}
	}
	for n := 1; n <= impl.MaxNum; n = n*3 + 1 {
		x := impl.Tx{Shard: n % impl.MaxShards, Boot: n, N: impl.MaxNum - n}
		out = append(out, impl.Msg{Kind: impl.MsAsk, From: n % ends, To: n % 3, Tx: x}, impl.Msg{Kind: impl.MsTell, Tx: x, Code: n % 2}, impl.Msg{Kind: impl.MsUp, Tx: x, Req: n, H: dirAt(n%impl.MaxShards, n)})
	}
	return out
}

func sameOp(a, b impl.Op) bool {
	return a.Kind == b.Kind && a.Dir == b.Dir && bytes.Equal(a.Name, b.Name) && a.To == b.To && bytes.Equal(a.As, b.As) && a.Val == b.Val
}

func samePart(a, b impl.Part) bool {
	return a.Kind == b.Kind && a.H == b.H && bytes.Equal(a.As, b.As) && a.To == b.To
}

func sameMsg(a, b impl.Msg) bool {
	return a.Kind == b.Kind && a.From == b.From && a.To == b.To && a.Req == b.Req && sameOp(a.Op, b.Op) && sameReply(a.Reply, b.Reply) && a.Tx == b.Tx && samePart(a.Part, b.Part) && a.Code == b.Code && a.H == b.H
}

// laid: bytes, piece by piece, as the chapter tells it; a piece is a number, a text or a flag.
func laid(values ...any) [][]byte {
	var out [][]byte
	for _, value := range values {
		switch x := value.(type) {
		case int:
			out = append(out, binary.AppendUvarint(nil, uint64(x)))
		case []byte:
			out = append(out, append(binary.AppendUvarint(nil, uint64(len(x))), x...))
		case bool:
			out = append(out, []byte{map[bool]byte{false: 0, true: 1}[x]})
		case impl.Handle:
			out = append(out, laid(x.Shard, x.Ino, x.Dir)...)
		case impl.Op:
			out = append(out, laid(x.Kind, x.Dir, x.Name, x.To, x.As, x.Val)...)
		case impl.Reply:
			out = append(out, laid(x.Code, x.H, x.Val, len(x.List))...)
			for _, e := range x.List {
				out = append(out, laid(e.Name, e.H)...)
			}
		case impl.Tx:
			out = append(out, laid(x.Shard, x.Boot, x.N)...)
		case impl.Part:
			out = append(out, laid(x.Kind, x.H, x.As, x.To)...)
		default:
			panic(fmt.Sprintf("%T", value))
		}
	}
	return out
}

// laidMsg: the pieces of a message of a kind that there is, whatever else is wrong with it.
func laidMsg(m impl.Msg) [][]byte {
	fields := map[string]any{"Req": m.Req, "Op": m.Op, "Reply": m.Reply, "Tx": m.Tx, "Part": m.Part, "Code": m.Code, "H": m.H}
	out := laid(m.Kind, m.From, m.To)
	for _, name := range hasFields[m.Kind] {
		out = append(out, laid(fields[name])...)
	}
	return out
}

func formOf(m impl.Msg) []byte { return bytes.Join(laidMsg(m), nil) }

// wantMsg: m is MsgOk, just these are its bytes, and it comes back from them.
func wantMsg(t *testing.T, what string, m impl.Msg, form []byte) {
	t.Helper()
	if !impl.MsgOk(m) {
		t.Errorf("%s: %v is not MsgOk", what, m)
	}
	if b, ok := impl.MsgBytes(m); !ok || !bytes.Equal(b, form) {
		t.Errorf("%s: MsgBytes(%v) = %v, %t; want %v", what, m, b, ok, form)
	}
	if back, ok := impl.MsgRead(form); !ok || !sameMsg(back, m) {
		t.Errorf("%s: MsgRead(%v) = %v, %t; want %v", what, form, back, ok, m)
	}
}

// wantNoMsg: m is not MsgOk and has no bytes; where it could be written, it is not read.
func wantNoMsg(t *testing.T, what string, m impl.Msg) {
	t.Helper()
	if impl.MsgOk(m) {
		t.Errorf("%s: %v is MsgOk", what, m)
	}
	if b, ok := impl.MsgBytes(m); ok || len(b) != 0 {
		t.Errorf("%s: MsgBytes(%v) = %v, %t; want nothing and false", what, m, b, ok)
	}
	if m.Kind >= impl.MsRequest && m.Kind <= impl.MsIs {
		wantRightlyRead(t, what, formOf(m))
	}
}

func wantMsgOk(t *testing.T, what string, m impl.Msg, ok bool) {
	t.Helper()
	if ok {
		wantMsg(t, what, m, formOf(m))
		return
	}
	wantNoMsg(t, what, m)
}

func TestLimitsOfMessages(t *testing.T) {
	if impl.MaxClients != 4 {
		t.Fatal(impl.MaxClients)
	}
}

func TestBytesOfRequestsAndReplies(t *testing.T) {
	wantMsg(t, "a move", impl.Msg{Kind: impl.MsRequest, From: 5, To: 2, Req: 300, Op: moveOp(dirAt(1, 5), "g", dirAt(2, 7), "hi")},
		[]byte{0, 5, 2, 172, 2, 7, 1, 5, 1, 1, 'g', 2, 7, 1, 2, 'h', 'i', 0})
	wantMsg(t, "a look", impl.Msg{Kind: impl.MsRequest, From: 7, To: 0, Req: 1, Op: lookOp(rootDir, "abcdef")},
		[]byte{0, 7, 0, 1, 0, 0, 1, 1, 6, 'a', 'b', 'c', 'd', 'e', 'f', 0, 0, 0, 0, 0})
	wantMsg(t, "a list", impl.Msg{Kind: impl.MsRequest, From: 4, To: 3, Op: listOp(dirAt(3, 128))},
		[]byte{0, 4, 3, 0, 1, 3, 128, 1, 1, 0, 0, 0, 0, 0, 0})
	wantMsg(t, "a read", impl.Msg{Kind: impl.MsRequest, From: 4, To: 3, Req: 127, Op: readOp(fileAt(3, 127))},
		[]byte{0, 4, 3, 127, 2, 3, 127, 0, 0, 0, 0, 0, 0, 0})
	wantMsg(t, "a write", impl.Msg{Kind: impl.MsRequest, From: 6, To: 1, Req: 2, Op: writeOp(fileAt(1, 9), impl.MaxNum)},
		[]byte{0, 6, 1, 2, 3, 1, 9, 0, 0, 0, 0, 0, 0, 255, 255, 255, 255, 7})
	wantMsg(t, "a make", impl.Msg{Kind: impl.MsRequest, From: 6, To: 1, Req: 3, Op: makeOp(dirAt(1, 9), "m", dirAt(2, 1))},
		[]byte{0, 6, 1, 3, 4, 1, 9, 1, 1, 'm', 2, 0, 1, 0, 0})
	wantMsg(t, "a drop", impl.Msg{Kind: impl.MsRequest, From: 6, To: 1, Req: 4, Op: dropOp(dirAt(1, 9), "m")},
		[]byte{0, 6, 1, 4, 5, 1, 9, 1, 1, 'm', 0, 0, 0, 0, 0})
	wantMsg(t, "a link", impl.Msg{Kind: impl.MsRequest, From: 6, To: 1, Req: 5, Op: linkOp(dirAt(1, 9), "m", fileAt(3, 2))},
		[]byte{0, 6, 1, 5, 6, 1, 9, 1, 1, 'm', 3, 2, 0, 0, 0})
	wantMsg(t, "a reply with a list", impl.Msg{Kind: impl.MsReply, From: 2, To: 5, Req: 9, Reply: impl.Reply{Code: impl.RpFull, H: fileAt(3, 4), Val: 200, List: []impl.Entry{entry("z", dirAt(1, 5)), entry("bc", fileAt(2, 6))}}},
		[]byte{1, 2, 5, 9, 5, 3, 4, 0, 200, 1, 2, 1, 'z', 1, 5, 1, 2, 'b', 'c', 2, 6, 0})
	wantMsg(t, "a reply of nothing", impl.Msg{Kind: impl.MsReply}, []byte{1, 0, 0, 0, 0, 0, 0, 0, 0, 0})
}

func TestBytesBetweenShards(t *testing.T) {
	wantMsg(t, "prepare", impl.Msg{Kind: impl.MsPrepare, To: 3, Tx: impl.Tx{Shard: 0, Boot: 1, N: 2}, Part: enterPart(dirAt(3, 2), "xyz", fileAt(2, 5))},
		[]byte{2, 0, 3, 0, 1, 2, 3, 3, 2, 1, 3, 'x', 'y', 'z', 2, 5, 0})
	wantMsg(t, "a vote", impl.Msg{Kind: impl.MsVote, From: 3, Tx: impl.Tx{Shard: 1, Boot: 128, N: 3}, Part: makePart(dirAt(2, 1), dirAt(1, 7)), Code: impl.RpBusy, H: fileAt(2, 6)},
		[]byte{3, 3, 0, 1, 128, 1, 3, 2, 2, 0, 1, 0, 1, 7, 1, 10, 2, 6, 0})
	wantMsg(t, "a vote on the gate", impl.Msg{Kind: impl.MsVote, From: 3, Tx: impl.Tx{Shard: 1, Boot: 2, N: 3}, Part: impl.Part{Kind: impl.PaGate}},
		[]byte{3, 3, 0, 1, 2, 3, 5, 0, 0, 0, 0, 0, 0, 0, 0, 0, 0, 0})
	wantMsg(t, "ask", impl.Msg{Kind: impl.MsAsk, From: 1, To: 2, Tx: impl.Tx{Shard: 2, Boot: 3, N: 4}}, []byte{4, 1, 2, 2, 3, 4})
	wantMsg(t, "ask of nothing", impl.Msg{Kind: impl.MsAsk}, []byte{4, 0, 0, 0, 0, 0})
	wantMsg(t, "tell", impl.Msg{Kind: impl.MsTell, From: 1, To: 2, Tx: impl.Tx{Shard: 1, Boot: 3, N: 200}, Code: 1}, []byte{5, 1, 2, 1, 3, 200, 1, 1})
	wantMsg(t, "up", impl.Msg{Kind: impl.MsUp, From: 1, To: 0, Tx: impl.Tx{Shard: 1, Boot: 3, N: 4}, Req: 11, H: dirAt(2, 9)}, []byte{6, 1, 0, 1, 3, 4, 11, 2, 9, 1})
	wantMsg(t, "is", impl.Msg{Kind: impl.MsIs, From: 0, To: 1, Tx: impl.Tx{Shard: 1, Boot: 3, N: 4}, Req: 11, Code: impl.RpStale, H: dirAt(3, 8)}, []byte{7, 0, 1, 1, 3, 4, 11, 1, 3, 8, 1})
	wantMsg(t, "is, without a handle", impl.Msg{Kind: impl.MsIs, From: 7, To: 7, Tx: impl.Tx{Shard: 3}, Req: 128, Code: impl.RpBad}, []byte{7, 7, 7, 3, 0, 0, 128, 1, 11, 0, 0, 0})
}

func TestMessagesComeBack(t *testing.T) {
	ops, parts, codes := map[int]bool{}, map[int]bool{}, map[int]bool{}
	kinds := map[int]bool{}
	for i, m := range allMsgs() {
		wantMsg(t, fmt.Sprintf("message %d", i), m, formOf(m))
		kinds[m.Kind] = true
		switch m.Kind {
		case impl.MsRequest:
			ops[m.Op.Kind] = true
		case impl.MsReply:
			codes[m.Reply.Code] = true
		case impl.MsPrepare:
			parts[m.Part.Kind] = true
		}
	}
	if len(kinds) != 8 || len(ops) != 8 || len(parts) != 6 || len(codes) != 12 {
		t.Error("something is not among the messages:", kinds, ops, parts, codes)
	}
}

// aroundNumber: values at and past the limits of a number, and whether they are one.
func aroundNumber() map[int]bool {
	return map[int]bool{math.MinInt: false, -2: false, -1: false, 0: true, 1: true, impl.MaxNum - 1: true, impl.MaxNum: true, impl.MaxNum + 1: false, math.MaxInt: false}
}

// around: values at and past the limits of 0 .. last, and whether they are in it.
func around(last int) map[int]bool {
	out := map[int]bool{math.MinInt: false, -1: false, last + 1: false, last + 2: false, impl.MaxNum: false, math.MaxInt: false}
	for i := 0; i <= last; i++ {
		out[i] = true
	}
	return out
}

func wantAllByTx(t *testing.T, x impl.Tx, ok bool) {
	t.Helper()
	if got := impl.TxOk(x); got != ok {
		t.Errorf("TxOk(%v) = %t", x, got)
	}
	for kind, m := range msgOfEach() {
		if slices.Contains(hasFields[kind], "Tx") {
			m.Tx = x
			wantMsgOk(t, fmt.Sprintf("kind %d, %v", kind, x), m, ok)
		}
	}
}

func TestTxOk(t *testing.T) {
	for shard, shardOk := range around(impl.MaxShards - 1) {
		for boot, bootOk := range aroundNumber() {
			for n, nOk := range aroundNumber() {
				wantAllByTx(t, impl.Tx{Shard: shard, Boot: boot, N: n}, shardOk && bootOk && nOk)
			}
		}
	}
	wantAllByTx(t, impl.Tx{}, true)
}

// aroundHandle: handles at and past each limit, of files and of directories.
func aroundHandle() []impl.Handle {
	var out []impl.Handle
	for _, shard := range []int{-1, 0, 1, impl.MaxShards - 1, impl.MaxShards} {
		for _, ino := range []int{-1, 0, 1, 2, impl.MaxNum, impl.MaxNum + 1} {
			out = append(out, fileAt(shard, ino), dirAt(shard, ino))
		}
	}
	return append(out, fileAt(math.MinInt, math.MaxInt), dirAt(math.MaxInt, 1), dirAt(0, math.MinInt))
}

// fits tells whether h is what a field wants.
func fits(want string, h impl.Handle) bool {
	shard := 0 <= h.Shard && h.Shard < impl.MaxShards
	node := shard && 0 < h.Ino && h.Ino <= impl.MaxNum
	switch want {
	case "none":
		return h == zeroH
	case "node":
		return node
	case "file":
		return node && !h.Dir
	case "directory":
		return node && h.Dir
	case "unmade":
		return shard && h.Ino == 0
	case "none or node":
		return h == zeroH || node
	}
	panic(want)
}

// partFields: what H and To of a part of each kind must be, and whether it has a name.
var partFields = []struct {
	h, to string
	as    bool
}{
	impl.PaUnlink: {"node", "none", false},
	impl.PaRelink: {"file", "none", false},
	impl.PaMake:   {"unmade", "directory", false},
	impl.PaEnter:  {"directory", "node", true},
	impl.PaParent: {"directory", "directory", false},
	impl.PaGate:   {"none", "none", false},
}

func wantPart(t *testing.T, p impl.Part, ok bool) {
	t.Helper()
	if got := impl.PartOk(p); got != ok {
		t.Errorf("PartOk(%v) = %t", p, got)
	}
	wantMsgOk(t, "prepare", impl.Msg{Kind: impl.MsPrepare, Tx: someTx, Part: p}, ok)
	wantMsgOk(t, "vote", impl.Msg{Kind: impl.MsVote, Tx: someTx, Part: p, H: newby}, ok)
}

func TestPartsOfEachKind(t *testing.T) {
	for kind, has := range partFields {
		for _, h := range aroundHandle() {
			for _, to := range aroundHandle() {
				for _, as := range []string{"", "a", strings.Repeat("z", impl.MaxName), strings.Repeat("z", impl.MaxName+1)} {
					asOk := len(as) == 0
					if has.as {
						asOk = len(as) >= 1 && len(as) <= impl.MaxName
					}
					wantPart(t, impl.Part{Kind: kind, H: h, As: []byte(as), To: to}, fits(has.h, h) && fits(has.to, to) && asOk)
				}
			}
		}
	}
}

func TestNamesOfParts(t *testing.T) {
	for name, ok := range namesOk {
		for kind, p := range partOfEach() {
			p.As = []byte(name)
			if kind == impl.PaEnter {
				wantPart(t, p, ok)
			} else {
				wantPart(t, p, name == "")
			}
		}
	}
	for kind, p := range partOfEach() {
		p.As = nil
		wantPart(t, p, kind != impl.PaEnter)
	}
}

func TestKindsOfParts(t *testing.T) {
	for kind, ok := range around(impl.PaGate) {
		if !ok {
			wantPart(t, impl.Part{Kind: kind}, false)
			for _, p := range allParts() {
				p.Kind = kind
				wantPart(t, p, false)
			}
		}
	}
	wantPart(t, impl.Part{}, false)
	for _, p := range allParts() {
		wantPart(t, p, true)
	}
}

func wantReply(t *testing.T, what string, r impl.Reply, ok bool) {
	t.Helper()
	if got := impl.ReplyOk(r); got != ok {
		t.Errorf("%s: ReplyOk(%v) = %t", what, r, got)
	}
	wantMsgOk(t, what, impl.Msg{Kind: impl.MsReply, From: 1, To: 4, Req: 3, Reply: r}, ok)
}

func TestReplies(t *testing.T) {
	for code, codeOk := range around(impl.RpBad) {
		for val, valOk := range aroundNumber() {
			for _, h := range aroundHandle() {
				r := impl.Reply{Code: code, H: h, Val: val}
				wantReply(t, "no list", r, codeOk && valOk && fits("none or node", h))
				r.List = []impl.Entry{entry("a", fileF)}
				wantReply(t, "a list", r, codeOk && valOk && fits("none or node", h))
			}
		}
	}
	for _, r := range allReplies() {
		wantReply(t, "as it may be", r, true)
	}
}

func TestListsOfReplies(t *testing.T) {
	for count := range impl.MaxEntries + 4 {
		r := impl.Reply{List: slices.Repeat([]impl.Entry{entry("ab", dirC)}, count)}
		wantReply(t, fmt.Sprintf("%d entries", count), r, count <= impl.MaxEntries)
	}
	wantReply(t, "a long list", impl.Reply{List: slices.Repeat([]impl.Entry{entry("ab", dirC)}, 1000)}, false)
	for _, count := range []int{1, 2, impl.MaxEntries} {
		for at := range count {
			list := slices.Repeat([]impl.Entry{entry("ab", dirC)}, count)
			r := impl.Reply{List: list}
			for name, ok := range namesOk {
				list[at] = entry(name, fileK)
				wantReply(t, fmt.Sprintf("the name %q at %d of %d", name, at, count), r, ok)
			}
			for _, h := range aroundHandle() {
				list[at] = entry("ab", h)
				wantReply(t, fmt.Sprintf("a handle at %d of %d", at, count), r, fits("node", h))
			}
			list[at] = impl.Entry{}
			wantReply(t, "an entry of nothing", r, false)
		}
	}
}

// One name twice, and names that do not ascend: the chapter asks for neither.
func TestListsInWhateverOrder(t *testing.T) {
	wantReply(t, "descending", impl.Reply{List: []impl.Entry{entry("b", fileF), entry("a", fileG)}}, true)
	wantReply(t, "twice", impl.Reply{List: []impl.Entry{entry("a", fileF), entry("a", fileF)}}, true)
}

func TestKindsOfMessages(t *testing.T) {
	for kind, ok := range around(impl.MsIs) {
		if !ok {
			wantNoMsg(t, "a kind alone", impl.Msg{Kind: kind})
			wantNoMsg(t, "with a transaction", impl.Msg{Kind: kind, Tx: someTx})
			for _, m := range msgOfEach() {
				m.Kind = kind
				wantNoMsg(t, "a wrong kind", m)
			}
		}
	}
	for kind := range msgOfEach() {
		// With nothing but zeros these four are messages; the others want a handle or a name.
		wantMsgOk(t, "a kind alone", impl.Msg{Kind: kind}, slices.Contains([]int{impl.MsReply, impl.MsAsk, impl.MsTell, impl.MsIs}, kind))
	}
}

func TestEndsOfMessages(t *testing.T) {
	for _, m := range msgOfEach() {
		for from, fromOk := range around(ends - 1) {
			for to, toOk := range around(ends - 1) {
				m.From, m.To = from, to
				wantMsgOk(t, "from and to", m, fromOk && toOk)
			}
		}
	}
}

func TestReqOfMessages(t *testing.T) {
	for kind, m := range msgOfEach() {
		for req, ok := range aroundNumber() {
			m.Req = req
			if !slices.Contains(hasFields[kind], "Req") {
				ok = req == 0
			}
			wantMsgOk(t, fmt.Sprintf("kind %d, Req %d", kind, req), m, ok)
		}
	}
}

func TestCodesOfMessages(t *testing.T) {
	last := map[int]int{impl.MsVote: impl.RpBad, impl.MsTell: 1, impl.MsIs: impl.RpBad}
	for kind, m := range msgOfEach() {
		for code := range around(impl.RpBad) {
			m.Code = code
			wantMsgOk(t, fmt.Sprintf("kind %d, Code %d", kind, code), m, 0 <= code && code <= last[kind])
		}
	}
}

func TestHandlesOfMessages(t *testing.T) {
	want := []string{"none", "none", "none", impl.MsVote: "none or node", "none", "none", impl.MsUp: "directory", impl.MsIs: "none or node"}
	for kind, m := range msgOfEach() {
		for _, h := range aroundHandle() {
			m.H = h
			wantMsgOk(t, fmt.Sprintf("kind %d, H %v", kind, h), m, fits(want[kind], h))
		}
	}
}

// An operation in a request is OpOk or the request is none.
func TestOperationsOfRequests(t *testing.T) {
	request := func(op impl.Op) impl.Msg {
		return impl.Msg{Kind: impl.MsRequest, From: 4, To: 1, Req: 1, Op: op}
	}
	for _, op := range allOps() {
		wantMsgOk(t, "an operation", request(op), true)
		for _, h := range badHandles() {
			other := op
			other.Dir = h
			wantMsgOk(t, "a wrong Dir", request(other), false)
		}
		for kind := impl.OpLook - 1; kind <= impl.OpMove+1; kind++ {
			other := op
			other.Kind = kind
			wantMsgOk(t, "another kind", request(other), impl.OpOk(other))
		}
		for name := range namesOk {
			other := op
			other.Name = []byte(name)
			wantMsgOk(t, "another Name", request(other), impl.OpOk(other))
			other = op
			other.As = []byte(name)
			wantMsgOk(t, "another As", request(other), impl.OpOk(other))
		}
		for _, h := range aroundHandle() {
			other := op
			other.To = h
			wantMsgOk(t, "another To", request(other), impl.OpOk(other))
		}
		for val := range aroundNumber() {
			other := op
			other.Val = val
			wantMsgOk(t, "another Val", request(other), impl.OpOk(other))
		}
	}
	wantMsgOk(t, "no operation", request(impl.Op{}), false)
}

// somethings: for each field of a message, changes by each of which it is not zero.
func somethings() map[string][]func(m *impl.Msg) {
	out := map[string][]func(m *impl.Msg){}
	put := func(field string, change func(m *impl.Msg)) { out[field] = append(out[field], change) }
	for _, n := range []int{1, -1, 2, impl.RpBad, 128, impl.MaxNum, impl.MaxNum + 1, math.MinInt} {
		put("Req", func(m *impl.Msg) { m.Req = n })
		put("Code", func(m *impl.Msg) { m.Code = n })
		put("Op", func(m *impl.Msg) { m.Op.Kind = n })
		put("Op", func(m *impl.Msg) { m.Op.Val = n })
		put("Reply", func(m *impl.Msg) { m.Reply.Code = n })
		put("Reply", func(m *impl.Msg) { m.Reply.Val = n })
		put("Tx", func(m *impl.Msg) { m.Tx.Shard = n })
		put("Tx", func(m *impl.Msg) { m.Tx.Boot = n })
		put("Tx", func(m *impl.Msg) { m.Tx.N = n })
		put("Part", func(m *impl.Msg) { m.Part.Kind = n })
	}
	for _, h := range []impl.Handle{{Shard: 1}, {Shard: -1}, {Ino: 1}, {Ino: -1}, {Dir: true}, rootDir, fileK, lastDir} {
		put("H", func(m *impl.Msg) { m.H = h })
		put("Op", func(m *impl.Msg) { m.Op.Dir = h })
		put("Op", func(m *impl.Msg) { m.Op.To = h })
		put("Reply", func(m *impl.Msg) { m.Reply.H = h })
		put("Part", func(m *impl.Msg) { m.Part.H = h })
		put("Part", func(m *impl.Msg) { m.Part.To = h })
	}
	for _, text := range []string{"a", "\x00", "name", strings.Repeat("n", impl.MaxText+1)} {
		put("Op", func(m *impl.Msg) { m.Op.Name = []byte(text) })
		put("Op", func(m *impl.Msg) { m.Op.As = []byte(text) })
		put("Part", func(m *impl.Msg) { m.Part.As = []byte(text) })
	}
	put("Reply", func(m *impl.Msg) { m.Reply.List = []impl.Entry{{}} })
	put("Reply", func(m *impl.Msg) { m.Reply.List = []impl.Entry{entry("a", dirA)} })
	for _, op := range allOps() {
		put("Op", func(m *impl.Msg) { m.Op = op })
	}
	for _, p := range allParts() {
		put("Part", func(m *impl.Msg) { m.Part = p })
	}
	return out
}

func TestWhatAKindHasNotIsZero(t *testing.T) {
	for kind, whole := range msgOfEach() {
		for _, m := range []impl.Msg{whole, {Kind: kind}} {
			for field, changes := range somethings() {
				if slices.Contains(hasFields[kind], field) {
					continue
				}
				for i, change := range changes {
					other := m
					change(&other)
					wantNoMsg(t, fmt.Sprintf("kind %d with a %s (%d)", kind, field, i), other)
				}
			}
		}
	}
}

func TestAnEmptyListIsNone(t *testing.T) {
	for _, m := range allMsgs() {
		form := formOf(m)
		for _, list := range []*[]byte{&m.Op.Name, &m.Op.As, &m.Part.As} {
			if len(*list) == 0 {
				*list = []byte{}
			}
		}
		if len(m.Reply.List) == 0 {
			m.Reply.List = []impl.Entry{}
		}
		wantMsg(t, "with empty lists", m, form)
	}
	for _, p := range partOfEach() {
		if p.Kind != impl.PaEnter {
			p.As = []byte{}
			wantPart(t, p, true)
		}
	}
	wantReply(t, "an empty list", impl.Reply{List: []impl.Entry{}}, true)
}
