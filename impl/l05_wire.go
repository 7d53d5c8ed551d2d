package impl

import (
	"bytes"
	"slices"
)

const MaxClients = 4

type Tx struct {
	Shard int
	Boot  int
	N     int
}

const (
	PaUnlink = iota
	PaRelink
	PaMake
	PaEnter
	PaParent
	PaGate
)

type Part struct {
	Kind int
	H    Handle
	As   []byte
	To   Handle
}

const (
	MsRequest = iota
	MsReply
	MsPrepare
	MsVote
	MsAsk
	MsTell
	MsUp
	MsIs
)

type Msg struct {
	Kind  int
	From  int
	To    int
	Req   int
	Op    Op
	Reply Reply
	Tx    Tx
	Part  Part
	Code  int
	H     Handle
}

// content is what a message has behind Kind, From and To. Each kind's is a type of its own, so that a kind can't be given what it has not.
type content interface {
	ok() bool
}

type msRequest struct {
	req int
	op  Op
}

type msReply struct {
	req   int
	reply Reply
}

type msPrepare struct {
	tx   Tx
	part Part
}

type msVote struct {
	tx   Tx
	part Part
	code int
	h    Handle
}

type msAsk struct {
	tx Tx
}

type msTell struct {
	tx   Tx
	code int
}

type msUp struct {
	tx  Tx
	req int
	h   Handle
}

type msIs struct {
	tx   Tx
	req  int
	code int
	h    Handle
}

// reader goes through bytes. Where something is not there, at is -1, and stays so. What a literal is made of is read in the order in which it stands there.
type reader struct {
	bytes []byte
	at    int
}

func TxOk(x Tx) bool {
	return isShard(x.Shard) && isNumber(x.Boot) && isNumber(x.N)
}

func PartOk(p Part) bool {
	noAs, noTo := len(p.As) == 0, p.To == Handle{}
	switch p.Kind {
	case PaUnlink:
		return HandleOk(p.H) && noAs && noTo
	case PaRelink:
		return HandleOk(p.H) && !p.H.Dir && noAs && noTo
	case PaMake:
		// As in an operation: what is made has no number yet.
		return isShard(p.H.Shard) && p.H.Ino == 0 && noAs && isDirectory(p.To)
	case PaEnter:
		return isDirectory(p.H) && isName(p.As) && HandleOk(p.To)
	case PaParent:
		return isDirectory(p.H) && noAs && isDirectory(p.To)
	case PaGate:
		return p.H == Handle{} && noAs && noTo
	}
	return false
}

func ReplyOk(r Reply) bool {
	if !isCode(r.Code) || !isNumber(r.Val) || !isNoneOrOk(r.H) || len(r.List) > MaxEntries {
		return false
	}
	for _, e := range r.List {
		if !isName(e.Name) || !HandleOk(e.H) {
			return false
		}
	}
	return true
}

func MsgOk(m Msg) bool {
	has := contentOf(m)
	return has != nil && isEnd(m.From) && isEnd(m.To) && has.ok() && sameMsg(m, headOf(m).with(has))
}

func MsgBytes(m Msg) ([]byte, bool) {
	if !MsgOk(m) {
		return nil, false
	}
	head := put(nil, m.Kind, m.From, m.To)
	return put(head, valuesOf(contentOf(m))...), true
}

func MsgRead(b []byte) (Msg, bool) {
	r := &reader{bytes: b}
	m := Msg{Kind: r.number(), From: r.number(), To: r.number()}
	m = m.with(r.content(m.Kind))
	if !r.isAtEnd() || !MsgOk(m) {
		return Msg{}, false
	}
	return m, true
}

func isDirectory(h Handle) bool {
	return HandleOk(h) && h.Dir
}

func isNoneOrOk(h Handle) bool {
	return h == Handle{} || HandleOk(h)
}

func isCode(n int) bool {
	return n >= RpWell && n <= RpBad
}

func isFlag(n int) bool {
	return n == 0 || n == 1
}

// isEnd tells whether n is one between whom messages go: shards, then clients.
func isEnd(n int) bool {
	return n >= 0 && n < MaxShards+MaxClients
}

func (x msRequest) ok() bool { return isNumber(x.req) && OpOk(x.op) }

func (x msReply) ok() bool { return isNumber(x.req) && ReplyOk(x.reply) }

func (x msPrepare) ok() bool { return TxOk(x.tx) && PartOk(x.part) }

func (x msVote) ok() bool {
	return TxOk(x.tx) && PartOk(x.part) && isCode(x.code) && isNoneOrOk(x.h)
}

func (x msAsk) ok() bool { return TxOk(x.tx) }

func (x msTell) ok() bool { return TxOk(x.tx) && isFlag(x.code) }

func (x msUp) ok() bool { return TxOk(x.tx) && isNumber(x.req) && isDirectory(x.h) }

func (x msIs) ok() bool {
	return TxOk(x.tx) && isNumber(x.req) && isCode(x.code) && isNoneOrOk(x.h)
}

// contentOf is nil where there is no such kind.
func contentOf(m Msg) content {
	switch m.Kind {
	case MsRequest:
		return msRequest{req: m.Req, op: m.Op}
	case MsReply:
		return msReply{req: m.Req, reply: m.Reply}
	case MsPrepare:
		return msPrepare{tx: m.Tx, part: m.Part}
	case MsVote:
		return msVote{tx: m.Tx, part: m.Part, code: m.Code, h: m.H}
	case MsAsk:
		return msAsk{tx: m.Tx}
	case MsTell:
		return msTell{tx: m.Tx, code: m.Code}
	case MsUp:
		return msUp{tx: m.Tx, req: m.Req, h: m.H}
	case MsIs:
		return msIs{tx: m.Tx, req: m.Req, code: m.Code, h: m.H}
	}
	return nil
}

func headOf(m Msg) Msg {
	return Msg{Kind: m.Kind, From: m.From, To: m.To}
}

// with is for a message that has its head alone.
func (m Msg) with(has content) Msg {
	switch x := has.(type) {
	case msRequest:
		m.Req, m.Op = x.req, x.op
	case msReply:
		m.Req, m.Reply = x.req, x.reply
	case msPrepare:
		m.Tx, m.Part = x.tx, x.part
	case msVote:
		m.Tx, m.Part, m.Code, m.H = x.tx, x.part, x.code, x.h
	case msAsk:
		m.Tx = x.tx
	case msTell:
		m.Tx, m.Code = x.tx, x.code
	case msUp:
		m.Tx, m.Req, m.H = x.tx, x.req, x.h
	case msIs:
		m.Tx, m.Req, m.Code, m.H = x.tx, x.req, x.code, x.h
	}
	return m
}

// valuesOf tells what stands in the bytes of a kind, in order.
func valuesOf(has content) []any {
	switch x := has.(type) {
	case msRequest:
		return []any{x.req, x.op}
	case msReply:
		return []any{x.req, x.reply}
	case msPrepare:
		return []any{x.tx, x.part}
	case msVote:
		return []any{x.tx, x.part, x.code, x.h}
	case msAsk:
		return []any{x.tx}
	case msTell:
		return []any{x.tx, x.code}
	case msUp:
		return []any{x.tx, x.req, x.h}
	case msIs:
		return []any{x.tx, x.req, x.code, x.h}
	}
	return nil
}

// put is for values that are as their chapters want them: numbers and texts that have bytes.
func put(b []byte, values ...any) []byte {
	for _, value := range values {
		switch x := value.(type) {
		case int:
			b = PutNum(b, x)
		case []byte:
			b = PutText(b, x)
		case bool:
			b = putFlag(b, x)
		case Handle:
			b = put(b, x.Shard, x.Ino, x.Dir)
		case Op:
			b = put(b, x.Kind, x.Dir, x.Name, x.To, x.As, x.Val)
		case []Entry:
			b = putEntries(b, x)
		case Reply:
			b = put(b, x.Code, x.H, x.Val, x.List)
		case Tx:
			b = put(b, x.Shard, x.Boot, x.N)
		case Part:
			b = put(b, x.Kind, x.H, x.As, x.To)
		}
	}
	return b
}

// putFlag writes a byte 1 or 0, which is just what these numbers become.
func putFlag(b []byte, is bool) []byte {
	if is {
		return PutNum(b, 1)
	}
	return PutNum(b, 0)
}

func putEntries(b []byte, entries []Entry) []byte {
	b = PutNum(b, len(entries))
	for _, e := range entries {
		b = put(b, e.Name, e.H)
	}
	return b
}

func (r *reader) isAtEnd() bool {
	return r.at == len(r.bytes)
}

// content is nil where there is no such kind.
func (r *reader) content(kind int) content {
	switch kind {
	case MsRequest:
		return msRequest{req: r.number(), op: r.op()}
	case MsReply:
		return msReply{req: r.number(), reply: r.reply()}
	case MsPrepare:
		return msPrepare{tx: r.tx(), part: r.part()}
	case MsVote:
		return msVote{tx: r.tx(), part: r.part(), code: r.number(), h: r.handle()}
	case MsAsk:
		return msAsk{tx: r.tx()}
	case MsTell:
		return msTell{tx: r.tx(), code: r.number()}
	case MsUp:
		return msUp{tx: r.tx(), req: r.number(), h: r.handle()}
	case MsIs:
		return msIs{tx: r.tx(), req: r.number(), code: r.number(), h: r.handle()}
	}
	return nil
}

func (r *reader) number() int {
	n, next := GetNum(r.bytes, r.at)
	r.at = next
	return n
}

// text tells nil for a text of no bytes, as the zero value has it.
func (r *reader) text() []byte {
	text, next := GetText(r.bytes, r.at)
	r.at = next
	if len(text) == 0 {
		return nil
	}
	return text
}

func (r *reader) flag() bool {
	n := r.number()
	if !isFlag(n) {
		r.at = -1
	}
	return n == 1
}

func (r *reader) handle() Handle {
	return Handle{Shard: r.number(), Ino: r.number(), Dir: r.flag()}
}

func (r *reader) op() Op {
	return Op{Kind: r.number(), Dir: r.handle(), Name: r.text(), To: r.handle(), As: r.text(), Val: r.number()}
}

func (r *reader) entries() []Entry {
	count := r.number()
	if count > MaxEntries {
		r.at = -1
		return nil
	}
	var out []Entry
	for range count {
		out = append(out, Entry{Name: r.text(), H: r.handle()})
	}
	return out
}

func (r *reader) reply() Reply {
	return Reply{Code: r.number(), H: r.handle(), Val: r.number(), List: r.entries()}
}

func (r *reader) tx() Tx {
	return Tx{Shard: r.number(), Boot: r.number(), N: r.number()}
}

func (r *reader) part() Part {
	return Part{Kind: r.number(), H: r.handle(), As: r.text(), To: r.handle()}
}

func sameOp(a, b Op) bool {
	return a.Kind == b.Kind && a.Dir == b.Dir && bytes.Equal(a.Name, b.Name) && a.To == b.To && bytes.Equal(a.As, b.As) && a.Val == b.Val
}

func sameEntry(a, b Entry) bool {
	return bytes.Equal(a.Name, b.Name) && a.H == b.H
}

func sameReply(a, b Reply) bool {
	return a.Code == b.Code && a.H == b.H && a.Val == b.Val && slices.EqualFunc(a.List, b.List, sameEntry)
}

func samePart(a, b Part) bool {
	return a.Kind == b.Kind && a.H == b.H && bytes.Equal(a.As, b.As) && a.To == b.To
}

func sameMsg(a, b Msg) bool {
	return a.Kind == b.Kind && a.From == b.From && a.To == b.To && a.Req == b.Req && sameOp(a.Op, b.Op) && sameReply(a.Reply, b.Reply) &&
		a.Tx == b.Tx && samePart(a.Part, b.Part) && a.Code == b.Code && a.H == b.H
}
