package impl

const MaxClients = 4

type Tx struct {
	Shard int
	Boot  int
	N     int
}

const (
	PaUnlink = iota
	PaRelink
	PaMake
	PaEnter
	PaParent
	PaGate
)

type Part struct {
	Kind int
	H    Handle
	As   []byte
	To   Handle
}

const (
	MsRequest = iota
	MsReply
	MsPrepare
	MsVote
	MsAsk
	MsTell
	MsUp
	MsIs
)

type Msg struct {
	Kind  int
	From  int
	To    int
	Req   int
	Op    Op
	Reply Reply
	Tx    Tx
	Part  Part
	Code  int
	H     Handle
}

func TxOk(x Tx) bool { return false }

func PartOk(p Part) bool { return false }

func ReplyOk(r Reply) bool { return false }

func MsgOk(m Msg) bool { return false }

func MsgBytes(m Msg) ([]byte, bool) { return nil, false }

func MsgRead(b []byte) (Msg, bool) { return Msg{}, false }
