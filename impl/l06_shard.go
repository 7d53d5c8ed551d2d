package impl

const (
	RcBoot = iota
	RcLocal
	RcIntent
	RcDecide
	RcTold
)

type Record struct {
	Kind   int
	Client int
	Req    int
	Op     Op
	Fresh  Handle
	Reply  Reply
	Tx     Tx
	Part   Part
	Code   int
}

type Intent struct {
	Tx    Tx
	Part  Part
	Code  int
	Fresh Handle
}

type Verdict struct {
	Tx Tx
	Ok bool
}

type Last struct {
	Client int
	Req    int
	Reply  Reply
}

type Shard struct {
	Id      int
	Boot    int
	Next    int
	Nodes   []Node
	Intents []Intent
	Decided []Verdict
	Done    []Tx
	Lasts   []Last
}

func RecordOk(r Record) bool { return false }

func RecordBytes(r Record) ([]byte, bool) { return nil, false }

func RecordRead(b []byte) (Record, bool) { return Record{}, false }

func Replay(id int, l []Record) (Shard, bool) { return Shard{}, false }
