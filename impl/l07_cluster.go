package impl

const MaxScript = 400
const MaxNet = 80
const Reserve = 600

const (
	AcCall = iota
	AcDeliver
	AcDouble
	AcDrop
	AcTick
	AcCrash
	AcFuse
	AcStart
)

type Setup struct {
	Shards  int
	Clients int
	Sectors int
	Settle  bool
}

type Action struct {
	Kind int
	Node int
	I    int
	Op   Op
	Keep []bool
	Torn int
}

type Deed struct {
	At     int
	Client int
	Req    int
	Op     Op
	Reply  Reply
}

type Call struct {
	Client int
	Req    int
	Op     Op
	From   int
	To     int
	Reply  Reply
}

type Result struct {
	Ok     bool
	Deeds  []Deed
	Calls  []Call
	Shards []Shard
	Up     []bool
	Net    int
	Acts   int
	Rounds int
}

func SetupOk(s Setup) bool { return false }

func ActionOk(a Action) bool { return false }

func Run(s Setup, script []Action) Result { return Result{} }
