package impl

const MaxShards = 4
const MaxName = 6
const MaxEntries = 12
const MaxNodes = 60
const MaxDeep = 12

type Handle struct {
	Shard int
	Ino   int
	Dir   bool
}

const (
	OpLook = iota
	OpList
	OpRead
	OpWrite
	OpMake
	OpDrop
	OpLink
	OpMove
)

type Op struct {
	Kind int
	Dir  Handle
	Name []byte
	To   Handle
	As   []byte
	Val  int
}

const (
	RpWell = iota
	RpStale
	RpNoDir
	RpNoEnt
	RpExist
	RpFull
	RpIsDir
	RpNotEmpty
	RpLoop
	RpDeep
	RpBusy
	RpBad
)

type Entry struct {
	Name []byte
	H    Handle
}

type Reply struct {
	Code int
	H    Handle
	Val  int
	List []Entry
}

type Node struct {
	H       Handle
	Parent  Handle
	Links   int
	Val     int
	Entries []Entry
}

type Tree struct {
	Nodes []Node
}

func HandleOk(h Handle) bool { return false }

func OpOk(o Op) bool { return false }

func Root() Tree { return Tree{} }

func TreeOk(t Tree) bool { return false }

func Do(t Tree, o Op, fresh Handle) (Tree, Reply) { return Tree{}, Reply{} }
