package tests

import (
	"testing"

	"loop.example/g00341/impl"
)

// A code that is put in among others moves all behind it; the document's numbers must stay.
func TestCodesHaveTheDocumentsNumbers(t *testing.T) {
	groups := [][]int{
		{impl.OpLook, impl.OpList, impl.OpRead, impl.OpWrite, impl.OpMake, impl.OpDrop, impl.OpLink, impl.OpMove},
		{impl.RpWell, impl.RpStale, impl.RpNoDir, impl.RpNoEnt, impl.RpExist, impl.RpFull, impl.RpIsDir, impl.RpNotEmpty, impl.RpLoop, impl.RpDeep, impl.RpBusy, impl.RpBad},
		{impl.PaUnlink, impl.PaRelink, impl.PaMake, impl.PaEnter, impl.PaParent, impl.PaGate},
		{impl.MsRequest, impl.MsReply, impl.MsPrepare, impl.MsVote, impl.MsAsk, impl.MsTell, impl.MsUp, impl.MsIs},
		{impl.RcBoot, impl.RcLocal, impl.RcIntent, impl.RcDecide, impl.RcTold},
		{impl.AcCall, impl.AcDeliver, impl.AcDouble, impl.AcDrop, impl.AcTick, impl.AcCrash, impl.AcFuse, impl.AcStart},
	}
	for g, codes := range groups {
		for want, code := range codes {
			if code != want {
				t.Errorf("group %d: code %d stands at %d", g, code, want)
			}
		}
	}
}
