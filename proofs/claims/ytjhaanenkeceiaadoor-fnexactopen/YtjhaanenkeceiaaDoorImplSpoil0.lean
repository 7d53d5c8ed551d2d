/- bytes.Equal, and how the loops over sectors are told. -/
import Derived.Test.YtjhaanenkeceiaaDoorStrs3
import Derived.Test.YtjhaanenkeceiaaDoorImplClaim
import Derived.ScopeJumps
import Derived.Walk3
namespace Go.Proofs.YtjhaanenkeceiaaDoor
open Go.RowKit Go.Lib
set_option linter.unusedVariables false
set_option linter.unusedSimpArgs false
attribute [local go_sem ↓] Go.wp_at_zero Go.wp_at_succ

theorem equal_any (u v : Value) (xs ys : List Int) (l h l' h' : Nat) (w : World) (r : RdB w l h u xs) (s : RdB w l' h' v ys) :
    Calls Tryd.prog 91 #[u, v] w fun e w' => e = .returned (.bool (decide (xs = ys))) ∧ w' = w := by
  obtain ⟨bx, a, la, ca, rfl, hla, _, hx⟩ := r.reads
  obtain ⟨by_, b, lb, cb, rfl, hlb, _, hy⟩ := s.reads
  have h1 := conv_any a xs la ca w hx hla
  have h2 := conv_any b ys lb cb w hy hlb
  have hst := str_eq xs ys bx by_
  generalize strOfNums xs = s1 at h1 hst
  generalize strOfNums ys = s2 at h2 hst
  have HST : Hid _ := hst
  clear hx hy hla hlb r s bx by_ hst
  go_enter Tryd.func91, Tryd.ntmps91
  go_wp2
  go_ret
  refine ⟨?_, rfl⟩
  rw [← HST.out]
  rfl
end Go.Proofs.YtjhaanenkeceiaaDoor
