/- Joined: Draws1. -/
import Derived.Test.YtjhaanenkeceiaaDoorJ02

section
/- What is drawn in chapter 1: bytes and numbers in their bounds, in memory of their own; no condition. -/
namespace Go.Proofs.YtjhaanenkeceiaaDoor
open Go.RowKit
set_option linter.unusedVariables false

def SomeRel (w : World) (pb N : Nat) (o i : Value) (wr : World) : Prop :=
  ∃ (k : Nat) (ys : List Int), k ≤ N ∧ i = .int .i64 k ∧ ys.length = k ∧ isBytes ys ∧ Owns wr w.heap.size o ys ∧ CurAt wr pb ∧ w.grownBy wr (some pb)

set_option maxHeartbeats 1000000 in
theorem some_any (pb : Nat) (most : Nat) (w : World) (h : CurAt w pb) (hm : most ≤ 100000) :
    Calls Tryd.prog 70 #[.pointer (some ⟨pb, 0, none⟩), .int .i64 most] w fun e w' => ∃ v ys, e = .returned v ∧ Owns w' w.heap.size v ys ∧ isBytes ys ∧ ys.length ≤ most ∧ CurAt w' pb ∧ w.grownBy w' (some pb) := by
  have hpb := h.lt
  go_enter Tryd.func70, Tryd.ntmps70
  go_wp2_with fail
  refine (below_any pb _ w h (by omega) (by omega)).mono ?_
  rintro e w1 ⟨x, rfl, hx0, hx1, hc1, hg1⟩
  obtain ⟨N, rfl⟩ : ∃ N : Nat, x = (N : Int) := ⟨x.toNat, by omega⟩
  have hNm : N ≤ most := by omega
  go_wp2
  go_loopw [5, 7] (fun o i wr => SomeRel w pb N o i wr) (fun _ i _ => N - (intOf i).toNat)
  case atStart => exact ⟨0, [], Nat.zero_le _, rfl, rfl, isBytes_nil, World.ownsRow_nil _ _ _ _, hc1, hg1⟩
  case round =>
    clear hc1 hg1 h
    obtain ⟨k, ys, hk, rfl, hyl, hyb, hown, hcur, hgr⟩ := hrel
    have HO : Hid _ := hown
    have HGR : Hid _ := hgr
    have HB : Hid _ := hyb
    have HY : Hid _ := hyl
    clear hown hgr hyb hyl
    by_cases hlt : k < N
    · go_wp2_with fail
      refine (byte_any pb _ hcur).mono ?_
      rintro e w2 ⟨x, rfl, hx0, hx1, hc2, hg2⟩
      have HO2 : Hid (Owns w2 w.heap.size u5 ys) := Owns.cur HO.out hg2 hpb
      have HG2 : Hid _ := grown_trans HGR.out hg2
      have hs2 := HG2.out.size
      go_wp2_with (at_builtin; go_must (refine wpList_app _ rfl (.tmp 17) (.tmp 21) rfl w.heap.size _ ys [x] rfl (HO2.out.alloc _) _ 1 1 rfl rfl (one_new _ x (by omega) (by omega)) (by have := HY.out; omega) (by simp) (by simp; omega) (fun h => by cases h) ?_; intro v3 w3 ho3 hg3))
      have HR : SomeRel w pb N v3 (.int .i64 ((k : Int) + 1)) w3 := by
        refine ⟨k + 1, ys ++ [x], by omega, by go_num, by simp [HY.out], isBytes_snoc HB.out hx0 hx1, ho3, ?_, ?_⟩
        · exact (hc2.alloc _).grown hg3 (fun q hq => by have := (HO2.out.lt q hq).1; omega)
        · exact grown_new (grown_alloc HG2.out _) hg3 (fun q hq => (HO2.out.lt q hq).1)
      refine ⟨?_, by simp [intOf]; omega⟩
      first | exact HR | exact ⟨_, _, HR, rfl, rfl⟩
    · go_wp2
      go_ret
      exact ⟨_, ys, rfl, HO.out, HB.out, by have := HY.out; omega, hcur, HGR.out⟩

end Go.Proofs.YtjhaanenkeceiaaDoor
end
