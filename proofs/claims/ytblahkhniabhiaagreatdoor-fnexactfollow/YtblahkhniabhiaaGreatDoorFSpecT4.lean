/- The specification's look at a node by itself. Condition: at most 2^21 of all. -/
import Derived.Test.YtblahkhniabhiaaGreatDoorFSpecT4a
namespace Go.Proofs.YtblahkhniabhiaaGreatDoor
open Go.RowKit
set_option linter.unusedVariables false
set_option linter.unusedSimpArgs false

set_option maxHeartbeats 4000000 in
theorem specNode_any (x : Value) (n : Nd) (S : Nat → Prop) (w : World) (r : RdV w S x (ensDt n.es)) (hl : szEns n.es ≤ 2097152) :
  Calls Tryz.prog 49 #[ndV n x] w fun e w' => e = .returned (.bool (ndOk n)) ∧ Below w.heap.size w w':=by
 obtain ⟨a,cap,rfl,_⟩:=RdV.sliced r
 obtain ⟨⟨p,q,d⟩,⟨p2,q2,d2⟩,lk,vl,es⟩:=n
 dsimp only at r hl ⊢
 have HR : Hid (∀ W,Below w.heap.size w W → RdV W S (.slice a es.length cap) (ensDt es)):=RdV.old r
 have HL : Hid _:=hl
 have HH : Hid (∀ W,_):=fun W => specHandleOk_w (p,q,d) W
 have HH2 : Hid (∀ W,_):=fun W => specHandleOk_w (p2,q2,d2) W
 obtain ⟨res,hres⟩ : ∃ res,ndOk ⟨(p,q,d),(p2,q2,d2),lk,vl,es⟩ = res:=⟨_,rfl⟩
 rw [hres]
 simp only [ndOk,baseOk,fileOk,dirOk] at hres
 generalize HOk (p,q,d) = bd at HH hres
 generalize HOk (p2,q2,d2) = bt at HH2 hres
 obtain ⟨be,hbe⟩ : ∃ be,entsOk es = be:=⟨_,rfl⟩
 rw [hbe] at hres
 have HBE : Hid _:=hbe
 clear hbe
 obtain ⟨m,hm⟩ : ∃ m,es.length = m:=⟨_,rfl⟩
 rw [hm] at HR hres ⊢
 have HN : Hid _:=hm
 have HRES : Hid _:=hres
 clear r hl hm hres
 by_cases hA : bd = true ∧ 1 ≤ lk ∧ lk ≤ 2147483647 ∧ 0 ≤ vl ∧ vl ≤ 2147483647 ∧ m ≤ 12
 case neg =>
  have HF : Hid (res = false):=by
   rw [← HRES.out]
   show _ = _
   rw [Bool.eq_false_iff]
   intro h
   rw [Bool.and_eq_true] at h
   have h1:=h.1
   simp only [Bool.and_eq_true,decide_eq_true_eq] at h1
   exact hA h1
  rw [HF.out]
  go_enter Tryz.func49,Tryz.ntmps49
  go_wp2_with fail
  refine Calls.mono (HH.out _) ?_
  rintro e w2 ⟨rfl,rfl⟩
  cases bd with
  | false =>
   go_wp2
   go_ret
   exact ⟨rfl,Below.newH2 _ _⟩
  | true =>
   have hA2 : ¬ (1 ≤ lk ∧ lk ≤ 2147483647 ∧ 0 ≤ vl ∧ vl ≤ 2147483647 ∧ m ≤ 12):=fun h => hA ⟨rfl,h⟩
   clear HRES HF HR HN HL HH2 hA
   go_wp2_with fail
   all_goals first | (go_ret; exact ⟨rfl,Below.newH2 _ _⟩) | (exfalso; omega)
 obtain ⟨rfl,hk1,hk2,hv1,hv2,hm12⟩:=hA
 have HRES2 : Hid ((if d then (decide (vl = 0) && (decide (lk = 1) && (bt && d2))) && be else decide (m = 0) && decide ((p2,q2,d2) = hd0)) = res):=by
  rw [← HRES.out]; show _ = _; simp [hk1,hk2,hv1,hv2,hm12]
 clear HRES
 cases d with
 | false =>
  simp only [Bool.false_eq_true,if_false] at HRES2
  clear HR HN HL HH2
  go_enter Tryz.func49,Tryz.ntmps49
  go_wp2_with fail
  refine Calls.mono (HH.out _) ?_
  rintro e w2 ⟨rfl,rfl⟩
  go_wp2
  all_goals (go_ret; exact ⟨by rw [← HRES2.out]; first | rfl | (simp_all [hd0,Hd.sh,Hd.ino,Hd.dir] <;> omega) | (simp_all [hd0,Hd.sh,Hd.ino,Hd.dir]; rw [Bool.eq_iff_iff]; simp),Below.newH2 _ _⟩)
 | true =>
  simp only [if_true] at HRES2
  by_cases hB : vl = 0 ∧ lk = 1
  case neg =>
   have HF : Hid (res = false):=by
    rw [← HRES2.out]
    show _ = _
    by_cases h1 : vl = 0 <;> by_cases h2 : lk = 1 <;> simp_all
   rw [HF.out]
   clear HRES2 HF HR HN HL HH2
   go_enter Tryz.func49,Tryz.ntmps49
   go_wp2_with fail
   refine Calls.mono (HH.out _) ?_
   rintro e w2 ⟨rfl,rfl⟩
   go_wp2_with fail
   all_goals first | (go_ret; exact ⟨rfl,Below.newH2 _ _⟩) | (exfalso; omega)
  obtain ⟨rfl,rfl⟩:=hB
  cases bt with
  | false =>
   have HF : Hid (res = false):=by rw [← HRES2.out]; show _ = _; simp
   rw [HF.out]
   clear HRES2 HF HR HN HL
   go_enter Tryz.func49,Tryz.ntmps49
   go_wp2_with fail
   refine Calls.mono (HH.out _) ?_
   rintro e w2 ⟨rfl,rfl⟩
   go_wp2_with fail
   refine Calls.mono (HH2.out _) ?_
   rintro e w3 ⟨rfl,rfl⟩
   go_wp2
   go_ret
   exact ⟨rfl,(Below.newH2 (w:=w) _ _).alloc (by simp; omega) _⟩
  | true =>
  cases d2 with
  | false =>
   have HF : Hid (res = false):=by rw [← HRES2.out]; show _ = _; simp
   rw [HF.out]
   clear HRES2 HF HR HN HL
   go_enter Tryz.func49,Tryz.ntmps49
   go_wp2_with fail
   refine Calls.mono (HH.out _) ?_
   rintro e w2 ⟨rfl,rfl⟩
   go_wp2_with fail
   refine Calls.mono (HH2.out _) ?_
   rintro e w3 ⟨rfl,rfl⟩
   go_wp2
   go_ret
   exact ⟨rfl,(Below.newH2 (w:=w) _ _).alloc (by simp; omega) _⟩
  | true =>
   have HF : Hid (be = res):=by rw [← HRES2.out]; show _ = _; simp
   rw [← HF.out]
   clear HRES2 HF
   rw [← HBE.out]
   exact specNodeDir p q p2 q2 es a cap m S w HR HN HL HH HH2 hm12
end Go.Proofs.YtblahkhniabhiaaGreatDoor
