/- The program's look at a node by itself. Condition: at most 2^21 of all. -/
import Derived.Test.YtblahkhniabhiaaGreatDoorFImplT3
import Derived.Test.YtblahkhniabhiaaGreatDoorFOpOks2
namespace Go.Proofs.YtblahkhniabhiaaGreatDoor
open Go.RowKit
set_option linter.unusedVariables false
set_option linter.unusedSimpArgs false

def ndI (n : Nd) : Bool:=(HOk n.h && (decide (1 ≤ n.links) && decide (n.links ≤ 2147483647))) && (if n.h.dir then dirOk n && entsI n.es else (decide (0 ≤ n.val) && decide (n.val ≤ 2147483647)) && fileOk n)

set_option maxHeartbeats 2000000 in
theorem implNode_any (x : Value) (n : Nd) (S : Nat → Prop) (w : World) (r : RdV w S x (ensDt n.es)) (hl : szEns n.es ≤ 2097152) :
  Calls Tryz.prog 91 #[ndV n x] w fun e w' => e = .returned (.bool (ndI n)) ∧ Below w.heap.size w w':=by
 obtain ⟨a,cap,rfl,_⟩:=RdV.sliced r
 obtain ⟨⟨p,q,d⟩,⟨p2,q2,d2⟩,lk,vl,es⟩:=n
 dsimp only at r hl ⊢
 have HR : Hid (∀ W,Below w.heap.size w W → RdV W S (.slice a es.length cap) (ensDt es)):=RdV.old r
 have HL : Hid _:=hl
 have HH : Hid (∀ W,_):=fun W => implHandleOk_w (p,q,d) W
 have HH2 : Hid (∀ W,_):=fun W => implHandleOk_w (p2,q2,d2) W
 have HNUM : Hid (∀ W,_):=fun W => isNumber_any vl W
 have HEN : Hid (∀ W,Below w.heap.size w W → _):=fun W hW => entriesOk_any _ es S W (HR.out W hW) hl
 obtain ⟨res,hres⟩ : ∃ res,ndI ⟨(p,q,d),(p2,q2,d2),lk,vl,es⟩ = res:=⟨_,rfl⟩
 rw [hres]
 simp only [ndI,fileOk,dirOk] at hres
 generalize HOk (p,q,d) = bd at HH hres
 generalize HOk (p2,q2,d2) = bt at HH2 hres
 generalize entsI es = be at HEN hres
 obtain ⟨m,hm⟩ : ∃ m,es.length = m:=⟨_,rfl⟩
 have hm21 : m ≤ 2097152:=by unfold szEns at hl; omega
 rw [hm] at hres HEN ⊢
 have HRES : Hid _:=hres
 clear r hl hm hres HR HL
 by_cases hA : bd = true ∧ 1 ≤ lk ∧ lk ≤ 2147483647
 case neg =>
  have HF : Hid (res = false):=by
   rw [← HRES.out]
   show _ = _
   rw [Bool.eq_false_iff]
   intro h
   rw [Bool.and_eq_true] at h
   have h1:=h.1
   simp only [Bool.and_eq_true,decide_eq_true_eq] at h1
   exact hA h1
  rw [HF.out]
  go_enter Tryz.func91,Tryz.ntmps91
  go_wp2_with fail
  refine Calls.mono (HH.out _) ?_
  rintro e w2 ⟨rfl,rfl⟩
  cases bd with
  | false =>
   go_wp2
   go_ret
   exact ⟨rfl,Below.newH2 _ _⟩
  | true =>
   have hA2 : ¬ (1 ≤ lk ∧ lk ≤ 2147483647):=fun h => hA ⟨rfl,h⟩
   clear HRES HF HEN HH2 HNUM hA
   go_wp2_with fail
   all_goals first | (go_ret; exact ⟨rfl,Below.newH2 _ _⟩) | (exfalso; omega)
 obtain ⟨rfl,hk1,hk2⟩:=hA
 have HRES2 : Hid ((if d then (decide (vl = 0) && (decide (lk = 1) && (bt && d2))) && be else (decide (0 ≤ vl) && decide (vl ≤ 2147483647)) && (decide (m = 0) && decide ((p2,q2,d2) = hd0))) = res):=by
  rw [← HRES.out]; show _ = _; simp [hk1,hk2]
 clear HRES
 cases d with
 | false =>
  simp only [Bool.false_eq_true,if_false] at HRES2
  clear HEN HH2
  by_cases hV : 0 ≤ vl ∧ vl ≤ 2147483647
  case neg =>
   have hn : (decide (0 ≤ vl) && decide (vl ≤ 2147483647)) = false:=by
    rw [Bool.eq_false_iff]; intro h; simp only [Bool.and_eq_true,decide_eq_true_eq] at h; exact hV h
   have HF : Hid (res = false):=by rw [← HRES2.out]; show _ = _; rw [hn]; rfl
   rw [hn] at HNUM
   rw [HF.out]
   clear HRES2 HF hn
   go_enter Tryz.func91,Tryz.ntmps91
   go_wp2_with fail
   refine Calls.mono (HH.out _) ?_
   rintro e w2 ⟨rfl,rfl⟩
   go_wp2_with fail
   refine Calls.mono (HNUM.out _) ?_
   rintro e w2 ⟨rfl,rfl⟩
   go_wp2
   go_ret
   exact ⟨rfl,Below.newH2 _ _⟩
  have hn : (decide (0 ≤ vl) && decide (vl ≤ 2147483647)) = true:=by simp [hV.1,hV.2]
  rw [hn] at HNUM HRES2
  simp only [Bool.true_and] at HRES2
  clear hn
  go_enter Tryz.func91,Tryz.ntmps91
  go_wp2_with fail
  refine Calls.mono (HH.out _) ?_
  rintro e w2 ⟨rfl,rfl⟩
  go_wp2_with fail
  refine Calls.mono (HNUM.out _) ?_
  rintro e w2 ⟨rfl,rfl⟩
  go_wp2
  all_goals (go_ret; exact ⟨by rw [← HRES2.out]; first | rfl | (simp_all [hd0,Hd.sh,Hd.ino,Hd.dir] <;> omega) | (simp_all [hd0,Hd.sh,Hd.ino,Hd.dir]; rw [Bool.eq_iff_iff]; simp),Below.newH2 _ _⟩)
 | true =>
  simp only [if_true] at HRES2
  clear HNUM
  by_cases hB : vl = 0 ∧ lk = 1
  case neg =>
   have HF : Hid (res = false):=by
    rw [← HRES2.out]
    show _ = _
    by_cases h1 : vl = 0 <;> by_cases h2 : lk = 1 <;> simp_all
   rw [HF.out]
   clear HRES2 HF HEN HH2
   go_enter Tryz.func91,Tryz.ntmps91
   go_wp2_with fail
   refine Calls.mono (HH.out _) ?_
   rintro e w2 ⟨rfl,rfl⟩
   go_wp2_with fail
   all_goals first | (go_ret; exact ⟨rfl,Below.newH2 _ _⟩) | (exfalso; omega)
  obtain ⟨rfl,rfl⟩:=hB
  cases bt with
  | false =>
   have HF : Hid (res = false):=by rw [← HRES2.out]; show _ = _; simp
   rw [HF.out]
   clear HRES2 HF HEN
   go_enter Tryz.func91,Tryz.ntmps91
   go_wp2_with fail
   refine Calls.mono (HH.out _) ?_
   rintro e w2 ⟨rfl,rfl⟩
   go_wp2_with fail
   refine Calls.mono (HH2.out _) ?_
   rintro e w3 ⟨rfl,rfl⟩
   go_wp2
   go_ret
   exact ⟨rfl,(Below.newH2 (w:=w) _ _).alloc (by simp; omega) _⟩
  | true =>
  cases d2 with
  | false =>
   have HF : Hid (res = false):=by rw [← HRES2.out]; show _ = _; simp
   rw [HF.out]
   clear HRES2 HF HEN
   go_enter Tryz.func91,Tryz.ntmps91
   go_wp2_with fail
   refine Calls.mono (HH.out _) ?_
   rintro e w2 ⟨rfl,rfl⟩
   go_wp2_with fail
   refine Calls.mono (HH2.out _) ?_
   rintro e w3 ⟨rfl,rfl⟩
   go_wp2
   go_ret
   exact ⟨rfl,(Below.newH2 (w:=w) _ _).alloc (by simp; omega) _⟩
  | true =>
   have HF : Hid (be = res):=by rw [← HRES2.out]; show _ = _; simp
   rw [← HF.out]
   clear HRES2 HF
   go_enter Tryz.func91,Tryz.ntmps91
   go_wp2_with fail
   refine Calls.mono (HH.out _) ?_
   rintro e w2 ⟨rfl,rfl⟩
   go_wp2_with fail
   refine Calls.mono (HH2.out _) ?_
   rintro e w3 ⟨rfl,rfl⟩
   have HB : Hid (Below w.heap.size w (((w.alloc (.cells #[.i p,.i q,.bool true,.i p2,.i q2,.bool true,.i 1,.i 0,.slice a m cap] 77)).alloc (.cells #[.i p,.i q,.bool true] 48)).alloc (.cells #[.i p2,.i q2,.bool true] 48))):=(Below.newH2 (w:=w) _ _).alloc (by simp; omega) _
   go_wp2_with fail
   refine Calls.mono (HEN.out _ HB.out) ?_
   rintro e w4 ⟨rfl,hb4⟩
   go_wp2
   go_ret
   exact ⟨rfl,HB.out.trans (hb4.mono HB.out.size)⟩
end Go.Proofs.YtblahkhniabhiaaGreatDoor
