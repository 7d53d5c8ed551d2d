/- How many entries lead to a handle, by the specification. Condition: at most 2^21 of all. -/
import Derived.Test.YtblahkhniabhiaaGreatDoorFSpecT1
namespace Go.Proofs.YtblahkhniabhiaaGreatDoor
open Go.RowKit
set_option linter.unusedVariables false
set_option linter.unusedSimpArgs false

theorem psum_len {α : Type} (f g : α → Nat) (h : ∀ a,f a ≤ g a) (l : List α) (j : Nat) : psum f l j ≤ (l.map g).sum:=by
 have h1:=psum_mono0 f g h (l.take j)
 have h2:=psum_le g l j
 unfold psum at *
 omega

set_option maxHeartbeats 4000000 in
theorem specCount_any (x : Value) (l : List Nd) (h : Hd) (S : Nat → Prop) (w : World) (r : RdV w S x (ndsDt l)) (hl : szNds l ≤ 2097152) :
  Calls Tryz.prog 51 #[.agg #[x],h.v] w fun e w' => e = .returned (.i (cntH l h : Int)) ∧ Below w.heap.size w w':=by
 obtain ⟨a,cap,rfl,_⟩:=RdV.sliced r
 obtain ⟨s,ino,d⟩:=h
 have HR : Hid (∀ W,Below w.heap.size w W → RdV W S (.slice a l.length cap) (.rows 77 9 l.length (fun i j => ndCell (l[i]?.getD nd0) j))):=RdV.old r
 have HP : Hid (∀ j,psum (fun n => cntE n.es (s,ino,d)) l j ≤ 2097152):=fun j => Nat.le_trans (psum_len _ (fun n : Nd => szEns n.es) (fun n => by unfold cntE szEns; exact Nat.le_trans List.countP_le_length (by omega)) l j) (by unfold szNds at hl; omega)
 have HX : Hid (cntH l (s,ino,d) = psum (fun n => cntE n.es (s,ino,d)) l l.length):=rfl
 have HU : Hid (∀ j,j < l.length → psum (fun n => cntE n.es (s,ino,d)) l (j + 1) = psum (fun n => cntE n.es (s,ino,d)) l j + cntE (l[j]?.getD nd0).es (s,ino,d)):=fun j hj => psum_next _ l _ j hj
 have HU0 : Hid (psum (fun n => cntE n.es (s,ino,d)) l 0 = 0):=psum_zero _ _
 have HE : Hid (∀ j : Nat,(l[j]?.getD nd0).es.length ≤ 2097152):=fun j => Nat.le_trans (Nat.le_trans (show (l[j]?.getD nd0).es.length ≤ szEns (l[j]?.getD nd0).es by unfold szEns; omega) (szNds_at l j)) hl
 generalize psum (fun n => cntE n.es (s,ino,d)) l = P at HP HX HU HU0
 have hnn : l.length ≤ 2097152:=by unfold szNds at hl; omega
 rw [HX.out]
 clear r hl HX
 generalize l.length = n at *
 go_enter Tryz.func51,Tryz.ntmps51
 go_wp2
 go_loopw [5,6] (fun c i wr => ∃ k : Nat,k ≤ n ∧ i = .i k ∧ c = .i (P k : Int) ∧ Below w.heap.size w wr ∧ VarA wr w.heap.size 26 #[.slice a n cap] ∧ VarA wr (w.heap.size + 1) 48 #[.i s,.i ino,.bool d]) (fun _ i _ => n - (intOf i).toNat)
 case atStart => exact ⟨0,Nat.zero_le _,rfl,by rw [HU0.out]; rfl,Below.newH2 _ _,(VarA.new w _ _).alloc _,by have:=VarA.new (w.alloc (.cells #[.slice a n cap] 26)) 48 #[.i s,.i ino,.bool d]; simpa using this⟩
 case round =>
  obtain ⟨k,hk,rfl,rfl,hbel,v0,v1⟩:=hrel
  have c0:=v0.l1
  by_cases hlt : k < n
  ·obtain ⟨b,off,rfl,hbl,_,hx⟩:=RdV.at (HR.out wr hbel) hlt
   obtain ⟨e,he⟩ : ∃ e,l[k]?.getD nd0 = e:=⟨_,rfl⟩
   obtain ⟨x8,c8,r8⟩:=hx 8 (by omega)
   have hu:=HU.out k hlt
   have he2:=HE.out k
   have hp:=HP.out k
   have hp1:=HP.out (k + 1)
   rw [he] at r8 hu he2
   clear hx he
   obtain ⟨hh,par,lk,vl,es⟩:=e
   dsimp only at hu he2
   have RE : Hid (RdV wr S x8 (ensDt es)):=r8
   clear r8
   obtain ⟨ea,ec,rfl,_⟩:=RdV.sliced RE.out
   have HRE : Hid (∀ W,Below wr.heap.size wr W → RdV W S (.slice ea es.length ec) (.rows 86 4 es.length (fun i j => enCell (es[i]?.getD en0) j))):=RdV.old RE.out
   obtain ⟨m0,hm0⟩ : ∃ m0,es.length = m0:=⟨_,rfl⟩
   rw [hm0] at HRE c8 he2
   have HM0 : Hid _:=hm0
   have HFIN : Hid (P k + cntE (es.take m0) (s,ino,d) = P (k + 1)):=by show _ = _; rw [hu,← hm0,List.take_length]
   have HLE : Hid (∀ m,P k + cntE (es.take m) (s,ino,d) ≤ 4194304):=fun m => by have:=cntE_le es (s,ino,d) m; omega
   clear RE hm0 hu hp1
   generalize P k = pk at *
   have hc8 : ∀ W,Below wr.heap.size wr W → W.cell? ⟨b,off + k * 9 + 8,none⟩ = some (.slice ea m0 ec):=fun W hW => (hW.cell (p:=⟨b,off + k * 9 + 8,none⟩) hbl).trans c8
   have HC8 : Hid _:=hc8
   clear hc8
   go_wp2
   go_loopw [5,7] (fun c i wq => ∃ m : Nat,m ≤ m0 ∧ i = .i m ∧ ∃ z : Nat,c = .i (z : Int) ∧ Hid (z = pk + cntE (es.take m) (s,ino,d)) ∧ Below wr.heap.size wr wq ∧ VarA wq w.heap.size 26 #[.slice (some ⟨b,off,none⟩) n cap] ∧ VarA wq (w.heap.size + 1) 48 #[.i s,.i ino,.bool d]) (fun _ i _ => m0 - (intOf i).toNat)
   case atStart => exact ⟨0,Nat.zero_le _,rfl,pk,rfl,by show _ = _; simp [cntE],Below.refl _ _,v0,v1⟩
   case round =>
    clear c0 v0 v1 c8
    obtain ⟨m,hm,rfl,z,rfl,HZ0,hbel2,v0,v1⟩:=hrel
    have c0:=v0.l1
    obtain ⟨f0,f1,f2⟩:=v1.l3
    have c8:=HC8.out _ hbel2
    by_cases hlt2 : m < m0
    ·obtain ⟨b2,off2,rfl,hbl2,_,hy⟩:=RdV.at (HRE.out _ hbel2) hlt2
     obtain ⟨e,he⟩ : ∃ e,es[m]?.getD en0 = e:=⟨_,rfl⟩
     obtain ⟨x1,g1,r1⟩:=hy 1 (by omega)
     obtain ⟨x2,g2,r2⟩:=hy 2 (by omega)
     obtain ⟨x3,g3,r3⟩:=hy 3 (by omega)
     rw [he] at r1 r2 r3
     have hcn:=cntE_next es (s,ino,d) m (by rw [HM0.out]; exact hlt2)
     rw [he] at hcn
     have hle:=HLE.out (m + 1)
     clear hy he
     obtain ⟨nm,⟨p,q,dd⟩⟩:=e
     obtain rfl : x1 = .i p:=r1
     obtain rfl : x2 = .i q:=r2
     obtain rfl : x3 = .bool dd:=r3
     have HNX : Hid (((p = s ∧ q = ino ∧ dd = d) → z + 1 = pk + cntE (es.take (m + 1)) (s,ino,d)) ∧ (¬ (p = s ∧ q = ino ∧ dd = d) → z = pk + cntE (es.take (m + 1)) (s,ino,d))):=by
      have hz:=HZ0.out
      refine ⟨?_,?_⟩
      ·rintro ⟨rfl,rfl,rfl⟩
       rw [hcn,if_pos rfl]; omega
      ·intro hne
       rw [hcn,if_neg (fun e => hne (by simpa using e))]; omega
     have hzb : z ≤ 4194304:=by have:=HZ0.out; have:=HLE.out m; omega
     clear hcn hle HZ0
     by_cases h1 : p = s
     case neg =>
      have k1 : (p == s) = false:=by simpa using h1
      have HF : Hid _:=HNX.out.2 (fun e => h1 e.1)
      clear HNX
      go_wp2
      go_quiet (fail)
      go_wp2
      go_roundw
      case rel => exact ⟨m + 1,by omega,by go_num,z,rfl,HF.out,below_drewN2 hbel2 _,v0,v1⟩
      case measure => simp [intOf]; omega
     subst h1
     by_cases h2 : q = ino
     case neg =>
      have k1 : (q == ino) = false:=by simpa using h2
      have HF : Hid _:=HNX.out.2 (fun e => h2 e.2.1)
      clear HNX
      go_wp2
      go_quiet (fail)
      go_wp2
      go_roundw
      case rel => exact ⟨m + 1,by omega,by go_num,z,rfl,HF.out,below_drewN2 hbel2 _,v0,v1⟩
      case measure => simp [intOf]; omega
     subst h2
     by_cases h3 : dd = d
     case neg =>
      have k1 : (dd == d) = false:=by simpa using h3
      have HF : Hid _:=HNX.out.2 (fun e => h3 e.2.2)
      clear HNX
      go_wp2
      go_quiet (fail)
      go_wp2
      go_roundw
      case rel => exact ⟨m + 1,by omega,by go_num,z,rfl,HF.out,below_drewN2 hbel2 _,v0,v1⟩
      case measure => simp [intOf]; omega
     subst h3
     have HF : Hid _:=HNX.out.1 ⟨rfl,rfl,rfl⟩
     clear HNX
     go_wp2
     go_quiet (fail)
     go_wp2
     go_roundw
     case rel => exact ⟨m + 1,by omega,by go_num,z + 1,by go_num,HF.out,below_drewN2 hbel2 _,v0,v1⟩
     case measure => simp [intOf]; omega
    ·have hmm : m = m0:=by omega
     subst hmm
     have HF : Hid (z = P (k + 1)):=by show _ = _; rw [HZ0.out]; exact HFIN.out
     have hb3:=hbel.trans (hbel2.mono hbel.size)
     go_wp2
     go_roundw
     case rel => exact ⟨k + 1,by omega,by go_num,by rw [← HF.out],hb3,v0,v1⟩
     case measure => simp [intOf]; omega
  ·have hkn : k = n:=by omega
   subst hkn
   go_wp2
   go_ret
   exact ⟨rfl,hbel⟩
end Go.Proofs.YtblahkhniabhiaaGreatDoor
