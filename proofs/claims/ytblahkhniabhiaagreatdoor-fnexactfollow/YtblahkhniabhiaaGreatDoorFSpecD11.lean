/- The specification's putting of a node into its place. Condition: at most 3,000 nodes. -/
import Derived.Test.YtblahkhniabhiaaGreatDoorFA04
import Derived.Test.YtblahkhniabhiaaGreatDoorFSpecT1
namespace Go.Proofs.YtblahkhniabhiaaGreatDoor
open Go.RowKit
set_option linter.unusedVariables false
set_option linter.unusedSimpArgs false
set_option maxRecDepth 100000

def plN (l : List Nd) (h : Hd) : Nat:=l.findIdx (fun n => !lessH n.h h)
theorem plN_at (l : List Nd) (h : Hd) (k : Nat) (hk : k ≤ l.length) (h1 : ∀ i,i < k → lessH (l[i]?.getD nd0).h h = true) (h2 : k < l.length → lessH (l[k]?.getD nd0).h h = false) : plN l h = k:=by
 unfold plN
 by_cases hlt : k < l.length
 ·rw [List.findIdx_eq hlt]
  refine ⟨by simpa [hlt] using h2 hlt,fun j hj => ?_⟩
  have:=h1 j hj
  have hj' : j < l.length:=by omega
  simpa [hj'] using this
 ·have he : k = l.length:=by omega
  rw [List.findIdx_eq_length.2,he]
  intro x hx
  obtain ⟨i,hi,rfl⟩:=List.getElem_of_mem hx
  have:=h1 i (by omega)
  simpa [hi] using this
def insN (l : List Nd) (n : Nd) : List Nd:=l.take (plN l n.h) ++ [n] ++ l.drop (plN l n.h)
set_option maxHeartbeats 4000000 in
theorem specInsert_any (tb : Nat) (v x : Value) (l : List Nd) (n : Nd) (lo : Nat) (L : Nat → Prop) (w : World) (vT : VarA w tb 26 #[v]) (s : SG w lo L v l) (hLt : ¬ L tb) (rx : RdV w (fun b => L b ∧ b < w.heap.size) x (ensO n.es)) (hlo : lo ≤ w.heap.size) (hl : l.length ≤ 3000) (h0 : 0 < l.length) :
  Calls Tryz.prog 61 #[.pointer (some ⟨tb,0,none⟩),ndV n x] w fun e w' => e = .returned (.tuple #[]) ∧ ∃ v',VarA w' tb 26 #[v'] ∧ SG w' lo L v' (insN l n) ∧ v'.ownBlock ≠ some tb ∧ Turned (fun b => b = tb) w w':=by
 obtain ⟨g,cap,rfl,hg1,hg2,hgf,hcap⟩:=s.head h0
 obtain ⟨VV,hV0,_,hV2⟩:=SG.lies s
 obtain ⟨xa,xc,rfl,_⟩:=RdV.sliced (RdV.en rx)
 obtain ⟨⟨p,q,d⟩,⟨p2,q2,d2⟩,lk,vl,es⟩:=n
 have htb:=vT.lt
 have HT : Hid (∀ W,Below w.heap.size w W → W.cell? ⟨tb,0,none⟩ = some (.slice (some ⟨g,0,none⟩) l.length cap)):=fun W hW => (VarA.step vT hW).l1
 have HTF : Hid (∀ W,Below w.heap.size w W → W.frozen? ⟨tb,0,none⟩ = false):=fun W hW => (VarA.step vT hW).f 0
 have HTV : Hid (∀ W,Below w.heap.size w W → VarA W tb 26 #[.slice (some ⟨g,0,none⟩) l.length cap]):=fun W hW => VarA.step vT hW
 have HSG : Hid (∀ W,Below w.heap.size w W → SG W lo L (.slice (some ⟨g,0,none⟩) l.length cap) l):=fun W hW => s.step hW
 have HV0 : Hid (∀ W,Below w.heap.size w W → ∀ i,i < l.length → RdV W (fun b => L b ∧ b < w.heap.size) (VV i) (ensO (l[i]?.getD nd0).es)):=fun W hW i hi => RdV.mono (fun b hb => ⟨hb.1,hb.2.1⟩) (RdV.step (hV0 i hi) hW)
 have HV2 : Hid (∀ W,Below w.heap.size w W → ∀ k,k ≤ l.length → LiesN W (some ⟨g,0,none⟩) cap (l.take k) VV ∧ LiesN W (if cap = k then some ⟨g,0,none⟩ else (some (Addr.mk g 0 none)).map (·.add (k * 9))) (cap - k) (l.drop k) (fun i => VV (k + i))):=fun W hW k hk => ⟨(hV2 k hk).1.step hW,(hV2 k hk).2.step hW⟩
 have HRX : Hid (∀ W,Below w.heap.size w W → RdV W (fun b => L b ∧ b < w.heap.size) (.slice xa es.length xc) (ensO es)):=fun W hW => RdV.step rx hW
 have HLE : Hid (∀ a W,_):=fun a W => specLess_any a (p,q,d) W
 clear vT s rx hV0 hV2
 go_enter Tryz.func61,Tryz.ntmps61
 go_wp2
 go_loopw [4] (fun i wr => ∃ k : Nat,k ≤ l.length ∧ i = .i k ∧ Below w.heap.size w wr ∧ VarA wr w.heap.size 77 #[.i p,.i q,.bool d,.i p2,.i q2,.bool d2,.i lk,.i vl,.slice xa es.length xc] ∧ Hid (∀ i,i < k → lessH (l[i]?.getD nd0).h (p,q,d) = true)) (fun i _ => l.length - (intOf i).toNat)
 case atStart => exact ⟨0,Nat.zero_le _,rfl,Below.newH _,VarA.new w _ _,fun i hi => absurd hi (Nat.not_lt_zero _)⟩
 case round =>
  obtain ⟨k,hk,rfl,bw,vN,HA⟩:=hrel
  have c0:=HT.out _ bw
  have htw : tb < wr.heap.size:=Nat.lt_of_lt_of_le htb bw.size
  haveI : Nonempty (Cls wr):=Cls.ne wr
  have kc0:=Cls.cell htw c0
  by_cases hlt : k < l.length
  ·have hlt9 : (k : Int) < (l.length : Int):=by omega
   obtain ⟨xx,_,hx⟩:=SG.at (HSG.out _ bw) hlt
   have q0:=hx 0 (by omega)
   have q1:=hx 1 (by omega)
   have q2:=hx 2 (by omega)
   obtain ⟨nd,hnd⟩ : ∃ e,l[k]?.getD nd0 = e:=⟨_,rfl⟩
   rw [hnd] at q0 q1 q2
   have HND : Hid _:=hnd
   clear hx hnd
   obtain ⟨⟨p3,q3,d3⟩,pp,ll,vv,ee⟩:=nd
   have hgw : g < wr.heap.size:=Nat.lt_of_lt_of_le hg2 bw.size
   have k0 : ∀ i : Cls wr,i.W.cell? ⟨g,k * 9,none⟩ = some (.i p3):=Cls.cell hgw (by simpa [ndVal] using q0)
   have k1 : ∀ i : Cls wr,i.W.cell? ⟨g,k * 9 + 1,none⟩ = some (.i q3):=Cls.cell hgw q1
   have k2 : ∀ i : Cls wr,i.W.cell? ⟨g,k * 9 + 2,none⟩ = some (.bool d3):=Cls.cell hgw q2
   have hnl:=vN.lt
   have m0 : ∀ i : Cls wr,i.W.cell? ⟨w.heap.size,0,none⟩ = some (.i p):=Cls.cell hnl (vN.c 0 rfl)
   have m1 : ∀ i : Cls wr,i.W.cell? ⟨w.heap.size,1,none⟩ = some (.i q):=Cls.cell hnl (vN.c 1 rfl)
   have m2 : ∀ i : Cls wr,i.W.cell? ⟨w.heap.size,2,none⟩ = some (.bool d):=Cls.cell hnl (vN.c 2 rfl)
   have HL2 : Hid (∀ W,_):=fun W => HLE.out (p3,q3,d3) W
   clear q0 q1 q2
   obtain ⟨lb,hlb⟩ : ∃ b,lessH (p3,q3,d3) (p,q,d) = b:=⟨_,rfl⟩
   rw [hlb] at HL2
   have HLB : Hid _:=hlb
   clear hlb
   cases lb with
   | true =>
    have HF : Hid (∀ i,i < k + 1 → lessH (l[i]?.getD nd0).h (p,q,d) = true):=fun i hi => by
     by_cases h1 : i < k
     ·exact HA.out i h1
     ·obtain rfl : i = k:=by omega
      rw [HND.out]; exact HLB.out
    go_wp2
    refine wp_region_cls (by kernel_rfl) (by kernel_rfl) ?_
    repeat (go_big_quiet_step (first | (go_at_call 50; exact Calls.cls (HL2.out _))))
    refine wpQuiet_nil ?_
    rintro w' ⟨⟨w',hb'⟩,rfl⟩
    have vN':=vN.step hb'
    have hb3:=bw.trans (hb'.mono bw.size)
    go_wp2
    go_roundw
    case rel => exact ⟨k + 1,by omega,by go_num,hb3,vN',HF.out⟩
    case measure => simp [intOf]; omega
   | false =>
    have HP : Hid (plN l (p,q,d) = k):=plN_at l (p,q,d) k hk HA.out (fun _ => by rw [HND.out]; exact HLB.out)
    go_wp2
    refine wp_region_cls (by kernel_rfl) (by kernel_rfl) ?_
    repeat (go_big_quiet_step (first | (go_at_call 50; exact Calls.cls (HL2.out _))))
    refine wpQuiet_nil ?_
    rintro w' ⟨⟨w',hb'⟩,rfl⟩
    have B1 : Below w.heap.size w w':=bw.trans (hb'.mono bw.size)
    have HV1 : Hid (VarA w' w.heap.size 77 #[.i p,.i q,.bool d,.i p2,.i q2,.bool d2,.i lk,.i vl,.slice xa es.length xc]):=vN.step hb'
    have s1:=B1.size
    have hvl:=HV1.out.lt
    have c11:=HT.out _ B1
    have htl : (l.take k).length = k:=by rw [List.length_take]; omega
    have hdl : (l.drop k).length = l.length - k:=List.length_drop
    have hl6 : (l.take k ++ [(⟨(p,q,d),(p2,q2,d2),lk,vl,es⟩ : Nd)]).length = k + 1:=by rw [List.length_append,htl]; rfl
    have H2 : Hid _:=(HV2.out _ B1 k hk).1
    have H1 : Hid (∀ i,i < (l.take k).length → RdV w' (EntL w' L (.n0)) (VV i) (ensO ((l.take k)[i]?.getD nd0).es)):=fun i hi => by
     rw [getD_take _ _ _ _ hi]
     exact RdV.mono (fun b hb => ⟨hb.1,by have:=hb.2; omega,fun e => by cases e⟩) (HV0.out _ B1 i (by rw [List.length_take] at hi; omega))
    have HB1 : Hid (Below w.heap.size w w'):=B1
    have hkc : k ≤ cap:=Nat.le_trans hk hcap
    clear B1 vN bw hb'
    go_wp2_with (first | ((with_reducible refine guardSlice ?_); refine wpList_sl _ (sliceHN _ _ _ k hkc _) ?_) | ((with_reducible refine guardSlice ?_); refine wpList_sl _ (sliceLN _ _ _ k hk _) ?_) | (at_builtin; refine wpList_appN _ rfl (.tmp 28) (.tmp 34) rfl (.n0) rfl [] (l.take k) w.heap.size _ _ (by rw [htl]; rfl) VV H2.out H1.out (SG.nil _ _ _) s1 (by rw [htl]; simp; omega) ?_; intro v5 w5 se5 hg5 hgg5; rw [List.nil_append] at se5; obtain ⟨a5,c5,rfl⟩:=se5.shapeN htl; have HB5 : Hid (Below w.heap.size w w5):=Below.grown HB1.out hg5 s1 (fun q hq => by cases hq); have s5:=HB5.out.size; have HV5 : Hid (VarA w5 w.heap.size 77 #[.i p,.i q,.bool d,.i p2,.i q2,.bool d2,.i lk,.i vl,.slice xa es.length xc]):=(hg5.block _ hvl (fun e => by cases e)).trans HV1.out; have hvl5:=HV5.out.lt; have HSG5 : Hid (SG w5 w.heap.size L _ _):=se5; obtain ⟨n0,n1,n2,n3,n4,n5,n6,n7,n8⟩:=HV5.out.l9; clear se5 hg5 hgg5 c11 H1 H2 HB1 HV1) | (at_builtin; refine wpList_appN (w5.alloc (.cells #[.i p,.i q,.bool d,.i p2,.i q2,.bool d2,.i lk,.i vl,.slice xa es.length xc] 77)) rfl (.tmp 36) (.tmp 38) rfl (.slice a5 k c5) rfl (l.take k) [⟨(p,q,d),(p2,q2,d2),lk,vl,es⟩] w.heap.size 1 (some ⟨w5.heap.size,0,none⟩) (by rfl) (fun _ => .slice xa es.length xc) (.inr ⟨_,rfl,fun t u ht => World.news_of_block (heap_alloc_new _ _) t u (by rw [ndRow_one] at ht; exact ht)⟩) (fun i hi => by obtain rfl : i = 0:=(by simpa using hi); exact RdV.mono (fun b hb => ⟨hb.1,by have:=hb.2; simp; omega,fun e => by have:=HSG5.out.lt b e; have:=hb.2; omega⟩) (HRX.out _ (HB5.out.alloc s5 _))) (SG.step HSG5.out (Below.newH _)) (by simp; omega) (by rw [htl]; simp; omega) ?_; intro v6 w6 se6 hg6 hgg6; obtain ⟨a6,c6,rfl⟩:=se6.shapeN hl6; have HB6 : Hid (Below w.heap.size w w6):=Below.grown (HB5.out.alloc s5 _) hg6 (by simp; omega) (fun q hq => (HSG5.out.lt q hq).1); have s6:=HB6.out.size; have HSG6 : Hid (SG w6 w.heap.size L _ _):=se6; have c16:=HT.out _ HB6.out; clear se6 hg6 hgg6 n0 n1 n2 n3 n4 n5 n6 n7 n8) | (at_builtin; refine wpList_appN _ rfl (.tmp 41) (.tmp 47) rfl (.slice a6 (k + 1) c6) rfl _ (l.drop k) w.heap.size _ _ (by rw [hdl]; rfl) (fun i => VV (k + i)) (HV2.out _ HB6.out k hk).2 (fun i hi => by rw [getD_drop]; exact RdV.mono (fun b hb => ⟨hb.1,by have:=hb.2; omega,fun e => by have:=HSG6.out.lt b e; have:=hb.2; omega⟩) (HV0.out _ HB6.out (k + i) (by omega))) HSG6.out s6 (by rw [hl6,hdl]; omega) ?_; intro v7 w7 se7 hg7 hgg7; obtain ⟨n7,hn7⟩ : ∃ n,(l.take k ++ [(⟨(p,q,d),(p2,q2,d2),lk,vl,es⟩ : Nd)] ++ l.drop k).length = n:=⟨_,rfl⟩; obtain ⟨a7,c7,rfl⟩:=se7.shapeN hn7; clear hn7; have HB7 : Hid (Below w.heap.size w w7):=Below.grown HB6.out hg7 s6 (fun q hq => (HSG6.out.lt q hq).1); have HSG7 : Hid (SG w7 w.heap.size L _ _):=se7; have c17:=HT.out _ HB7.out; have f17:=HTF.out _ HB7.out; clear se7 hg7 hgg7))
    all_goals (go_end0; refine ⟨rfl,_,VarA.set (HTV.out _ HB7.out) 0 _,?_,fun e => ?_,?_⟩)
    all_goals first | (have:=(HSG7.out.lt _ e).1; omega) | (exact Turned.set (Turned.ofBelow HB7.out) ⟨tb,0,none⟩ _ rfl) | (unfold insN; rw [HP.out]; exact (SG.keep HSG7.out ⟨by simp,fun b hb _ => heap_setCell_other _ _ _ _ (fun e => by have e2 : b = tb:=e; subst e2; exact hb.2.elim hLt (fun h => by have:=(HSG7.out.lt _ h).1; omega))⟩).low hlo)
  ·have HP : Hid (plN l (p,q,d) = k):=plN_at l (p,q,d) k hk HA.out (fun h => absurd h hlt)
   have hlt9 : ¬ (k : Int) < (l.length : Int):=by omega
   go_wp2
   refine wp_region_cls (by kernel_rfl) (by kernel_rfl) ?_
   repeat (go_big_quiet_step (fail))
   refine wpQuiet_nil ?_
   rintro w' ⟨⟨w',hb'⟩,rfl⟩
   have B1 : Below w.heap.size w w':=bw.trans (hb'.mono bw.size)
   have HV1 : Hid (VarA w' w.heap.size 77 #[.i p,.i q,.bool d,.i p2,.i q2,.bool d2,.i lk,.i vl,.slice xa es.length xc]):=vN.step hb'
   have s1:=B1.size
   have hvl:=HV1.out.lt
   have c11:=HT.out _ B1
   have htl : (l.take k).length = k:=by rw [List.length_take]; omega
   have hdl : (l.drop k).length = l.length - k:=List.length_drop
   have hl6 : (l.take k ++ [(⟨(p,q,d),(p2,q2,d2),lk,vl,es⟩ : Nd)]).length = k + 1:=by rw [List.length_append,htl]; rfl
   have H2 : Hid _:=(HV2.out _ B1 k hk).1
   have H1 : Hid (∀ i,i < (l.take k).length → RdV w' (EntL w' L (.n0)) (VV i) (ensO ((l.take k)[i]?.getD nd0).es)):=fun i hi => by
    rw [getD_take _ _ _ _ hi]
    exact RdV.mono (fun b hb => ⟨hb.1,by have:=hb.2; omega,fun e => by cases e⟩) (HV0.out _ B1 i (by rw [List.length_take] at hi; omega))
   have HB1 : Hid (Below w.heap.size w w'):=B1
   have hkc : k ≤ cap:=Nat.le_trans hk hcap
   clear B1 vN bw hb'
   go_wp2_with (first | ((with_reducible refine guardSlice ?_); refine wpList_sl _ (sliceHN _ _ _ k hkc _) ?_) | ((with_reducible refine guardSlice ?_); refine wpList_sl _ (sliceLN _ _ _ k hk _) ?_) | (at_builtin; refine wpList_appN _ rfl (.tmp 28) (.tmp 34) rfl (.n0) rfl [] (l.take k) w.heap.size _ _ (by rw [htl]; rfl) VV H2.out H1.out (SG.nil _ _ _) s1 (by rw [htl]; simp; omega) ?_; intro v5 w5 se5 hg5 hgg5; rw [List.nil_append] at se5; obtain ⟨a5,c5,rfl⟩:=se5.shapeN htl; have HB5 : Hid (Below w.heap.size w w5):=Below.grown HB1.out hg5 s1 (fun q hq => by cases hq); have s5:=HB5.out.size; have HV5 : Hid (VarA w5 w.heap.size 77 #[.i p,.i q,.bool d,.i p2,.i q2,.bool d2,.i lk,.i vl,.slice xa es.length xc]):=(hg5.block _ hvl (fun e => by cases e)).trans HV1.out; have hvl5:=HV5.out.lt; have HSG5 : Hid (SG w5 w.heap.size L _ _):=se5; obtain ⟨n0,n1,n2,n3,n4,n5,n6,n7,n8⟩:=HV5.out.l9; clear se5 hg5 hgg5 c11 H1 H2 HB1 HV1) | (at_builtin; refine wpList_appN (w5.alloc (.cells #[.i p,.i q,.bool d,.i p2,.i q2,.bool d2,.i lk,.i vl,.slice xa es.length xc] 77)) rfl (.tmp 36) (.tmp 38) rfl (.slice a5 k c5) rfl (l.take k) [⟨(p,q,d),(p2,q2,d2),lk,vl,es⟩] w.heap.size 1 (some ⟨w5.heap.size,0,none⟩) (by rfl) (fun _ => .slice xa es.length xc) (.inr ⟨_,rfl,fun t u ht => World.news_of_block (heap_alloc_new _ _) t u (by rw [ndRow_one] at ht; exact ht)⟩) (fun i hi => by obtain rfl : i = 0:=(by simpa using hi); exact RdV.mono (fun b hb => ⟨hb.1,by have:=hb.2; simp; omega,fun e => by have:=HSG5.out.lt b e; have:=hb.2; omega⟩) (HRX.out _ (HB5.out.alloc s5 _))) (SG.step HSG5.out (Below.newH _)) (by simp; omega) (by rw [htl]; simp; omega) ?_; intro v6 w6 se6 hg6 hgg6; obtain ⟨a6,c6,rfl⟩:=se6.shapeN hl6; have HB6 : Hid (Below w.heap.size w w6):=Below.grown (HB5.out.alloc s5 _) hg6 (by simp; omega) (fun q hq => (HSG5.out.lt q hq).1); have s6:=HB6.out.size; have HSG6 : Hid (SG w6 w.heap.size L _ _):=se6; have c16:=HT.out _ HB6.out; clear se6 hg6 hgg6 n0 n1 n2 n3 n4 n5 n6 n7 n8) | (at_builtin; refine wpList_appN _ rfl (.tmp 41) (.tmp 47) rfl (.slice a6 (k + 1) c6) rfl _ (l.drop k) w.heap.size _ _ (by rw [hdl]; rfl) (fun i => VV (k + i)) (HV2.out _ HB6.out k hk).2 (fun i hi => by rw [getD_drop]; exact RdV.mono (fun b hb => ⟨hb.1,by have:=hb.2; omega,fun e => by have:=HSG6.out.lt b e; have:=hb.2; omega⟩) (HV0.out _ HB6.out (k + i) (by omega))) HSG6.out s6 (by rw [hl6,hdl]; omega) ?_; intro v7 w7 se7 hg7 hgg7; obtain ⟨n7,hn7⟩ : ∃ n,(l.take k ++ [(⟨(p,q,d),(p2,q2,d2),lk,vl,es⟩ : Nd)] ++ l.drop k).length = n:=⟨_,rfl⟩; obtain ⟨a7,c7,rfl⟩:=se7.shapeN hn7; clear hn7; have HB7 : Hid (Below w.heap.size w w7):=Below.grown HB6.out hg7 s6 (fun q hq => (HSG6.out.lt q hq).1); have HSG7 : Hid (SG w7 w.heap.size L _ _):=se7; have c17:=HT.out _ HB7.out; have f17:=HTF.out _ HB7.out; clear se7 hg7 hgg7))
   all_goals (go_end0; refine ⟨rfl,_,VarA.set (HTV.out _ HB7.out) 0 _,?_,fun e => ?_,?_⟩)
   all_goals first | (have:=(HSG7.out.lt _ e).1; omega) | (exact Turned.set (Turned.ofBelow HB7.out) ⟨tb,0,none⟩ _ rfl) | (unfold insN; rw [HP.out]; exact (SG.keep HSG7.out ⟨by simp,fun b hb _ => heap_setCell_other _ _ _ _ (fun e => by have e2 : b = tb:=e; subst e2; exact hb.2.elim hLt (fun h => by have:=(HSG7.out.lt _ h).1; omega))⟩).low hlo)
end Go.Proofs.YtblahkhniabhiaaGreatDoor
