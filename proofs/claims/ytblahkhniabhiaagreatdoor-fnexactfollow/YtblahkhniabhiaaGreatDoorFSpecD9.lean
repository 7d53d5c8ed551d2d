/- The specification's putting of an entry into its place. Condition: at most 4,000 entries, 2^21 bytes of the name. -/
import Derived.Test.YtblahkhniabhiaaGreatDoorFA01
import Derived.Test.YtblahkhniabhiaaGreatDoorFA03
import Derived.Test.YtblahkhniabhiaaGreatDoorFSpecT4a
namespace Go.Proofs.YtblahkhniabhiaaGreatDoor
open Go.RowKit
set_option linter.unusedVariables false
set_option linter.unusedSimpArgs false
set_option maxRecDepth 100000

theorem guardSlice {ops : Array Oper} {rest : List Oper} {t t' : TypeId} {dst : Option Tmp} {x : Operand} {lo hi : Option Operand} {pos : String} {af : Array Edge} {a : Act} {Q : Exit → Act → World → Prop} {w : World}
  (h : wpList Tryz.prog ops Q (⟨dst,.slice t x lo hi none,t',pos,af,none⟩ :: rest) a w) : wpList Tryz.prog ops Q (⟨dst,.slice t x lo hi none,t',pos,af,none⟩ :: rest) a w:=h
theorem enRow_one (e : En) (V : Nat → Value) : enRow [e] V = [V 0,.i e.h.sh,.i e.h.ino,.bool e.h.dir]:=by simp [enRow,List.range,List.range.loop,enVal]
def pl (es : List En) (nm : List Int) : Nat:=es.findIdx (fun e => geS e.nm nm)
theorem pl_at (es : List En) (nm : List Int) (k : Nat) (hk : k ≤ es.length) (h1 : ∀ i,i < k → geS (es[i]?.getD en0).nm nm = false) (h2 : k < es.length → geS (es[k]?.getD en0).nm nm = true) : pl es nm = k:=by
 unfold pl
 by_cases hlt : k < es.length
 ·rw [List.findIdx_eq hlt]
  refine ⟨by simpa [hlt] using h2 hlt,fun j hj => ?_⟩
  have:=h1 j hj
  have hj' : j < es.length:=by omega
  simpa [hj'] using this
 ·have he : k = es.length:=by omega
  rw [List.findIdx_eq_length.2,he]
  intro x hx
  obtain ⟨i,hi,rfl⟩:=List.getElem_of_mem hx
  have:=h1 i (by omega)
  simpa [hi] using this
def addE (es : List En) (nm : List Int) (h : Hd) : List En:=es.take (pl es nm) ++ [⟨nm,h⟩] ++ es.drop (pl es nm)

set_option maxHeartbeats 4000000 in
theorem specAdd_any (g o : Nat) (xa : Option Addr) (xc : Nat) (y : Value) (es : List En) (nm : List Int) (h : Hd) (S S2 : Nat → Prop) (w : World) (c8 : w.cell? ⟨g,o + 8,none⟩ = some (.slice xa es.length xc)) (hfz : w.frozen? ⟨g,o + 8,none⟩ = false) (r : RdV w S (.slice xa es.length xc) (ensDt es)) (hS : ∀ b,S b → b < w.heap.size) (r2 : RdV w S2 y (.bytes nm)) (hn : es.length ≤ 4000) (hnm : nm.length ≤ 2097152) :
  Calls Tryz.prog 60 #[.pointer (some ⟨g,o,none⟩),y,h.v] w fun e w' => e = .returned (.tuple #[]) ∧ ∃ W x,w' = W.setCell ⟨g,o + 8,none⟩ x ∧ Below w.heap.size w W ∧ RdV W (fun b => (S b ∨ w.heap.size ≤ b) ∧ b < W.heap.size) x (ensO (addE es nm h)):=by
 obtain ⟨ya,yc,rfl⟩:=r2.sliceB
 obtain ⟨p,q,d⟩:=h
 have hgl : g < w.heap.size:=block_lt_of_cell (a:=⟨g,o + 8,none⟩) c8
 have hcap : es.length ≤ xc:=by obtain ⟨a',cap',V',hv',hh',_⟩:=RdV.inv r; simp only [Value.slice.injEq] at hv'; obtain ⟨-,-,rfl⟩:=hv'; exact hh'.1
 have HR : Hid (∀ W,Below w.heap.size w W → RdV W S (.slice xa es.length xc) (.rows 86 4 es.length (fun i j => enCell (es[i]?.getD en0) j))):=RdV.old r
 have HY : Hid (∀ W,Below w.heap.size w W → RdV W S2 (.slice ya nm.length yc) (.bytes nm)):=fun W hW => r2.step hW
 have HZ : Hid (isBytes nm):=r2.b.1
 have HRB : Hid (∀ W,Below w.heap.size w W → Reads W ya nm ∧ Headed ya nm.length yc):=fun W hW => by
  obtain ⟨a',cap',he,hh,hr⟩:=(r2.step hW).b.reads
  simp only [Value.slice.injEq,true_and] at he
  obtain ⟨rfl,rfl⟩:=he
  exact ⟨hr,hh⟩
 have HC8 : Hid (∀ W,Below w.heap.size w W → W.cell? ⟨g,o + 8,none⟩ = some (.slice xa es.length xc)):=fun W hW => (hW.cell (p:=⟨g,o + 8,none⟩) hgl).trans c8
 have HFZ : Hid (∀ W,Below w.heap.size w W → W.frozen? ⟨g,o + 8,none⟩ = false):=fun W hW => (hW.frozen (p:=⟨g,o + 8,none⟩) hgl).trans hfz
 have HS : Hid (∀ b,S b → b < w.heap.size):=hS
 clear r r2 c8 hfz hS
 go_enter Tryz.func60,Tryz.ntmps60
 go_wp2
 go_loopw [6] (fun i wr => ∃ k : Nat,k ≤ es.length ∧ i = .i k ∧ Below w.heap.size w wr ∧ VarA wr w.heap.size 48 #[.i p,.i q,.bool d] ∧ Hid (∀ i,i < k → geS (es[i]?.getD en0).nm nm = false)) (fun i _ => es.length - (intOf i).toNat)
 case atStart => exact ⟨0,Nat.zero_le _,rfl,Below.newH _,VarA.new w _ _,fun i hi => absurd hi (Nat.not_lt_zero _)⟩
 case round =>
  obtain ⟨k,hk,rfl,bw,vH,HA⟩:=hrel
  have c8:=HC8.out _ bw
  have hgw : g < wr.heap.size:=Nat.lt_of_lt_of_le hgl bw.size
  haveI : Nonempty (Cls wr):=Cls.ne wr
  have kc8:=Cls.cell hgw c8
  by_cases hlt : k < es.length
  ·have hlt9 : (k : Int) < (es.length : Int):=by omega
   obtain ⟨b,off,rfl,hbl,_,hx⟩:=RdV.at (HR.out wr bw) hlt
   obtain ⟨x0,c1,r0⟩:=hx 0 (by omega)
   simp only [Nat.add_zero] at c1
   have kc1:=Cls.cell hbl c1
   obtain ⟨e,he⟩ : ∃ e,es[k]?.getD en0 = e:=⟨_,rfl⟩
   rw [he] at r0
   have HE : Hid _:=he
   clear hx he
   obtain ⟨nm1,hh⟩:=e
   have RB : RdV wr S x0 (.bytes nm1):=r0
   have hcv : ∀ i : Cls wr,(convert 39 9 x0).run Tryz.prog i.W = .ok (.string (strOfNums nm1)) i.W:=fun i => conv_d _ nm1 S _ (RdV.step RB i.h)
   have hcy : ∀ i : Cls wr,(convert 39 9 (.slice ya nm.length yc)).run Tryz.prog i.W = .ok (.string (strOfNums nm)) i.W:=fun i => conv_d _ nm S2 _ (HY.out _ (bw.trans (i.h.mono bw.size)))
   obtain ⟨xa,xc',rfl⟩:=RdV.sliceB RB
   have hgs : geS nm1 nm = !Op.bytesLess (strOfNums nm1).toList (strOfNums nm).toList:=rfl
   generalize nm1.length = xn at *
   generalize strOfNums nm1 = s1 at *
   generalize strOfNums nm = s2 at *
   clear r0 RB
   by_cases hge : Op.bytesLess s1.toList s2.toList = true
   ·have HF : Hid (∀ i,i < k + 1 → geS (es[i]?.getD en0).nm nm = false):=fun i hi => by
     by_cases h1 : i < k
     ·exact HA.out i h1
     ·obtain rfl : i = k:=by omega
      rw [HE.out]; rw [hgs,hge]; rfl
    go_wp2
    refine wp_region_cls (by kernel_rfl) (by kernel_rfl) ?_
    repeat (go_big_quiet_step (fail))
    refine wpQuiet_nil ?_
    rintro w' ⟨⟨w',hb'⟩,rfl⟩
    have vH':=vH.step hb'
    have hb3:=bw.trans (hb'.mono bw.size)
    go_wp2
    go_roundw
    case rel => exact ⟨k + 1,by omega,by go_num,hb3,vH',HF.out⟩
    case measure => simp [intOf]; omega
   ·have hg2 : Op.bytesLess s1.toList s2.toList = false:=by simpa using hge
    have HP : Hid (pl es nm = k):=pl_at es nm k hk HA.out (fun _ => by rw [HE.out]; rw [hgs,hg2]; rfl)
    go_wp2
    refine wp_region_cls (by kernel_rfl) (by kernel_rfl) ?_
    repeat (go_big_quiet_step (fail))
    refine wpQuiet_nil ?_
    rintro w' ⟨⟨w',hb'⟩,rfl⟩
    have B1 : Below w.heap.size w w':=bw.trans (hb'.mono bw.size)
    have V1 : VarA w' w.heap.size 48 #[.i p,.i q,.bool d]:=vH.step hb'
    have s1:=B1.size
    have hvl:=V1.lt
    have c81:=HC8.out _ B1
    obtain ⟨VV,hV1,hV2⟩:=RdV.lies (HR.out _ B1)
    have hL:=(hV2 k hk).1
    have hkc : k ≤ xc:=Nat.le_trans hk hcap
    have htl : (es.take k).length = k:=by rw [List.length_take]; omega
    have hr1 : ∀ i,i < (es.take k).length → RdV w' (Nm w' (fun b => S b ∨ w.heap.size ≤ b) (.n0)) (VV i) (.bytes ((es.take k)[i]?.getD en0).nm):=fun i hi => by
     rw [getD_take _ _ _ _ hi]
     exact RdV.mono (fun b hb => ⟨.inl hb,Nat.lt_of_lt_of_le (HS.out b hb) s1,fun e => by cases e⟩) (hV1 i (by rw [List.length_take] at hi; omega))
    have H1 : Hid _:=hr1
    have H2 : Hid _:=hL
    have HB1 : Hid (Below w.heap.size w w'):=B1
    have HV1 : Hid (VarA w' w.heap.size 48 #[.i p,.i q,.bool d]):=V1
    clear hr1 hL hV1 hV2 B1 V1 vH bw hb'
    go_wp2_with (first | ((with_reducible refine guardSlice ?_); refine wpList_sl _ (sliceHE _ _ _ k hkc _) ?_) | (at_builtin; go_must (refine wpList_appE _ rfl (.tmp 31) (.tmp 37) rfl (.n0) rfl [] (es.take k) (w.heap.size + 1) _ _ (fun b => S b ∨ w.heap.size ≤ b) (by rw [htl]; rfl) VV H2.out H1.out (SE.nil _ _ _) (by omega) (by rw [htl]; simp; omega) ?_; intro v5 w5 se5 hg5 hgg5)))
    rw [List.nil_append] at se5
    obtain ⟨a5,c5,rfl⟩:=se5.shapeN htl
    have B5 : Below w.heap.size w w5:=Below.grown HB1.out hg5 s1 (fun q hq => by cases hq)
    have V5 : VarA w5 w.heap.size 48 #[.i p,.i q,.bool d]:=(hg5.block _ hvl (fun e => by cases e)).trans HV1.out
    have s5:=B5.size
    have hvl5:=V5.lt
    have hb5:=se5.lt
    have HSE5 : Hid _:=se5
    have HB5 : Hid (Below w.heap.size w w5):=B5
    have HV5 : Hid (VarA w5 w.heap.size 48 #[.i p,.i q,.bool d]):=V5
    clear H1 H2 HB1 HV1 c81 hgg5 hg5 se5 B5 V5
    go_wp2
    refine wp_region_noPanic ?_
    refine wp_region_held_drew (S:=fun W => W.cell? ⟨w.heap.size,0,none⟩ = some (.i p) ∧ W.cell? ⟨w.heap.size,1,none⟩ = some (.i q) ∧ W.cell? ⟨w.heap.size,2,none⟩ = some (.bool d)) (by kernel_rfl) (HV5.out.dr.l3) (fun hHeld => ?_)
    apply tkh 0 _ rfl (by kernel_rfl) rfl (by assumption)
    ·(intro _ h; (try dsimp only at h); go_simp; try with_reducible rfl)
    try simp only [qz]
    apply tkh 2 _ rfl (by kernel_rfl) rfl (by assumption)
    ·(intro _ h; (try dsimp only at h); go_simp; try with_reducible rfl)
    try simp only [qz]
    apply tkh 4 _ rfl (by kernel_rfl) rfl (by assumption)
    ·(intro _ h; (try dsimp only at h); go_simp; try with_reducible rfl)
    try simp only [qz]
    refine doH 1 (by kernel_rfl) rfl fun K hK => ?_
    go_simp
    have b6 : Below w5.heap.size w5 (w5.drew.alloc (.cells #[] 5)):=Below.alloc (Below.drew (Below.refl w5.heap.size w5)) (Nat.le_refl _) _
    refine hK.out _ _ (HV5.out.step b6).l3 (fun hHeld => ?_)
    clear hK K
    try simp only [qz]
    refine doH 3 (by kernel_rfl) rfl fun K hK => ?_
    have hry:=HRB.out _ (HB5.out.trans (b6.mono s5))
    refine step_appS rfl (.tmp 40) (.tmp 41) (by rfl) w5.heap.size _ [] nm (by rfl) (owns_empty w5.drew) ya nm.length yc (by rfl) rfl hry.1 (by simp) (by omega) (by simp) (fun h => hry.2.2.2 h) ?_
    intro v6 w6 ho6 hg6
    rw [List.nil_append] at ho6
    obtain ⟨ua,uc,rfl,_⟩:=ho6.shape
    have b7 : Below w5.heap.size w5 w6:=Below.grown b6 hg6 (by simp) (fun q hq => ((owns_empty w5.drew).lt q hq).1)
    have s7:=b7.size
    refine hK.out _ _ (HV5.out.step b7).l3 (fun hHeld => ?_)
    clear hK K
    try simp only [qz]
    apply tkh 5 _ rfl (by kernel_rfl) rfl (by assumption)
    ·(intro _ h; (try dsimp only at h); go_simp; try with_reducible rfl)
    try simp only [qz]
    refine doH 6 (by kernel_rfl) rfl fun K hK => ?_
    go_simp
    have b8 : Below w5.heap.size w5 (w6.alloc (.cells #[.slice ua nm.length uc,.i p,.i q,.bool d] 86)):=Below.alloc b7 s7 _
    refine hK.out _ _ (HV5.out.step b8).l3 (fun hHeld => ?_)
    clear hK K
    try simp only [qz]
    refine doH 7 (by kernel_rfl) rfl fun K hK => ?_
    refine step_appE (w6.alloc (.cells #[.slice ua nm.length uc,.i p,.i q,.bool d] 86)) rfl (.tmp 39) (.tmp 45) (by rfl) _ (by rfl) (es.take k) [⟨nm,(p,q,d)⟩] (w.heap.size + 1) 1 (some ⟨w6.heap.size,0,none⟩) (fun b => S b ∨ w.heap.size ≤ b) (by rfl) (fun _ => .slice ua nm.length uc) (.inr ⟨_,rfl,fun t u ht => World.news_of_block (heap_alloc_new _ _) t u (by rw [enRow_one] at ht; exact ht)⟩) ?_ (SE.step HSE5.out b8) (by simp; omega) (by rw [htl]; simp; omega) ?_
    ·intro i hi
     obtain rfl : i = 0:=by simpa using hi
     refine RdV.mono (fun b hb => ⟨.inr (by omega),by simp; omega,fun e => by have:=hb5 b e; omega⟩) (RdV.step (OwV.rd (OwV.ofOwns HZ.out ho6)) (Below.newH _))
    intro v9 w9 se9 hg9 hgg9
    have V9 : VarA w9 w.heap.size 48 _:=(hg9.block _ (by simp; omega) (fun e => by have:=hb5 _ e.symm; omega)).trans (HV5.out.step b8)
    have B9 : Below w.heap.size w w9:=Below.grown (HB5.out.trans (b8.mono s5)) hg9 (by simp; omega) (fun q hq => by have:=hb5 q hq; omega)
    refine hK.out _ _ V9.l3 (fun hHeld => ?_)
    clear hK K
    try simp only [qz]
    apply tkh 8 _ rfl (by kernel_rfl) rfl (by assumption)
    ·(intro _ h; (try dsimp only at h); go_simp; try with_reducible rfl)
    try simp only [qz]
    refine wpAnyH_done (by kernel_rfl) (NoPanic.normal ?_) _
    clear hHeld
    have hlen9 : (es.take k ++ [(⟨nm,(p,q,d)⟩ : En)]).length = k + 1:=by rw [List.length_append,htl]; rfl
    obtain ⟨a9,c9,rfl⟩:=se9.shapeN hlen9
    have hb9:=se9.lt
    have s9:=B9.size
    have hvl9:=V9.lt
    obtain ⟨VV,hV1,hV2⟩:=RdV.lies (HR.out _ B9)
    have hL:=(hV2 k hk).2
    have hdl : (es.drop k).length = es.length - k:=List.length_drop
    have hr1 : ∀ i,i < (es.drop k).length → RdV w9 (Nm w9 (fun b => S b ∨ w.heap.size ≤ b) (.slice a9 (k + 1) c9)) (VV (k + i)) (.bytes ((es.drop k)[i]?.getD en0).nm):=fun i hi => by
     rw [getD_drop]
     exact RdV.mono (fun b hb => ⟨.inl hb,Nat.lt_of_lt_of_le (HS.out b hb) s9,fun e => by have:=hb9 b e; have:=HS.out b hb; omega⟩) (hV1 (k + i) (by omega))
    have H1 : Hid _:=hr1
    have H2 : Hid _:=hL
    have HB9 : Hid (Below w.heap.size w w9):=B9
    have HSE9 : Hid _:=se9
    have c89:=HC8.out _ B9
    clear hr1 hL hV1 hV2 B9 V9 se9 hg9 hgg9 b6 b7 b8 ho6 hg6 hry
    go_wp2_with (first | ((with_reducible refine guardSlice ?_); refine wpList_sl _ (sliceLE _ _ _ k hk _) ?_) | (at_builtin; go_must (refine wpList_appE _ rfl (.tmp 48) (.tmp 54) rfl _ rfl _ (es.drop k) (w.heap.size + 1) _ _ (fun b => S b ∨ w.heap.size ≤ b) (by rw [hdl]; rfl) (fun i => VV (k + i)) H2.out H1.out HSE9.out (by omega) (by rw [hlen9,hdl]; omega) ?_; intro v10 w10 se10 hg10 hgg10; obtain ⟨n10,hn10⟩ : ∃ n,(es.take k ++ [(⟨nm,(p,q,d)⟩ : En)] ++ es.drop k).length = n:=⟨_,rfl⟩; obtain ⟨a10,c10,rfl⟩:=se10.shapeN hn10; clear hn10; have B10 : Below w.heap.size w w10:=Below.grown HB9.out hg10 s9 (fun q hq => by have:=hb9 q hq; omega); have fz:=HFZ.out _ B10; have c810:=HC8.out _ B10)))
    all_goals (have HSE10 : Hid (SE w10 (w.heap.size + 1) _ _ _):=se10; have HB10 : Hid (Below w.heap.size w w10):=B10; clear H1 H2 HB9 HSE9 hgg10 hg10 se10 B10; go_end0; refine ⟨rfl,w10,_,rfl,HB10.out,?_⟩; unfold addE; rw [HP.out]; exact RdV.mono (fun b hb => ⟨hb.1.elim id (fun h => .inr (by omega)),hb.2⟩) (SE.rdO HSE10.out))
  ·have HP : Hid (pl es nm = k):=pl_at es nm k hk HA.out (fun h => absurd h hlt)
   have hlt9 : ¬ (k : Int) < (es.length : Int):=by omega
   go_wp2
   refine wp_region_cls (by kernel_rfl) (by kernel_rfl) ?_
   repeat (go_big_quiet_step (fail))
   refine wpQuiet_nil ?_
   rintro w' ⟨⟨w',hb'⟩,rfl⟩
   have B1 : Below w.heap.size w w':=bw.trans (hb'.mono bw.size)
   have V1 : VarA w' w.heap.size 48 #[.i p,.i q,.bool d]:=vH.step hb'
   have s1:=B1.size
   have hvl:=V1.lt
   have c81:=HC8.out _ B1
   obtain ⟨VV,hV1,hV2⟩:=RdV.lies (HR.out _ B1)
   have hL:=(hV2 k hk).1
   have hkc : k ≤ xc:=Nat.le_trans hk hcap
   have htl : (es.take k).length = k:=by rw [List.length_take]; omega
   have hr1 : ∀ i,i < (es.take k).length → RdV w' (Nm w' (fun b => S b ∨ w.heap.size ≤ b) (.n0)) (VV i) (.bytes ((es.take k)[i]?.getD en0).nm):=fun i hi => by
    rw [getD_take _ _ _ _ hi]
    exact RdV.mono (fun b hb => ⟨.inl hb,Nat.lt_of_lt_of_le (HS.out b hb) s1,fun e => by cases e⟩) (hV1 i (by rw [List.length_take] at hi; omega))
   have H1 : Hid _:=hr1
   have H2 : Hid _:=hL
   have HB1 : Hid (Below w.heap.size w w'):=B1
   have HV1 : Hid (VarA w' w.heap.size 48 #[.i p,.i q,.bool d]):=V1
   clear hr1 hL hV1 hV2 B1 V1 vH bw hb'
   go_wp2_with (first | ((with_reducible refine guardSlice ?_); refine wpList_sl _ (sliceHE _ _ _ k hkc _) ?_) | (at_builtin; go_must (refine wpList_appE _ rfl (.tmp 31) (.tmp 37) rfl (.n0) rfl [] (es.take k) (w.heap.size + 1) _ _ (fun b => S b ∨ w.heap.size ≤ b) (by rw [htl]; rfl) VV H2.out H1.out (SE.nil _ _ _) (by omega) (by rw [htl]; simp; omega) ?_; intro v5 w5 se5 hg5 hgg5)))
   rw [List.nil_append] at se5
   obtain ⟨a5,c5,rfl⟩:=se5.shapeN htl
   have B5 : Below w.heap.size w w5:=Below.grown HB1.out hg5 s1 (fun q hq => by cases hq)
   have V5 : VarA w5 w.heap.size 48 #[.i p,.i q,.bool d]:=(hg5.block _ hvl (fun e => by cases e)).trans HV1.out
   have s5:=B5.size
   have hvl5:=V5.lt
   have hb5:=se5.lt
   have HSE5 : Hid _:=se5
   have HB5 : Hid (Below w.heap.size w w5):=B5
   have HV5 : Hid (VarA w5 w.heap.size 48 #[.i p,.i q,.bool d]):=V5
   clear H1 H2 HB1 HV1 c81 hgg5 hg5 se5 B5 V5
   go_wp2
   refine wp_region_noPanic ?_
   refine wp_region_held_drew (S:=fun W => W.cell? ⟨w.heap.size,0,none⟩ = some (.i p) ∧ W.cell? ⟨w.heap.size,1,none⟩ = some (.i q) ∧ W.cell? ⟨w.heap.size,2,none⟩ = some (.bool d)) (by kernel_rfl) (HV5.out.dr.l3) (fun hHeld => ?_)
   apply tkh 0 _ rfl (by kernel_rfl) rfl (by assumption)
   ·(intro _ h; (try dsimp only at h); go_simp; try with_reducible rfl)
   try simp only [qz]
   apply tkh 2 _ rfl (by kernel_rfl) rfl (by assumption)
   ·(intro _ h; (try dsimp only at h); go_simp; try with_reducible rfl)
   try simp only [qz]
   apply tkh 4 _ rfl (by kernel_rfl) rfl (by assumption)
   ·(intro _ h; (try dsimp only at h); go_simp; try with_reducible rfl)
   try simp only [qz]
   refine doH 1 (by kernel_rfl) rfl fun K hK => ?_
   go_simp
   have b6 : Below w5.heap.size w5 (w5.drew.alloc (.cells #[] 5)):=Below.alloc (Below.drew (Below.refl w5.heap.size w5)) (Nat.le_refl _) _
   refine hK.out _ _ (HV5.out.step b6).l3 (fun hHeld => ?_)
   clear hK K
   try simp only [qz]
   refine doH 3 (by kernel_rfl) rfl fun K hK => ?_
   have hry:=HRB.out _ (HB5.out.trans (b6.mono s5))
   refine step_appS rfl (.tmp 40) (.tmp 41) (by rfl) w5.heap.size _ [] nm (by rfl) (owns_empty w5.drew) ya nm.length yc (by rfl) rfl hry.1 (by simp) (by omega) (by simp) (fun h => hry.2.2.2 h) ?_
   intro v6 w6 ho6 hg6
   rw [List.nil_append] at ho6
   obtain ⟨ua,uc,rfl,_⟩:=ho6.shape
   have b7 : Below w5.heap.size w5 w6:=Below.grown b6 hg6 (by simp) (fun q hq => ((owns_empty w5.drew).lt q hq).1)
   have s7:=b7.size
   refine hK.out _ _ (HV5.out.step b7).l3 (fun hHeld => ?_)
   clear hK K
   try simp only [qz]
   apply tkh 5 _ rfl (by kernel_rfl) rfl (by assumption)
   ·(intro _ h; (try dsimp only at h); go_simp; try with_reducible rfl)
   try simp only [qz]
   refine doH 6 (by kernel_rfl) rfl fun K hK => ?_
   go_simp
   have b8 : Below w5.heap.size w5 (w6.alloc (.cells #[.slice ua nm.length uc,.i p,.i q,.bool d] 86)):=Below.alloc b7 s7 _
   refine hK.out _ _ (HV5.out.step b8).l3 (fun hHeld => ?_)
   clear hK K
   try simp only [qz]
   refine doH 7 (by kernel_rfl) rfl fun K hK => ?_
   refine step_appE (w6.alloc (.cells #[.slice ua nm.length uc,.i p,.i q,.bool d] 86)) rfl (.tmp 39) (.tmp 45) (by rfl) _ (by rfl) (es.take k) [⟨nm,(p,q,d)⟩] (w.heap.size + 1) 1 (some ⟨w6.heap.size,0,none⟩) (fun b => S b ∨ w.heap.size ≤ b) (by rfl) (fun _ => .slice ua nm.length uc) (.inr ⟨_,rfl,fun t u ht => World.news_of_block (heap_alloc_new _ _) t u (by rw [enRow_one] at ht; exact ht)⟩) ?_ (SE.step HSE5.out b8) (by simp; omega) (by rw [htl]; simp; omega) ?_
   ·intro i hi
    obtain rfl : i = 0:=by simpa using hi
    refine RdV.mono (fun b hb => ⟨.inr (by omega),by simp; omega,fun e => by have:=hb5 b e; omega⟩) (RdV.step (OwV.rd (OwV.ofOwns HZ.out ho6)) (Below.newH _))
   intro v9 w9 se9 hg9 hgg9
   have V9 : VarA w9 w.heap.size 48 _:=(hg9.block _ (by simp; omega) (fun e => by have:=hb5 _ e.symm; omega)).trans (HV5.out.step b8)
   have B9 : Below w.heap.size w w9:=Below.grown (HB5.out.trans (b8.mono s5)) hg9 (by simp; omega) (fun q hq => by have:=hb5 q hq; omega)
   refine hK.out _ _ V9.l3 (fun hHeld => ?_)
   clear hK K
   try simp only [qz]
   apply tkh 8 _ rfl (by kernel_rfl) rfl (by assumption)
   ·(intro _ h; (try dsimp only at h); go_simp; try with_reducible rfl)
   try simp only [qz]
   refine wpAnyH_done (by kernel_rfl) (NoPanic.normal ?_) _
   clear hHeld
   have hlen9 : (es.take k ++ [(⟨nm,(p,q,d)⟩ : En)]).length = k + 1:=by rw [List.length_append,htl]; rfl
   obtain ⟨a9,c9,rfl⟩:=se9.shapeN hlen9
   have hb9:=se9.lt
   have s9:=B9.size
   have hvl9:=V9.lt
   obtain ⟨VV,hV1,hV2⟩:=RdV.lies (HR.out _ B9)
   have hL:=(hV2 k hk).2
   have hdl : (es.drop k).length = es.length - k:=List.length_drop
   have hr1 : ∀ i,i < (es.drop k).length → RdV w9 (Nm w9 (fun b => S b ∨ w.heap.size ≤ b) (.slice a9 (k + 1) c9)) (VV (k + i)) (.bytes ((es.drop k)[i]?.getD en0).nm):=fun i hi => by
    rw [getD_drop]
    exact RdV.mono (fun b hb => ⟨.inl hb,Nat.lt_of_lt_of_le (HS.out b hb) s9,fun e => by have:=hb9 b e; have:=HS.out b hb; omega⟩) (hV1 (k + i) (by omega))
   have H1 : Hid _:=hr1
   have H2 : Hid _:=hL
   have HB9 : Hid (Below w.heap.size w w9):=B9
   have HSE9 : Hid _:=se9
   have c89:=HC8.out _ B9
   clear hr1 hL hV1 hV2 B9 V9 se9 hg9 hgg9 b6 b7 b8 ho6 hg6 hry
   go_wp2_with (first | ((with_reducible refine guardSlice ?_); refine wpList_sl _ (sliceLE _ _ _ k hk _) ?_) | (at_builtin; go_must (refine wpList_appE _ rfl (.tmp 48) (.tmp 54) rfl _ rfl _ (es.drop k) (w.heap.size + 1) _ _ (fun b => S b ∨ w.heap.size ≤ b) (by rw [hdl]; rfl) (fun i => VV (k + i)) H2.out H1.out HSE9.out (by omega) (by rw [hlen9,hdl]; omega) ?_; intro v10 w10 se10 hg10 hgg10; obtain ⟨n10,hn10⟩ : ∃ n,(es.take k ++ [(⟨nm,(p,q,d)⟩ : En)] ++ es.drop k).length = n:=⟨_,rfl⟩; obtain ⟨a10,c10,rfl⟩:=se10.shapeN hn10; clear hn10; have B10 : Below w.heap.size w w10:=Below.grown HB9.out hg10 s9 (fun q hq => by have:=hb9 q hq; omega); have fz:=HFZ.out _ B10; have c810:=HC8.out _ B10)))
   all_goals (have HSE10 : Hid (SE w10 (w.heap.size + 1) _ _ _):=se10; have HB10 : Hid (Below w.heap.size w w10):=B10; clear H1 H2 HB9 HSE9 hgg10 hg10 se10 B10; go_end0; refine ⟨rfl,w10,_,rfl,HB10.out,?_⟩; unfold addE; rw [HP.out]; exact RdV.mono (fun b hb => ⟨hb.1.elim id (fun h => .inr (by omega)),hb.2⟩) (SE.rdO HSE10.out))
end Go.Proofs.YtblahkhniabhiaaGreatDoor
