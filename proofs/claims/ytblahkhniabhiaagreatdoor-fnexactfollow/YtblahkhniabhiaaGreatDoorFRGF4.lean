/- A drawn region of impl.treesOf; no condition. -/
import Derived.Test.YtblahkhniabhiaaGreatDoorFA01
import Derived.Test.YtblahkhniabhiaaGreatDoorFA09
namespace Go.Proofs.YtblahkhniabhiaaGreatDoor
open Go.RowKit
set_option linter.unusedVariables false
set_option linter.unusedSimpArgs false
set_option maxRecDepth 100000

set_option maxHeartbeats 8000000 in
theorem regF4 {Q : Exit → Act → World → Prop} {wr : World} {tb db : Nat} {xa ya za ea : Option Addr} {xn xc yn yc zn zc en ec : Nat} {l rl : List Nd} {tm cl rq kd p q p2 q2 ov cd r0 r1 rv pf qf rcode rh0 rh1 rval : Int} {d d2 r2 df rh2 : Bool} {nm asn : List Int} {rlist : List En}
  (HFR : Hid (∀ W : World,Below wr.heap.size wr W → Calls Tryz.prog 68 #[.agg #[.i tm,.i cl,.i rq,.i kd,.i p,.i q,.bool d,.slice ya yn yc,.i p2,.i q2,.bool d2,.slice za zn zc,.i ov,.i cd,.i r0,.i r1,.bool r2,.i rv,.slice ea en ec]] W fun e w' => e = .returned (.agg #[.i pf,.i qf,.bool df]) ∧ Below W.heap.size W w'))
  (HI8 : Hid (∀ x y z W S,RdV W S x (ndsDt l) → RdV W S y (.bytes nm) → RdV W S z (.bytes asn) → (∀ b,S b → b < W.heap.size) → Calls Tryz.prog 67 #[.agg #[x],opV ⟨kd,(p,q,d),nm,(p2,q2,d2),asn,ov⟩ y z,Hd.v (pf,qf,df)] W (DoI W (rl,⟨rcode,(rh0,rh1,rh2),rval,rlist⟩))))
  (HS : Hid (∀ W : World,Below wr.heap.size wr W → W.cell? ⟨tb,0,none⟩ = some (.slice xa xn xc) ∧ W.cell? ⟨db,3,none⟩ = some (.i kd) ∧ W.cell? ⟨db,4,none⟩ = some (.i p) ∧ W.cell? ⟨db,5,none⟩ = some (.i q) ∧ W.cell? ⟨db,6,none⟩ = some (.bool d) ∧ W.cell? ⟨db,7,none⟩ = some (.slice ya yn yc) ∧ W.cell? ⟨db,8,none⟩ = some (.i p2) ∧ W.cell? ⟨db,9,none⟩ = some (.i q2) ∧ W.cell? ⟨db,10,none⟩ = some (.bool d2) ∧ W.cell? ⟨db,11,none⟩ = some (.slice za zn zc) ∧ W.cell? ⟨db,12,none⟩ = some (.i ov) ∧ VarA W db 55 #[.i tm,.i cl,.i rq,.i kd,.i p,.i q,.bool d,.slice ya yn yc,.i p2,.i q2,.bool d2,.slice za zn zc,.i ov,.i cd,.i r0,.i r1,.bool r2,.i rv,.slice ea en ec]))
  (HXR : Hid (∀ W : World,Below wr.heap.size wr W → RdV W (fun b => b < W.heap.size) (.slice xa xn xc) (ndsDt l) ∧ RdV W (fun b => b < W.heap.size) (.slice ya yn yc) (.bytes nm) ∧ RdV W (fun b => b < W.heap.size) (.slice za zn zc) (.bytes asn)))
  {s0 s1 s2 s4 s6 s7 s8 s9 s10 s11 s12 s13 s14 s15 s16 s17 s18 s19 s20 s21 s22 s23 s24 s25 s26 s27 s28 s29 s30 s31 s32 s33 s34 s35 s36 s37 s38 s39 s40 s41 s42 s43 s44 s45 s46 : Value} {ds : List Deferred}
  (hQ : ∀ (v17 v18 v19 v20 : Value) (C D : Nat) ta tn tc ra rn rc wz,Hid (Below wr.heap.size wr wz ∧ wr.heap.size ≤ C ∧ VarA wz C 26 #[.slice ta tn tc] ∧ wr.heap.size ≤ D ∧ VarA wz D 51 #[.i rcode,.i rh0,.i rh1,.bool rh2,.i rval,.slice ra rn rc] ∧ FrO wr wz (fun b => b = C ∨ b = D) (.slice ta tn tc) (ndsDt rl) (.slice ra rn rc) (ensDt rlist)) → Q .normal ⟨#[s0,s1,s2,.pointer (some ⟨tb,0,none⟩),s4,.pointer (some ⟨db,0,none⟩),.pointer (some ⟨C,0,none⟩),.pointer (some ⟨D,0,none⟩),s8,s9,s10,s11,s12,s13,s14,s15,.tuple #[.agg #[.slice ta tn tc],.agg #[.i rcode,.i rh0,.i rh1,.bool rh2,.i rval,.slice ra rn rc]],v17,v18,v19,v20,.agg #[.i pf,.i qf,.bool df],.tuple #[.agg #[.slice ta tn tc],.agg #[.i rcode,.i rh0,.i rh1,.bool rh2,.i rval,.slice ra rn rc]],.agg #[.slice ta tn tc],.agg #[.i rcode,.i rh0,.i rh1,.bool rh2,.i rval,.slice ra rn rc],s25,s26,s27,s28,s29,s30,s31,s32,s33,s34,s35,s36,s37,s38,s39,s40,s41,s42,s43,s44,s45,s46],ds⟩ wz) :
  (Code.region 4 #[{ dst := some 17, op := Go.Op.load 26 (Go.Operand.tmp 3), type := 26, pos := "l08_whole.go:86", after := #[], guard := none }, { dst := some 18, op := Go.Op.fieldAddr 55 (Go.Operand.tmp 5) 3, type := 0, pos := "l08_whole.go:86", after := #[], guard := none }, { dst := some 19, op := Go.Op.load 53 (Go.Operand.tmp 18), type := 53, pos := "l08_whole.go:86", after := #[{ on := 1, ground := Go.Ground.data }], guard := none }, { dst := some 20, op := Go.Op.load 55 (Go.Operand.tmp 5), type := 55, pos := "l08_whole.go:86", after := #[], guard := none }, { dst := some 21, op := Go.Op.call { callee := Go.Callee.value (Go.Operand.func 68), args := #[Go.Operand.tmp 20], argTypes := #[55] }, type := 48, pos := "l08_whole.go:86", after := #[{ on := 3, ground := Go.Ground.data }], guard := none }, { dst := some 22, op := Go.Op.call { callee := Go.Callee.value (Go.Operand.func 67), args := #[Go.Operand.tmp 17, Go.Operand.tmp 19, Go.Operand.tmp 21], argTypes := #[26, 53, 48] }, type := 56, pos := "l08_whole.go:86", after := #[{ on := 0, ground := Go.Ground.data }, { on := 2, ground := Go.Ground.data }, { on := 4, ground := Go.Ground.data }, { on := 4, ground := Go.Ground.chain }], guard := none }, { dst := some 16, op := Go.Op.move (Go.Operand.tmp 22), type := 56, pos := "l08_whole.go:86", after := #[{ on := 5, ground := Go.Ground.data }], guard := none }, { dst := some 23, op := Go.Op.extract (Go.Operand.tmp 16) 0, type := 26, pos := "l08_whole.go:86", after := #[{ on := 6, ground := Go.Ground.data }], guard := none }, { dst := some 24, op := Go.Op.extract (Go.Operand.tmp 16) 1, type := 51, pos := "l08_whole.go:86", after := #[{ on := 6, ground := Go.Ground.data }, { on := 11, ground := Go.Ground.gcOnly Go.Departure.lateStores }], guard := none }, { dst := some 6, op := Go.Op.alloc 26, type := 0, pos := "l08_whole.go:86", after := #[], guard := none }, { dst := some 7, op := Go.Op.alloc 51, type := 0, pos := "l08_whole.go:86", after := #[], guard := none }, { dst := none, op := Go.Op.store 26 (Go.Operand.tmp 6) (Go.Operand.tmp 23), type := 0, pos := "l08_whole.go:86", after := #[{ on := 9, ground := Go.Ground.data }, { on := 7, ground := Go.Ground.data }, { on := 5, ground := Go.Ground.chain }, { on := 0, ground := Go.Ground.phase }, { on := 1, ground := Go.Ground.phase }, { on := 2, ground := Go.Ground.phase }, { on := 3, ground := Go.Ground.phase }, { on := 4, ground := Go.Ground.phase }, { on := 5, ground := Go.Ground.phase }, { on := 6, ground := Go.Ground.phase }, { on := 7, ground := Go.Ground.phase }, { on := 8, ground := Go.Ground.textOnly Go.Departure.lateStores }, { on := 9, ground := Go.Ground.phase }, { on := 10, ground := Go.Ground.phase }], guard := none }, { dst := none, op := Go.Op.store 51 (Go.Operand.tmp 7) (Go.Operand.tmp 24), type := 0, pos := "l08_whole.go:86", after := #[{ on := 10, ground := Go.Ground.data }, { on := 8, ground := Go.Ground.data }, { on := 11, ground := Go.Ground.chain }, { on := 0, ground := Go.Ground.phase }, { on := 1, ground := Go.Ground.phase }, { on := 2, ground := Go.Ground.phase }, { on := 3, ground := Go.Ground.phase }, { on := 4, ground := Go.Ground.phase }, { on := 5, ground := Go.Ground.phase }, { on := 6, ground := Go.Ground.phase }, { on := 7, ground := Go.Ground.phase }, { on := 8, ground := Go.Ground.phase }, { on := 9, ground := Go.Ground.phase }, { on := 10, ground := Go.Ground.phase }, { on := 11, ground := Go.Ground.phase }], guard := none }] true).wp Tryz.prog Q ⟨#[s0, s1, s2, .pointer (some ⟨tb, 0, none⟩), s4, .pointer (some ⟨db, 0, none⟩), s6, s7, s8, s9, s10, s11, s12, s13, s14, s15, s16, s17, s18, s19, s20, s21, s22, s23, s24, s25, s26, s27, s28, s29, s30, s31, s32, s33, s34, s35, s36, s37, s38, s39, s40, s41, s42, s43, s44, s45, s46], ds⟩ wr := by
 have HQQ : Hid _:=hQ
 clear hQ
 refine wp_region_noPanic ?_
 refine wp_region_held_drew (S:=fun W => W.cell? ⟨tb,0,none⟩ = some (.slice xa xn xc) ∧ W.cell? ⟨db,3,none⟩ = some (.i kd) ∧ W.cell? ⟨db,4,none⟩ = some (.i p) ∧ W.cell? ⟨db,5,none⟩ = some (.i q) ∧ W.cell? ⟨db,6,none⟩ = some (.bool d) ∧ W.cell? ⟨db,7,none⟩ = some (.slice ya yn yc) ∧ W.cell? ⟨db,8,none⟩ = some (.i p2) ∧ W.cell? ⟨db,9,none⟩ = some (.i q2) ∧ W.cell? ⟨db,10,none⟩ = some (.bool d2) ∧ W.cell? ⟨db,11,none⟩ = some (.slice za zn zc) ∧ W.cell? ⟨db,12,none⟩ = some (.i ov) ∧ VarA W db 55 #[.i tm,.i cl,.i rq,.i kd,.i p,.i q,.bool d,.slice ya yn yc,.i p2,.i q2,.bool d2,.slice za zn zc,.i ov,.i cd,.i r0,.i r1,.bool r2,.i rv,.slice ea en ec]) (by kernel_rfl) (HS.out _ (Below.drew (Below.refl wr.heap.size wr))) (fun hHeld => ?_)
 apply tkh 0 _ rfl (by kernel_rfl) rfl (by assumption)
 ·(intro _ h; (try dsimp only at h); go_simp; try with_reducible rfl)
 try simp only [qz]
 apply tkh 1 _ rfl (by kernel_rfl) rfl (by assumption)
 ·(intro _ h; (try dsimp only at h); go_simp; try with_reducible rfl)
 try simp only [qz]
 apply tkh 2 _ rfl (by kernel_rfl) rfl (by assumption)
 ·(intro _ h; (try dsimp only at h); go_simp; try with_reducible rfl)
 try simp only [qz]
 refine wpAnyH_take (i:=3) (v:=.agg #[.i tm,.i cl,.i rq,.i kd,.i p,.i q,.bool d,.slice ya yn yc,.i p2,.i q2,.bool d2,.slice za zn zc,.i ov,.i cd,.i r0,.i r1,.bool r2,.i rv,.slice ea en ec]) rfl (by kernel_rfl) (by kernel_rfl) (by kernel_rfl) (fun _ _ _ h => h) (Or.inl ⟨by rfl,?_⟩) (by assumption) ?_
 ·(intro w_ hSw_; exact loadOp_run hSw_.2.2.2.2.2.2.2.2.2.2.2 rfl Tryz.underlying55 rfl (by kernel_rfl))
 try simp only [qz]
 have HW0 : Hid (Below wr.heap.size wr wr.drew):=Below.drew (Below.refl wr.heap.size wr)
 generalize wr.drew = W0 at HW0 hHeld ⊢
 clear hHeld
 generalize hR : wpAnyH Tryz.prog Region.Mode.any _ _ _ = R
 generalize ha0 : Act.mk _ _ = a0
 obtain ⟨A,hA⟩ : ∃ A : Value → Value → Value → Value → Value → Value → Value → Act,A = fun v0 v1 v2 v3 v4 v5 v6 => (((((((a0.put (some 21) v0).put (some 22) v1).put (some 16) v2).put (some 23) v3).put (some 24) v4).put (some 6) v5).put (some 7) v6):=⟨_,rfl⟩
 rw [← ha0] at hA
 simp only [qz] at hA
 have ha : a0 = A s21 s22 s16 s23 s24 s6 s7:=by rw [hA,← ha0]
 rw [ha]
 have HA_ : Hid _:=hA
 have HR_ : Hid _:=hR
 clear hA hR ha ha0
 have L3_11 : ∀ (W : World) (C : Nat) (D : Nat) ta tn tc ra rn rc,Hid ((Below wr.heap.size wr W) ∧ (V25 wr W C) ∧ (V34 wr W D) ∧ (C ≠ D) ∧ (FrO wr W (fun b => b = C ∨ b = D) (.slice ta tn tc) (ndsDt rl) (.slice ra rn rc) (ensDt rlist))) → R 2 #[true,true,true,true,true,true,true,true,true,true,true,false,false] (A (.agg #[.i pf,.i qf,.bool df]) (.tuple #[.agg #[.slice ta tn tc],.agg #[.i rcode,.i rh0,.i rh1,.bool rh2,.i rval,.slice ra rn rc]]) (.tuple #[.agg #[.slice ta tn tc],.agg #[.i rcode,.i rh0,.i rh1,.bool rh2,.i rval,.slice ra rn rc]]) (.agg #[.slice ta tn tc]) (.agg #[.i rcode,.i rh0,.i rh1,.bool rh2,.i rval,.slice ra rn rc]) (pt C) (pt D)) W:=by
  intro W C D ta tn tc ra rn rc HF
  rw [← HR_.out,HA_.out]
  dsimp only
  obtain ⟨hB,hC,hD,hne,f0⟩:=HF.out
  refine doH 11 (by kernel_rfl) rfl fun K hK => ?_
  refine step_stF hC.2 (by rfl) (by rfl) (by kernel_rfl) rfl (of_decide_eq_true rfl) rfl ?_
  intro wy vY tY
  have BY:=turn1 hB tY hC.1
  refine hK.out _ _ (HS.out _ BY) (fun hHeld => ?_)
  clear hK K
  try simp only [qz]
  refine doH 12 (by kernel_rfl) rfl fun K hK => ?_
  refine step_stF (hD.2.turn tY (fun e => hne e.symm)) (by rfl) (by rfl) (by kernel_rfl) rfl (of_decide_eq_true rfl) rfl ?_
  intro wz vZ tZ
  have BZ:=turn1 BY tZ hD.1
  refine hK.out _ _ (HS.out _ BZ) (fun hHeld => ?_)
  clear hK K hHeld
  try simp only [qz]
  refine wpAnyH_done (by kernel_rfl) (NoPanic.normal ?_) _
  have vW:=vY.turn tZ hne
  have hlC:=vW.lt
  have hlD:=vZ.lt
  have HLF : Hid _:=(⟨BZ,hC.1,vW,hD.1,vZ,(f0.turn tY (Or.inl rfl)).turn tZ (Or.inr rfl)⟩ : Below wr.heap.size wr wz ∧ wr.heap.size ≤ C ∧ VarA wz C 26 #[.slice ta tn tc] ∧ wr.heap.size ≤ D ∧ VarA wz D 51 #[.i rcode,.i rh0,.i rh1,.bool rh2,.i rval,.slice ra rn rc] ∧ FrO wr wz (fun b => b = C ∨ b = D) (.slice ta tn tc) (ndsDt rl) (.slice ra rn rc) (ensDt rlist))
  clear hB hC hD hne BY BZ vY vZ vW tY tZ HF f0 hlC hlD
  exact HQQ.out _ _ _ _ C D ta tn tc ra rn rc wz HLF
 have L3_10 : ∀ (W : World) (C : Nat) ta tn tc ra rn rc,Hid ((Below wr.heap.size wr W) ∧ (V25 wr W C) ∧ (True) ∧ (True) ∧ (FrO wr W (fun b => b = C) (.slice ta tn tc) (ndsDt rl) (.slice ra rn rc) (ensDt rlist))) → R 3 #[true,true,true,true,true,true,true,true,true,true,false,false,false] (A (.agg #[.i pf,.i qf,.bool df]) (.tuple #[.agg #[.slice ta tn tc],.agg #[.i rcode,.i rh0,.i rh1,.bool rh2,.i rval,.slice ra rn rc]]) (.tuple #[.agg #[.slice ta tn tc],.agg #[.i rcode,.i rh0,.i rh1,.bool rh2,.i rval,.slice ra rn rc]]) (.agg #[.slice ta tn tc]) (.agg #[.i rcode,.i rh0,.i rh1,.bool rh2,.i rval,.slice ra rn rc]) (pt C) s7) W:=by
  intro W C ta tn tc ra rn rc HF
  rw [← HR_.out,HA_.out]
  dsimp only
  refine doH 10 (by kernel_rfl) rfl fun K hK => ?_
  ·go_simp
   obtain ⟨hB,hC,hD,hne,f0⟩:=HF.out
   refine hK.out _ _ (HS.out _ (Below.al2 hB _)) (fun hHeld => ?_)
   clear hK K
   try simp only [qz]
   have L:=L3_11 _ C W.heap.size ta tn tc ra rn rc ⟨Below.al2 hB _,⟨hC.1,hC.2.alloc _⟩,⟨hB.size,VarA.new _ _ _⟩,(fun e => by have:=hC.2.lt; omega),f0.new _ (fun b hb => by omega)⟩
   rw [← HR_.out,HA_.out] at L
   exact L
 have L3_01 : ∀ (W : World) (D : Nat) ta tn tc ra rn rc,Hid ((Below wr.heap.size wr W) ∧ (True) ∧ (V34 wr W D) ∧ (True) ∧ (FrO wr W (fun b => b = D) (.slice ta tn tc) (ndsDt rl) (.slice ra rn rc) (ensDt rlist))) → R 3 #[true,true,true,true,true,true,true,true,true,false,true,false,false] (A (.agg #[.i pf,.i qf,.bool df]) (.tuple #[.agg #[.slice ta tn tc],.agg #[.i rcode,.i rh0,.i rh1,.bool rh2,.i rval,.slice ra rn rc]]) (.tuple #[.agg #[.slice ta tn tc],.agg #[.i rcode,.i rh0,.i rh1,.bool rh2,.i rval,.slice ra rn rc]]) (.agg #[.slice ta tn tc]) (.agg #[.i rcode,.i rh0,.i rh1,.bool rh2,.i rval,.slice ra rn rc]) s6 (pt D)) W:=by
  intro W D ta tn tc ra rn rc HF
  rw [← HR_.out,HA_.out]
  dsimp only
  refine doH 9 (by kernel_rfl) rfl fun K hK => ?_
  ·go_simp
   obtain ⟨hB,hC,hD,hne,f0⟩:=HF.out
   refine hK.out _ _ (HS.out _ (Below.al2 hB _)) (fun hHeld => ?_)
   clear hK K
   try simp only [qz]
   have L:=L3_11 _ W.heap.size D ta tn tc ra rn rc ⟨Below.al2 hB _,⟨hB.size,VarA.new _ _ _⟩,⟨hD.1,hD.2.alloc _⟩,(fun e => by have:=hD.2.lt; omega),f0.new _ (fun b hb => by omega)⟩
   rw [← HR_.out,HA_.out] at L
   exact L
 have L3_00 : ∀ (W : World) ta tn tc ra rn rc,Hid ((Below wr.heap.size wr W) ∧ (True) ∧ (True) ∧ (True) ∧ (FrO wr W (fun _ => False) (.slice ta tn tc) (ndsDt rl) (.slice ra rn rc) (ensDt rlist))) → R 4 #[true,true,true,true,true,true,true,true,true,false,false,false,false] (A (.agg #[.i pf,.i qf,.bool df]) (.tuple #[.agg #[.slice ta tn tc],.agg #[.i rcode,.i rh0,.i rh1,.bool rh2,.i rval,.slice ra rn rc]]) (.tuple #[.agg #[.slice ta tn tc],.agg #[.i rcode,.i rh0,.i rh1,.bool rh2,.i rval,.slice ra rn rc]]) (.agg #[.slice ta tn tc]) (.agg #[.i rcode,.i rh0,.i rh1,.bool rh2,.i rval,.slice ra rn rc]) s6 s7) W:=by
  intro W ta tn tc ra rn rc HF
  rw [← HR_.out,HA_.out]
  dsimp only
  refine wpAnyH_ready (rs:=[9,10]) (by kernel_rfl) (by simp) ?_
  refine AllReadyH.cons rfl (fun K hK => ?_) ?_
  ·go_simp
   obtain ⟨hB,hC,hD,hne,f0⟩:=HF.out
   refine hK.out _ _ (HS.out _ (Below.al2 hB _)) (fun hHeld => ?_)
   clear hK K
   try simp only [qz]
   have L:=L3_10 _ W.heap.size ta tn tc ra rn rc ⟨Below.al2 hB _,⟨hB.size,VarA.new _ _ _⟩,trivial,trivial,f0.new _ (fun b hb => by omega)⟩
   rw [← HR_.out,HA_.out] at L
   exact L
  refine AllReadyH.cons rfl (fun K hK => ?_) AllReadyH.nil
  ·go_simp
   obtain ⟨hB,hC,hD,hne,f0⟩:=HF.out
   refine hK.out _ _ (HS.out _ (Below.al2 hB _)) (fun hHeld => ?_)
   clear hK K
   try simp only [qz]
   have L:=L3_01 _ W.heap.size ta tn tc ra rn rc ⟨Below.al2 hB _,trivial,⟨hB.size,VarA.new _ _ _⟩,trivial,f0.new _ (fun b hb => by omega)⟩
   rw [← HR_.out,HA_.out] at L
   exact L
 have L1_11 : ∀ (W : World) (C : Nat) (D : Nat),Hid ((Below wr.heap.size wr W) ∧ (V25 wr W C) ∧ (V34 wr W D) ∧ (C ≠ D)) → R 6 #[true,true,true,true,true,false,false,false,false,true,true,false,false] (A (.agg #[.i pf,.i qf,.bool df]) s22 s16 s23 s24 (pt C) (pt D)) W:=by
  intro W C D HF
  rw [← HR_.out,HA_.out]
  dsimp only
  refine doH 5 (by kernel_rfl) rfl fun K hK => ?_
  ·go_simp
   obtain ⟨hB,hC,hD,hne⟩:=HF.out
   refine Calls.mono (HI8.out _ _ _ W _ (HXR.out W hB).1 (HXR.out W hB).2.1 (HXR.out W hB).2.2 (fun b hb => hb)) ?_
   rintro e W2 ⟨ta,tn,tc,ra,rn,rc,R1,R2,rfl,o1,o2,h12,hR1,hR2,b2⟩
   have B2:=hB.trans (b2.mono hB.size)
   dsimp only
   refine hK.out _ _ (HS.out _ B2) (fun hHeld => ?_)
   clear hK K
   try simp only [qz]
   apply tkh 6 _ rfl (by kernel_rfl) rfl (by assumption)
   ·(intro _ h; (try dsimp only at h); go_simp; try with_reducible rfl)
   try simp only [qz]
   apply tkh 7 _ rfl (by kernel_rfl) rfl (by assumption)
   ·(intro _ h; (try dsimp only at h); go_simp; try with_reducible rfl)
   try simp only [qz]
   apply tkh 8 _ rfl (by kernel_rfl) rfl (by assumption)
   ·(intro _ h; (try dsimp only at h); go_simp; try with_reducible rfl)
   try simp only [qz]
   have L:=L3_11 _ C D ta tn tc ra rn rc ⟨B2,⟨hC.1,hC.2.step b2⟩,⟨hD.1,hD.2.step b2⟩,hne,FrO.made o1 o2 h12 hR1 hR2 hB.size (fun b hb => by have:=hC.2.lt; have:=hD.2.lt; omega)⟩
   rw [← HR_.out,HA_.out] at L
   exact L
 have L1_10 : ∀ (W : World) (C : Nat),Hid ((Below wr.heap.size wr W) ∧ (V25 wr W C) ∧ (True) ∧ (True)) → R 7 #[true,true,true,true,true,false,false,false,false,true,false,false,false] (A (.agg #[.i pf,.i qf,.bool df]) s22 s16 s23 s24 (pt C) s7) W:=by
  intro W C HF
  rw [← HR_.out,HA_.out]
  dsimp only
  refine wpAnyH_ready (rs:=[5,10]) (by kernel_rfl) (by simp) ?_
  refine AllReadyH.cons rfl (fun K hK => ?_) ?_
  ·go_simp
   obtain ⟨hB,hC,hD,hne⟩:=HF.out
   refine Calls.mono (HI8.out _ _ _ W _ (HXR.out W hB).1 (HXR.out W hB).2.1 (HXR.out W hB).2.2 (fun b hb => hb)) ?_
   rintro e W2 ⟨ta,tn,tc,ra,rn,rc,R1,R2,rfl,o1,o2,h12,hR1,hR2,b2⟩
   have B2:=hB.trans (b2.mono hB.size)
   dsimp only
   refine hK.out _ _ (HS.out _ B2) (fun hHeld => ?_)
   clear hK K
   try simp only [qz]
   apply tkh 6 _ rfl (by kernel_rfl) rfl (by assumption)
   ·(intro _ h; (try dsimp only at h); go_simp; try with_reducible rfl)
   try simp only [qz]
   apply tkh 7 _ rfl (by kernel_rfl) rfl (by assumption)
   ·(intro _ h; (try dsimp only at h); go_simp; try with_reducible rfl)
   try simp only [qz]
   apply tkh 8 _ rfl (by kernel_rfl) rfl (by assumption)
   ·(intro _ h; (try dsimp only at h); go_simp; try with_reducible rfl)
   try simp only [qz]
   have L:=L3_10 _ C ta tn tc ra rn rc ⟨B2,⟨hC.1,hC.2.step b2⟩,trivial,trivial,FrO.made o1 o2 h12 hR1 hR2 hB.size (fun b hb => by have:=hC.2.lt; omega)⟩
   rw [← HR_.out,HA_.out] at L
   exact L
  refine AllReadyH.cons rfl (fun K hK => ?_) AllReadyH.nil
  ·go_simp
   obtain ⟨hB,hC,hD,hne⟩:=HF.out
   refine hK.out _ _ (HS.out _ (Below.al2 hB _)) (fun hHeld => ?_)
   clear hK K
   try simp only [qz]
   have L:=L1_11 _ C W.heap.size ⟨Below.al2 hB _,⟨hC.1,hC.2.alloc _⟩,⟨hB.size,VarA.new _ _ _⟩,(fun e => by have:=hC.2.lt; omega)⟩
   rw [← HR_.out,HA_.out] at L
   exact L
 have L1_01 : ∀ (W : World) (D : Nat),Hid ((Below wr.heap.size wr W) ∧ (True) ∧ (V34 wr W D) ∧ (True)) → R 7 #[true,true,true,true,true,false,false,false,false,false,true,false,false] (A (.agg #[.i pf,.i qf,.bool df]) s22 s16 s23 s24 s6 (pt D)) W:=by
  intro W D HF
  rw [← HR_.out,HA_.out]
  dsimp only
  refine wpAnyH_ready (rs:=[5,9]) (by kernel_rfl) (by simp) ?_
  refine AllReadyH.cons rfl (fun K hK => ?_) ?_
  ·go_simp
   obtain ⟨hB,hC,hD,hne⟩:=HF.out
   refine Calls.mono (HI8.out _ _ _ W _ (HXR.out W hB).1 (HXR.out W hB).2.1 (HXR.out W hB).2.2 (fun b hb => hb)) ?_
   rintro e W2 ⟨ta,tn,tc,ra,rn,rc,R1,R2,rfl,o1,o2,h12,hR1,hR2,b2⟩
   have B2:=hB.trans (b2.mono hB.size)
   dsimp only
   refine hK.out _ _ (HS.out _ B2) (fun hHeld => ?_)
   clear hK K
   try simp only [qz]
   apply tkh 6 _ rfl (by kernel_rfl) rfl (by assumption)
   ·(intro _ h; (try dsimp only at h); go_simp; try with_reducible rfl)
   try simp only [qz]
   apply tkh 7 _ rfl (by kernel_rfl) rfl (by assumption)
   ·(intro _ h; (try dsimp only at h); go_simp; try with_reducible rfl)
   try simp only [qz]
   apply tkh 8 _ rfl (by kernel_rfl) rfl (by assumption)
   ·(intro _ h; (try dsimp only at h); go_simp; try with_reducible rfl)
   try simp only [qz]
   have L:=L3_01 _ D ta tn tc ra rn rc ⟨B2,trivial,⟨hD.1,hD.2.step b2⟩,trivial,FrO.made o1 o2 h12 hR1 hR2 hB.size (fun b hb => by have:=hD.2.lt; omega)⟩
   rw [← HR_.out,HA_.out] at L
   exact L
  refine AllReadyH.cons rfl (fun K hK => ?_) AllReadyH.nil
  ·go_simp
   obtain ⟨hB,hC,hD,hne⟩:=HF.out
   refine hK.out _ _ (HS.out _ (Below.al2 hB _)) (fun hHeld => ?_)
   clear hK K
   try simp only [qz]
   have L:=L1_11 _ W.heap.size D ⟨Below.al2 hB _,⟨hB.size,VarA.new _ _ _⟩,⟨hD.1,hD.2.alloc _⟩,(fun e => by have:=hD.2.lt; omega)⟩
   rw [← HR_.out,HA_.out] at L
   exact L
 have L1_00 : ∀ (W : World),Hid ((Below wr.heap.size wr W) ∧ (True) ∧ (True) ∧ (True)) → R 8 #[true,true,true,true,true,false,false,false,false,false,false,false,false] (A (.agg #[.i pf,.i qf,.bool df]) s22 s16 s23 s24 s6 s7) W:=by
  intro W HF
  rw [← HR_.out,HA_.out]
  dsimp only
  refine wpAnyH_ready (rs:=[5,9,10]) (by kernel_rfl) (by simp) ?_
  refine AllReadyH.cons rfl (fun K hK => ?_) ?_
  ·go_simp
   obtain ⟨hB,hC,hD,hne⟩:=HF.out
   refine Calls.mono (HI8.out _ _ _ W _ (HXR.out W hB).1 (HXR.out W hB).2.1 (HXR.out W hB).2.2 (fun b hb => hb)) ?_
   rintro e W2 ⟨ta,tn,tc,ra,rn,rc,R1,R2,rfl,o1,o2,h12,hR1,hR2,b2⟩
   have B2:=hB.trans (b2.mono hB.size)
   dsimp only
   refine hK.out _ _ (HS.out _ B2) (fun hHeld => ?_)
   clear hK K
   try simp only [qz]
   apply tkh 6 _ rfl (by kernel_rfl) rfl (by assumption)
   ·(intro _ h; (try dsimp only at h); go_simp; try with_reducible rfl)
   try simp only [qz]
   apply tkh 7 _ rfl (by kernel_rfl) rfl (by assumption)
   ·(intro _ h; (try dsimp only at h); go_simp; try with_reducible rfl)
   try simp only [qz]
   apply tkh 8 _ rfl (by kernel_rfl) rfl (by assumption)
   ·(intro _ h; (try dsimp only at h); go_simp; try with_reducible rfl)
   try simp only [qz]
   have L:=L3_00 _ ta tn tc ra rn rc ⟨B2,trivial,trivial,trivial,FrO.made o1 o2 h12 hR1 hR2 hB.size (fun b hb => hb.elim)⟩
   rw [← HR_.out,HA_.out] at L
   exact L
  refine AllReadyH.cons rfl (fun K hK => ?_) ?_
  ·go_simp
   obtain ⟨hB,hC,hD,hne⟩:=HF.out
   refine hK.out _ _ (HS.out _ (Below.al2 hB _)) (fun hHeld => ?_)
   clear hK K
   try simp only [qz]
   have L:=L1_10 _ W.heap.size ⟨Below.al2 hB _,⟨hB.size,VarA.new _ _ _⟩,trivial,trivial⟩
   rw [← HR_.out,HA_.out] at L
   exact L
  refine AllReadyH.cons rfl (fun K hK => ?_) AllReadyH.nil
  ·go_simp
   obtain ⟨hB,hC,hD,hne⟩:=HF.out
   refine hK.out _ _ (HS.out _ (Below.al2 hB _)) (fun hHeld => ?_)
   clear hK K
   try simp only [qz]
   have L:=L1_01 _ W.heap.size ⟨Below.al2 hB _,trivial,⟨hB.size,VarA.new _ _ _⟩,trivial⟩
   rw [← HR_.out,HA_.out] at L
   exact L
 have L0_11 : ∀ (W : World) (C : Nat) (D : Nat),Hid ((Below wr.heap.size wr W) ∧ (V25 wr W C) ∧ (V34 wr W D) ∧ (C ≠ D)) → R 7 #[true,true,true,true,false,false,false,false,false,true,true,false,false] (A s21 s22 s16 s23 s24 (pt C) (pt D)) W:=by
  intro W C D HF
  rw [← HR_.out,HA_.out]
  dsimp only
  refine doH 4 (by kernel_rfl) rfl fun K hK => ?_
  ·go_simp
   obtain ⟨hB,hC,hD,hne⟩:=HF.out
   refine Calls.mono (HFR.out W hB) ?_
   rintro e W2 ⟨rfl,b2⟩
   have B2:=hB.trans (b2.mono hB.size)
   dsimp only
   refine hK.out _ _ (HS.out _ B2) (fun hHeld => ?_)
   clear hK K
   try simp only [qz]
   have L:=L1_11 _ C D ⟨B2,⟨hC.1,hC.2.step b2⟩,⟨hD.1,hD.2.step b2⟩,hne⟩
   rw [← HR_.out,HA_.out] at L
   exact L
 have L0_10 : ∀ (W : World) (C : Nat),Hid ((Below wr.heap.size wr W) ∧ (V25 wr W C) ∧ (True) ∧ (True)) → R 8 #[true,true,true,true,false,false,false,false,false,true,false,false,false] (A s21 s22 s16 s23 s24 (pt C) s7) W:=by
  intro W C HF
  rw [← HR_.out,HA_.out]
  dsimp only
  refine wpAnyH_ready (rs:=[4,10]) (by kernel_rfl) (by simp) ?_
  refine AllReadyH.cons rfl (fun K hK => ?_) ?_
  ·go_simp
   obtain ⟨hB,hC,hD,hne⟩:=HF.out
   refine Calls.mono (HFR.out W hB) ?_
   rintro e W2 ⟨rfl,b2⟩
   have B2:=hB.trans (b2.mono hB.size)
   dsimp only
   refine hK.out _ _ (HS.out _ B2) (fun hHeld => ?_)
   clear hK K
   try simp only [qz]
   have L:=L1_10 _ C ⟨B2,⟨hC.1,hC.2.step b2⟩,trivial,trivial⟩
   rw [← HR_.out,HA_.out] at L
   exact L
  refine AllReadyH.cons rfl (fun K hK => ?_) AllReadyH.nil
  ·go_simp
   obtain ⟨hB,hC,hD,hne⟩:=HF.out
   refine hK.out _ _ (HS.out _ (Below.al2 hB _)) (fun hHeld => ?_)
   clear hK K
   try simp only [qz]
   have L:=L0_11 _ C W.heap.size ⟨Below.al2 hB _,⟨hC.1,hC.2.alloc _⟩,⟨hB.size,VarA.new _ _ _⟩,(fun e => by have:=hC.2.lt; omega)⟩
   rw [← HR_.out,HA_.out] at L
   exact L
 have L0_01 : ∀ (W : World) (D : Nat),Hid ((Below wr.heap.size wr W) ∧ (True) ∧ (V34 wr W D) ∧ (True)) → R 8 #[true,true,true,true,false,false,false,false,false,false,true,false,false] (A s21 s22 s16 s23 s24 s6 (pt D)) W:=by
  intro W D HF
  rw [← HR_.out,HA_.out]
  dsimp only
  refine wpAnyH_ready (rs:=[4,9]) (by kernel_rfl) (by simp) ?_
  refine AllReadyH.cons rfl (fun K hK => ?_) ?_
  ·go_simp
   obtain ⟨hB,hC,hD,hne⟩:=HF.out
   refine Calls.mono (HFR.out W hB) ?_
   rintro e W2 ⟨rfl,b2⟩
   have B2:=hB.trans (b2.mono hB.size)
   dsimp only
   refine hK.out _ _ (HS.out _ B2) (fun hHeld => ?_)
   clear hK K
   try simp only [qz]
   have L:=L1_01 _ D ⟨B2,trivial,⟨hD.1,hD.2.step b2⟩,trivial⟩
   rw [← HR_.out,HA_.out] at L
   exact L
  refine AllReadyH.cons rfl (fun K hK => ?_) AllReadyH.nil
  ·go_simp
   obtain ⟨hB,hC,hD,hne⟩:=HF.out
   refine hK.out _ _ (HS.out _ (Below.al2 hB _)) (fun hHeld => ?_)
   clear hK K
   try simp only [qz]
   have L:=L0_11 _ W.heap.size D ⟨Below.al2 hB _,⟨hB.size,VarA.new _ _ _⟩,⟨hD.1,hD.2.alloc _⟩,(fun e => by have:=hD.2.lt; omega)⟩
   rw [← HR_.out,HA_.out] at L
   exact L
 have L0_00 : ∀ (W : World),Hid ((Below wr.heap.size wr W) ∧ (True) ∧ (True) ∧ (True)) → R 9 #[true,true,true,true,false,false,false,false,false,false,false,false,false] (A s21 s22 s16 s23 s24 s6 s7) W:=by
  intro W HF
  rw [← HR_.out,HA_.out]
  dsimp only
  refine wpAnyH_ready (rs:=[4,9,10]) (by kernel_rfl) (by simp) ?_
  refine AllReadyH.cons rfl (fun K hK => ?_) ?_
  ·go_simp
   obtain ⟨hB,hC,hD,hne⟩:=HF.out
   refine Calls.mono (HFR.out W hB) ?_
   rintro e W2 ⟨rfl,b2⟩
   have B2:=hB.trans (b2.mono hB.size)
   dsimp only
   refine hK.out _ _ (HS.out _ B2) (fun hHeld => ?_)
   clear hK K
   try simp only [qz]
   have L:=L1_00 _ ⟨B2,trivial,trivial,trivial⟩
   rw [← HR_.out,HA_.out] at L
   exact L
  refine AllReadyH.cons rfl (fun K hK => ?_) ?_
  ·go_simp
   obtain ⟨hB,hC,hD,hne⟩:=HF.out
   refine hK.out _ _ (HS.out _ (Below.al2 hB _)) (fun hHeld => ?_)
   clear hK K
   try simp only [qz]
   have L:=L0_10 _ W.heap.size ⟨Below.al2 hB _,⟨hB.size,VarA.new _ _ _⟩,trivial,trivial⟩
   rw [← HR_.out,HA_.out] at L
   exact L
  refine AllReadyH.cons rfl (fun K hK => ?_) AllReadyH.nil
  ·go_simp
   obtain ⟨hB,hC,hD,hne⟩:=HF.out
   refine hK.out _ _ (HS.out _ (Below.al2 hB _)) (fun hHeld => ?_)
   clear hK K
   try simp only [qz]
   have L:=L0_01 _ W.heap.size ⟨Below.al2 hB _,trivial,⟨hB.size,VarA.new _ _ _⟩,trivial⟩
   rw [← HR_.out,HA_.out] at L
   exact L
 exact L0_00 W0 ⟨HW0.out,trivial,trivial,trivial⟩
end Go.Proofs.YtblahkhniabhiaaGreatDoor
