/- A drawn region of spec.Follow; no condition. -/
import Derived.Test.YtblahkhniabhiaaGreatDoorFA01
import Derived.Test.YtblahkhniabhiaaGreatDoorFA09
namespace Go.Proofs.YtblahkhniabhiaaGreatDoor
open Go.RowKit
set_option linter.unusedVariables false
set_option linter.unusedSimpArgs false
set_option maxRecDepth 100000

set_option maxHeartbeats 8000000 in
theorem regF8 {Q : Exit → Act → World → Prop} {wr : World} {tb fb b off k n cap : Nat} {xa ya za : Option Addr} {xn xc yn yc zn zc : Nat} {l rl : List Nd} {kd p q p2 q2 ov pf qf rcode rh0 rh1 rval : Int} {d d2 df rh2 : Bool} {nm asn : List Int} {rlist : List En}
  (HS8 : Hid (∀ x y z W S,RdV W S x (ndsDt l) → RdV W S y (.bytes nm) → RdV W S z (.bytes asn) → (∀ b,S b → b < W.heap.size) → Calls Tryz.prog 15 #[.agg #[x],opV ⟨kd,(p,q,d),nm,(p2,q2,d2),asn,ov⟩ y z,Hd.v (pf,qf,df)] W (DoS W (rl,⟨rcode,(rh0,rh1,rh2),rval,rlist⟩))))
  (HS : Hid (∀ W : World,Below wr.heap.size wr W → W.cell? ⟨tb,0,none⟩ = some (.slice xa xn xc) ∧ W.cell? ⟨b,off + k * 19 + 3,none⟩ = some (.i kd) ∧ W.cell? ⟨b,off + k * 19 + 4,none⟩ = some (.i p) ∧ W.cell? ⟨b,off + k * 19 + 5,none⟩ = some (.i q) ∧ W.cell? ⟨b,off + k * 19 + 6,none⟩ = some (.bool d) ∧ W.cell? ⟨b,off + k * 19 + 7,none⟩ = some (.slice ya yn yc) ∧ W.cell? ⟨b,off + k * 19 + 8,none⟩ = some (.i p2) ∧ W.cell? ⟨b,off + k * 19 + 9,none⟩ = some (.i q2) ∧ W.cell? ⟨b,off + k * 19 + 10,none⟩ = some (.bool d2) ∧ W.cell? ⟨b,off + k * 19 + 11,none⟩ = some (.slice za zn zc) ∧ W.cell? ⟨b,off + k * 19 + 12,none⟩ = some (.i ov) ∧ W.cell? ⟨fb,0,none⟩ = some (.i pf) ∧ W.cell? ⟨fb,1,none⟩ = some (.i qf) ∧ W.cell? ⟨fb,2,none⟩ = some (.bool df)))
  (HXR : Hid (∀ W : World,Below wr.heap.size wr W → RdV W (fun b => b < W.heap.size) (.slice xa xn xc) (ndsDt l) ∧ RdV W (fun b => b < W.heap.size) (.slice ya yn yc) (.bytes nm) ∧ RdV W (fun b => b < W.heap.size) (.slice za zn zc) (.bytes asn))) (hlt : k < n)
  {s1 s2 s3 s7 s8 s9 s10 s11 s12 s13 s14 s15 s16 s17 s18 s19 s20 s21 s22 s23 s24 s25 s26 s27 s28 s29 s30 s31 s32 s33 s34 s35 s36 s37 s38 s39 s40 s41 s42 s43 s44 s45 s46 s47 s48 s49 s50 s51 s52 s53 s54 s55 s56 s57 s58 s59 s60 s61 s62 s63 s64 s65 s66 s67 s68 s69 s70 s71 s72 s73 s74 s75 s76 s77 s78 s79 s80 : Value} {ds : List Deferred}
  (hQ : ∀ (v54 v55 v56 v57 v58 v59 v60 : Value) (C D : Nat) ta tn tc ra rn rc wz,Hid (Below wr.heap.size wr wz ∧ wr.heap.size ≤ C ∧ VarA wz C 26 #[.slice ta tn tc] ∧ wr.heap.size ≤ D ∧ VarA wz D 51 #[.i rcode,.i rh0,.i rh1,.bool rh2,.i rval,.slice ra rn rc] ∧ FrV wr wz (fun b => b = C ∨ b = D) (.slice ta tn tc) (ndsDt rl) ∧ FrV wr wz (fun b => b = C ∨ b = D) (.slice ra rn rc) (ensDt rlist)) → Q .normal ⟨#[.slice (some ⟨b,off,none⟩) n cap,s1,s2,s3,.pointer (some ⟨tb,0,none⟩),.i k,.pointer (some ⟨fb,0,none⟩),.pointer (some ⟨C,0,none⟩),.pointer (some ⟨D,0,none⟩),s9,s10,s11,s12,s13,s14,s15,s16,s17,s18,s19,s20,s21,s22,s23,s24,s25,s26,s27,s28,s29,s30,s31,s32,s33,s34,s35,s36,s37,s38,s39,s40,s41,s42,s43,s44,s45,s46,s47,s48,s49,s50,s51,s52,.tuple #[.agg #[.slice ta tn tc],.agg #[.i rcode,.i rh0,.i rh1,.bool rh2,.i rval,.slice ra rn rc]],v54,v55,v56,v57,v58,v59,v60,.tuple #[.agg #[.slice ta tn tc],.agg #[.i rcode,.i rh0,.i rh1,.bool rh2,.i rval,.slice ra rn rc]],.agg #[.slice ta tn tc],.agg #[.i rcode,.i rh0,.i rh1,.bool rh2,.i rval,.slice ra rn rc],s64,s65,s66,s67,s68,s69,s70,s71,s72,s73,s74,s75,s76,s77,s78,s79,s80],ds⟩ wz) :
  (Code.region 8 #[{ dst := some 54, op := Go.Op.load 26 (Go.Operand.tmp 4), type := 26, pos := "l08_whole.go:53", after := #[], guard := none }, { dst := some 55, op := Go.Op.move (Go.Operand.tmp 0), type := 29, pos := "l08_whole.go:53", after := #[], guard := none }, { dst := some 56, op := Go.Op.move (Go.Operand.tmp 5), type := 3, pos := "l08_whole.go:53", after := #[], guard := none }, { dst := some 57, op := Go.Op.indexAddr 29 (Go.Operand.tmp 55) (Go.Operand.tmp 56), type := 0, pos := "l08_whole.go:53", after := #[{ on := 1, ground := Go.Ground.data }, { on := 2, ground := Go.Ground.data }], guard := none }, { dst := some 58, op := Go.Op.fieldAddr 55 (Go.Operand.tmp 57) 3, type := 0, pos := "l08_whole.go:53", after := #[{ on := 3, ground := Go.Ground.data }], guard := none }, { dst := some 59, op := Go.Op.load 53 (Go.Operand.tmp 58), type := 53, pos := "l08_whole.go:53", after := #[{ on := 4, ground := Go.Ground.data }], guard := none }, { dst := some 60, op := Go.Op.load 48 (Go.Operand.tmp 6), type := 48, pos := "l08_whole.go:53", after := #[], guard := none }, { dst := some 61, op := Go.Op.call { callee := Go.Callee.value (Go.Operand.func 15), args := #[Go.Operand.tmp 54, Go.Operand.tmp 59, Go.Operand.tmp 60], argTypes := #[26, 53, 48] }, type := 56, pos := "l08_whole.go:53", after := #[{ on := 0, ground := Go.Ground.data }, { on := 5, ground := Go.Ground.data }, { on := 6, ground := Go.Ground.data }], guard := none }, { dst := some 53, op := Go.Op.move (Go.Operand.tmp 61), type := 56, pos := "l08_whole.go:53", after := #[{ on := 7, ground := Go.Ground.data }], guard := none }, { dst := some 62, op := Go.Op.extract (Go.Operand.tmp 53) 0, type := 26, pos := "l08_whole.go:53", after := #[{ on := 8, ground := Go.Ground.data }], guard := none }, { dst := some 63, op := Go.Op.extract (Go.Operand.tmp 53) 1, type := 51, pos := "l08_whole.go:53", after := #[{ on := 8, ground := Go.Ground.data }, { on := 13, ground := Go.Ground.gcOnly Go.Departure.lateStores }], guard := none }, { dst := some 7, op := Go.Op.alloc 26, type := 0, pos := "l08_whole.go:53", after := #[], guard := none }, { dst := some 8, op := Go.Op.alloc 51, type := 0, pos := "l08_whole.go:53", after := #[], guard := none }, { dst := none, op := Go.Op.store 26 (Go.Operand.tmp 7) (Go.Operand.tmp 62), type := 0, pos := "l08_whole.go:53", after := #[{ on := 11, ground := Go.Ground.data }, { on := 9, ground := Go.Ground.data }, { on := 7, ground := Go.Ground.chain }, { on := 0, ground := Go.Ground.phase }, { on := 1, ground := Go.Ground.phase }, { on := 2, ground := Go.Ground.phase }, { on := 3, ground := Go.Ground.phase }, { on := 4, ground := Go.Ground.phase }, { on := 5, ground := Go.Ground.phase }, { on := 6, ground := Go.Ground.phase }, { on := 7, ground := Go.Ground.phase }, { on := 8, ground := Go.Ground.phase }, { on := 9, ground := Go.Ground.phase }, { on := 10, ground := Go.Ground.textOnly Go.Departure.lateStores }, { on := 11, ground := Go.Ground.phase }, { on := 12, ground := Go.Ground.phase }], guard := none }, { dst := none, op := Go.Op.store 51 (Go.Operand.tmp 8) (Go.Operand.tmp 63), type := 0, pos := "l08_whole.go:53", after := #[{ on := 12, ground := Go.Ground.data }, { on := 10, ground := Go.Ground.data }, { on := 13, ground := Go.Ground.chain }, { on := 0, ground := Go.Ground.phase }, { on := 1, ground := Go.Ground.phase }, { on := 2, ground := Go.Ground.phase }, { on := 3, ground := Go.Ground.phase }, { on := 4, ground := Go.Ground.phase }, { on := 5, ground := Go.Ground.phase }, { on := 6, ground := Go.Ground.phase }, { on := 7, ground := Go.Ground.phase }, { on := 8, ground := Go.Ground.phase }, { on := 9, ground := Go.Ground.phase }, { on := 10, ground := Go.Ground.phase }, { on := 11, ground := Go.Ground.phase }, { on := 12, ground := Go.Ground.phase }, { on := 13, ground := Go.Ground.phase }], guard := none }] true).wp Tryz.prog Q ⟨#[.slice (some ⟨b, off, none⟩) n cap, s1, s2, s3, .pointer (some ⟨tb, 0, none⟩), .i k, .pointer (some ⟨fb, 0, none⟩), s7, s8, s9, s10, s11, s12, s13, s14, s15, s16, s17, s18, s19, s20, s21, s22, s23, s24, s25, s26, s27, s28, s29, s30, s31, s32, s33, s34, s35, s36, s37, s38, s39, s40, s41, s42, s43, s44, s45, s46, s47, s48, s49, s50, s51, s52, s53, s54, s55, s56, s57, s58, s59, s60, s61, s62, s63, s64, s65, s66, s67, s68, s69, s70, s71, s72, s73, s74, s75, s76, s77, s78, s79, s80], ds⟩ wr := by
 have HQQ : Hid _:=hQ
 clear hQ
 refine wp_region_noPanic ?_
 refine wp_region_held_drew (S:=fun W => W.cell? ⟨tb,0,none⟩ = some (.slice xa xn xc) ∧ W.cell? ⟨b,off + k * 19 + 3,none⟩ = some (.i kd) ∧ W.cell? ⟨b,off + k * 19 + 4,none⟩ = some (.i p) ∧ W.cell? ⟨b,off + k * 19 + 5,none⟩ = some (.i q) ∧ W.cell? ⟨b,off + k * 19 + 6,none⟩ = some (.bool d) ∧ W.cell? ⟨b,off + k * 19 + 7,none⟩ = some (.slice ya yn yc) ∧ W.cell? ⟨b,off + k * 19 + 8,none⟩ = some (.i p2) ∧ W.cell? ⟨b,off + k * 19 + 9,none⟩ = some (.i q2) ∧ W.cell? ⟨b,off + k * 19 + 10,none⟩ = some (.bool d2) ∧ W.cell? ⟨b,off + k * 19 + 11,none⟩ = some (.slice za zn zc) ∧ W.cell? ⟨b,off + k * 19 + 12,none⟩ = some (.i ov) ∧ W.cell? ⟨fb,0,none⟩ = some (.i pf) ∧ W.cell? ⟨fb,1,none⟩ = some (.i qf) ∧ W.cell? ⟨fb,2,none⟩ = some (.bool df)) (by kernel_rfl) (HS.out _ (Below.drew (Below.refl wr.heap.size wr))) (fun hHeld => ?_)
 apply tkh 0 _ rfl (by kernel_rfl) rfl (by assumption)
 ·(intro _ h; (try dsimp only at h); go_simp; try with_reducible rfl)
 try simp only [qz]
 apply tkh 1 _ rfl (by kernel_rfl) rfl (by assumption)
 ·(intro _ h; (try dsimp only at h); go_simp; try with_reducible rfl)
 try simp only [qz]
 apply tkh 2 _ rfl (by kernel_rfl) rfl (by assumption)
 ·(intro _ h; (try dsimp only at h); go_simp; try with_reducible rfl)
 try simp only [qz]
 apply tkh 3 _ rfl (by kernel_rfl) rfl (by assumption)
 ·(intro _ h; (try dsimp only at h); go_simp; try with_reducible rfl)
 try simp only [qz]
 apply tkh 4 _ rfl (by kernel_rfl) rfl (by assumption)
 ·(intro _ h; (try dsimp only at h); go_simp; try with_reducible rfl)
 try simp only [qz]
 apply tkh 5 _ rfl (by kernel_rfl) rfl (by assumption)
 ·(intro _ h; (try dsimp only at h); go_simp; try with_reducible rfl)
 try simp only [qz]
 apply tkh 6 _ rfl (by kernel_rfl) rfl (by assumption)
 ·(intro _ h; (try dsimp only at h); go_simp; try with_reducible rfl)
 try simp only [qz]
 have HW0 : Hid (Below wr.heap.size wr wr.drew):=Below.drew (Below.refl wr.heap.size wr)
 generalize wr.drew = W0 at HW0 hHeld ⊢
 clear hHeld
 generalize hR : wpAnyH Tryz.prog Region.Mode.any _ _ _ = R
 generalize ha0 : Act.mk _ _ = a0
 obtain ⟨A,hA⟩ : ∃ A : Value → Value → Value → Value → Value → Value → Act,A = fun v0 v1 v2 v3 v4 v5 => ((((((a0.put (some 61) v0).put (some 53) v1).put (some 62) v2).put (some 63) v3).put (some 7) v4).put (some 8) v5):=⟨_,rfl⟩
 rw [← ha0] at hA
 simp only [qz] at hA
 have ha : a0 = A s61 s53 s62 s63 s7 s8:=by rw [hA,← ha0]
 rw [ha]
 have HA_ : Hid _:=hA
 have HR_ : Hid _:=hR
 clear hA hR ha ha0
 have L2_11 : ∀ (W : World) (C : Nat) (D : Nat) ta tn tc ra rn rc,Hid ((Below wr.heap.size wr W) ∧ (V25 wr W C) ∧ (V34 wr W D) ∧ (C ≠ D) ∧ (FrV wr W (fun b => b = C ∨ b = D) (.slice ta tn tc) (ndsDt rl)) ∧ (FrV wr W (fun b => b = C ∨ b = D) (.slice ra rn rc) (ensDt rlist))) → R 2 #[true,true,true,true,true,true,true,true,true,true,true,true,true,false,false] (A (.tuple #[.agg #[.slice ta tn tc],.agg #[.i rcode,.i rh0,.i rh1,.bool rh2,.i rval,.slice ra rn rc]]) (.tuple #[.agg #[.slice ta tn tc],.agg #[.i rcode,.i rh0,.i rh1,.bool rh2,.i rval,.slice ra rn rc]]) (.agg #[.slice ta tn tc]) (.agg #[.i rcode,.i rh0,.i rh1,.bool rh2,.i rval,.slice ra rn rc]) (pt C) (pt D)) W:=by
  intro W C D ta tn tc ra rn rc HF
  rw [← HR_.out,HA_.out]
  dsimp only
  obtain ⟨hB,hC,hD,hne,f0,f1⟩:=HF.out
  refine doH 13 (by kernel_rfl) rfl fun K hK => ?_
  refine step_stF hC.2 (by rfl) (by rfl) (by kernel_rfl) rfl (of_decide_eq_true rfl) rfl ?_
  intro wy vY tY
  have BY:=turn1 hB tY hC.1
  refine hK.out _ _ (HS.out _ BY) (fun hHeld => ?_)
  clear hK K
  try simp only [qz]
  refine doH 14 (by kernel_rfl) rfl fun K hK => ?_
  refine step_stF (hD.2.turn tY (fun e => hne e.symm)) (by rfl) (by rfl) (by kernel_rfl) rfl (of_decide_eq_true rfl) rfl ?_
  intro wz vZ tZ
  have BZ:=turn1 BY tZ hD.1
  refine hK.out _ _ (HS.out _ BZ) (fun hHeld => ?_)
  clear hK K hHeld
  try simp only [qz]
  refine wpAnyH_done (by kernel_rfl) (NoPanic.normal ?_) _
  have vW:=vY.turn tZ hne
  have hlC:=vW.lt
  have hlD:=vZ.lt
  have HLF : Hid _:=(⟨BZ,hC.1,vW,hD.1,vZ,(f0.turn tY (Or.inl rfl)).turn tZ (Or.inr rfl),(f1.turn tY (Or.inl rfl)).turn tZ (Or.inr rfl)⟩ : Below wr.heap.size wr wz ∧ wr.heap.size ≤ C ∧ VarA wz C 26 #[.slice ta tn tc] ∧ wr.heap.size ≤ D ∧ VarA wz D 51 #[.i rcode,.i rh0,.i rh1,.bool rh2,.i rval,.slice ra rn rc] ∧ FrV wr wz (fun b => b = C ∨ b = D) (.slice ta tn tc) (ndsDt rl) ∧ FrV wr wz (fun b => b = C ∨ b = D) (.slice ra rn rc) (ensDt rlist))
  clear hB hC hD hne BY BZ vY vZ vW tY tZ HF f0 f1 hlC hlD
  exact HQQ.out _ _ _ _ _ _ _ C D ta tn tc ra rn rc wz HLF
 have L2_10 : ∀ (W : World) (C : Nat) ta tn tc ra rn rc,Hid ((Below wr.heap.size wr W) ∧ (V25 wr W C) ∧ (True) ∧ (True) ∧ (FrV wr W (fun b => b = C) (.slice ta tn tc) (ndsDt rl)) ∧ (FrV wr W (fun b => b = C) (.slice ra rn rc) (ensDt rlist))) → R 3 #[true,true,true,true,true,true,true,true,true,true,true,true,false,false,false] (A (.tuple #[.agg #[.slice ta tn tc],.agg #[.i rcode,.i rh0,.i rh1,.bool rh2,.i rval,.slice ra rn rc]]) (.tuple #[.agg #[.slice ta tn tc],.agg #[.i rcode,.i rh0,.i rh1,.bool rh2,.i rval,.slice ra rn rc]]) (.agg #[.slice ta tn tc]) (.agg #[.i rcode,.i rh0,.i rh1,.bool rh2,.i rval,.slice ra rn rc]) (pt C) s8) W:=by
  intro W C ta tn tc ra rn rc HF
  rw [← HR_.out,HA_.out]
  dsimp only
  refine doH 12 (by kernel_rfl) rfl fun K hK => ?_
  ·go_simp
   obtain ⟨hB,hC,hD,hne,f0,f1⟩:=HF.out
   refine hK.out _ _ (HS.out _ (Below.al2 hB _)) (fun hHeld => ?_)
   clear hK K
   try simp only [qz]
   have L:=L2_11 _ C W.heap.size ta tn tc ra rn rc ⟨Below.al2 hB _,⟨hC.1,hC.2.alloc _⟩,⟨hB.size,VarA.new _ _ _⟩,(fun e => by have:=hC.2.lt; omega),f0.new _ (fun b hb => by omega),f1.new _ (fun b hb => by omega)⟩
   rw [← HR_.out,HA_.out] at L
   exact L
 have L2_01 : ∀ (W : World) (D : Nat) ta tn tc ra rn rc,Hid ((Below wr.heap.size wr W) ∧ (True) ∧ (V34 wr W D) ∧ (True) ∧ (FrV wr W (fun b => b = D) (.slice ta tn tc) (ndsDt rl)) ∧ (FrV wr W (fun b => b = D) (.slice ra rn rc) (ensDt rlist))) → R 3 #[true,true,true,true,true,true,true,true,true,true,true,false,true,false,false] (A (.tuple #[.agg #[.slice ta tn tc],.agg #[.i rcode,.i rh0,.i rh1,.bool rh2,.i rval,.slice ra rn rc]]) (.tuple #[.agg #[.slice ta tn tc],.agg #[.i rcode,.i rh0,.i rh1,.bool rh2,.i rval,.slice ra rn rc]]) (.agg #[.slice ta tn tc]) (.agg #[.i rcode,.i rh0,.i rh1,.bool rh2,.i rval,.slice ra rn rc]) s7 (pt D)) W:=by
  intro W D ta tn tc ra rn rc HF
  rw [← HR_.out,HA_.out]
  dsimp only
  refine doH 11 (by kernel_rfl) rfl fun K hK => ?_
  ·go_simp
   obtain ⟨hB,hC,hD,hne,f0,f1⟩:=HF.out
   refine hK.out _ _ (HS.out _ (Below.al2 hB _)) (fun hHeld => ?_)
   clear hK K
   try simp only [qz]
   have L:=L2_11 _ W.heap.size D ta tn tc ra rn rc ⟨Below.al2 hB _,⟨hB.size,VarA.new _ _ _⟩,⟨hD.1,hD.2.alloc _⟩,(fun e => by have:=hD.2.lt; omega),f0.new _ (fun b hb => by omega),f1.new _ (fun b hb => by omega)⟩
   rw [← HR_.out,HA_.out] at L
   exact L
 have L2_00 : ∀ (W : World) ta tn tc ra rn rc,Hid ((Below wr.heap.size wr W) ∧ (True) ∧ (True) ∧ (True) ∧ (FrV wr W (fun _ => False) (.slice ta tn tc) (ndsDt rl)) ∧ (FrV wr W (fun _ => False) (.slice ra rn rc) (ensDt rlist))) → R 4 #[true,true,true,true,true,true,true,true,true,true,true,false,false,false,false] (A (.tuple #[.agg #[.slice ta tn tc],.agg #[.i rcode,.i rh0,.i rh1,.bool rh2,.i rval,.slice ra rn rc]]) (.tuple #[.agg #[.slice ta tn tc],.agg #[.i rcode,.i rh0,.i rh1,.bool rh2,.i rval,.slice ra rn rc]]) (.agg #[.slice ta tn tc]) (.agg #[.i rcode,.i rh0,.i rh1,.bool rh2,.i rval,.slice ra rn rc]) s7 s8) W:=by
  intro W ta tn tc ra rn rc HF
  rw [← HR_.out,HA_.out]
  dsimp only
  refine wpAnyH_ready (rs:=[11,12]) (by kernel_rfl) (by simp) ?_
  refine AllReadyH.cons rfl (fun K hK => ?_) ?_
  ·go_simp
   obtain ⟨hB,hC,hD,hne,f0,f1⟩:=HF.out
   refine hK.out _ _ (HS.out _ (Below.al2 hB _)) (fun hHeld => ?_)
   clear hK K
   try simp only [qz]
   have L:=L2_10 _ W.heap.size ta tn tc ra rn rc ⟨Below.al2 hB _,⟨hB.size,VarA.new _ _ _⟩,trivial,trivial,f0.new _ (fun b hb => by omega),f1.new _ (fun b hb => by omega)⟩
   rw [← HR_.out,HA_.out] at L
   exact L
  refine AllReadyH.cons rfl (fun K hK => ?_) AllReadyH.nil
  ·go_simp
   obtain ⟨hB,hC,hD,hne,f0,f1⟩:=HF.out
   refine hK.out _ _ (HS.out _ (Below.al2 hB _)) (fun hHeld => ?_)
   clear hK K
   try simp only [qz]
   have L:=L2_01 _ W.heap.size ta tn tc ra rn rc ⟨Below.al2 hB _,trivial,⟨hB.size,VarA.new _ _ _⟩,trivial,f0.new _ (fun b hb => by omega),f1.new _ (fun b hb => by omega)⟩
   rw [← HR_.out,HA_.out] at L
   exact L
 have L0_11 : ∀ (W : World) (C : Nat) (D : Nat),Hid ((Below wr.heap.size wr W) ∧ (V25 wr W C) ∧ (V34 wr W D) ∧ (C ≠ D)) → R 6 #[true,true,true,true,true,true,true,false,false,false,false,true,true,false,false] (A s61 s53 s62 s63 (pt C) (pt D)) W:=by
  intro W C D HF
  rw [← HR_.out,HA_.out]
  dsimp only
  refine doH 7 (by kernel_rfl) rfl fun K hK => ?_
  ·go_simp
   obtain ⟨hB,hC,hD,hne⟩:=HF.out
   refine Calls.mono (HS8.out _ _ _ W _ (HXR.out W hB).1 (HXR.out W hB).2.1 (HXR.out W hB).2.2 (fun b hb => hb)) ?_
   rintro e W2 ⟨ta,tn,tc,ra,rn,rc,rfl,o1,o2,b2⟩
   have B2:=hB.trans (b2.mono hB.size)
   dsimp only
   refine hK.out _ _ (HS.out _ B2) (fun hHeld => ?_)
   clear hK K
   try simp only [qz]
   apply tkh 8 _ rfl (by kernel_rfl) rfl (by assumption)
   ·(intro _ h; (try dsimp only at h); go_simp; try with_reducible rfl)
   try simp only [qz]
   apply tkh 9 _ rfl (by kernel_rfl) rfl (by assumption)
   ·(intro _ h; (try dsimp only at h); go_simp; try with_reducible rfl)
   try simp only [qz]
   apply tkh 10 _ rfl (by kernel_rfl) rfl (by assumption)
   ·(intro _ h; (try dsimp only at h); go_simp; try with_reducible rfl)
   try simp only [qz]
   have L:=L2_11 _ C D ta tn tc ra rn rc ⟨B2,⟨hC.1,hC.2.step b2⟩,⟨hD.1,hD.2.step b2⟩,hne,FrV.made o1 hB.size (fun b hb => by have:=hC.2.lt; have:=hD.2.lt; omega),FrV.made o2 hB.size (fun b hb => by have:=hC.2.lt; have:=hD.2.lt; omega)⟩
   rw [← HR_.out,HA_.out] at L
   exact L
 have L0_10 : ∀ (W : World) (C : Nat),Hid ((Below wr.heap.size wr W) ∧ (V25 wr W C) ∧ (True) ∧ (True)) → R 7 #[true,true,true,true,true,true,true,false,false,false,false,true,false,false,false] (A s61 s53 s62 s63 (pt C) s8) W:=by
  intro W C HF
  rw [← HR_.out,HA_.out]
  dsimp only
  refine wpAnyH_ready (rs:=[7,12]) (by kernel_rfl) (by simp) ?_
  refine AllReadyH.cons rfl (fun K hK => ?_) ?_
  ·go_simp
   obtain ⟨hB,hC,hD,hne⟩:=HF.out
   refine Calls.mono (HS8.out _ _ _ W _ (HXR.out W hB).1 (HXR.out W hB).2.1 (HXR.out W hB).2.2 (fun b hb => hb)) ?_
   rintro e W2 ⟨ta,tn,tc,ra,rn,rc,rfl,o1,o2,b2⟩
   have B2:=hB.trans (b2.mono hB.size)
   dsimp only
   refine hK.out _ _ (HS.out _ B2) (fun hHeld => ?_)
   clear hK K
   try simp only [qz]
   apply tkh 8 _ rfl (by kernel_rfl) rfl (by assumption)
   ·(intro _ h; (try dsimp only at h); go_simp; try with_reducible rfl)
   try simp only [qz]
   apply tkh 9 _ rfl (by kernel_rfl) rfl (by assumption)
   ·(intro _ h; (try dsimp only at h); go_simp; try with_reducible rfl)
   try simp only [qz]
   apply tkh 10 _ rfl (by kernel_rfl) rfl (by assumption)
   ·(intro _ h; (try dsimp only at h); go_simp; try with_reducible rfl)
   try simp only [qz]
   have L:=L2_10 _ C ta tn tc ra rn rc ⟨B2,⟨hC.1,hC.2.step b2⟩,trivial,trivial,FrV.made o1 hB.size (fun b hb => by have:=hC.2.lt; omega),FrV.made o2 hB.size (fun b hb => by have:=hC.2.lt; omega)⟩
   rw [← HR_.out,HA_.out] at L
   exact L
  refine AllReadyH.cons rfl (fun K hK => ?_) AllReadyH.nil
  ·go_simp
   obtain ⟨hB,hC,hD,hne⟩:=HF.out
   refine hK.out _ _ (HS.out _ (Below.al2 hB _)) (fun hHeld => ?_)
   clear hK K
   try simp only [qz]
   have L:=L0_11 _ C W.heap.size ⟨Below.al2 hB _,⟨hC.1,hC.2.alloc _⟩,⟨hB.size,VarA.new _ _ _⟩,(fun e => by have:=hC.2.lt; omega)⟩
   rw [← HR_.out,HA_.out] at L
   exact L
 have L0_01 : ∀ (W : World) (D : Nat),Hid ((Below wr.heap.size wr W) ∧ (True) ∧ (V34 wr W D) ∧ (True)) → R 7 #[true,true,true,true,true,true,true,false,false,false,false,false,true,false,false] (A s61 s53 s62 s63 s7 (pt D)) W:=by
  intro W D HF
  rw [← HR_.out,HA_.out]
  dsimp only
  refine wpAnyH_ready (rs:=[7,11]) (by kernel_rfl) (by simp) ?_
  refine AllReadyH.cons rfl (fun K hK => ?_) ?_
  ·go_simp
   obtain ⟨hB,hC,hD,hne⟩:=HF.out
   refine Calls.mono (HS8.out _ _ _ W _ (HXR.out W hB).1 (HXR.out W hB).2.1 (HXR.out W hB).2.2 (fun b hb => hb)) ?_
   rintro e W2 ⟨ta,tn,tc,ra,rn,rc,rfl,o1,o2,b2⟩
   have B2:=hB.trans (b2.mono hB.size)
   dsimp only
   refine hK.out _ _ (HS.out _ B2) (fun hHeld => ?_)
   clear hK K
   try simp only [qz]
   apply tkh 8 _ rfl (by kernel_rfl) rfl (by assumption)
   ·(intro _ h; (try dsimp only at h); go_simp; try with_reducible rfl)
   try simp only [qz]
   apply tkh 9 _ rfl (by kernel_rfl) rfl (by assumption)
   ·(intro _ h; (try dsimp only at h); go_simp; try with_reducible rfl)
   try simp only [qz]
   apply tkh 10 _ rfl (by kernel_rfl) rfl (by assumption)
   ·(intro _ h; (try dsimp only at h); go_simp; try with_reducible rfl)
   try simp only [qz]
   have L:=L2_01 _ D ta tn tc ra rn rc ⟨B2,trivial,⟨hD.1,hD.2.step b2⟩,trivial,FrV.made o1 hB.size (fun b hb => by have:=hD.2.lt; omega),FrV.made o2 hB.size (fun b hb => by have:=hD.2.lt; omega)⟩
   rw [← HR_.out,HA_.out] at L
   exact L
  refine AllReadyH.cons rfl (fun K hK => ?_) AllReadyH.nil
  ·go_simp
   obtain ⟨hB,hC,hD,hne⟩:=HF.out
   refine hK.out _ _ (HS.out _ (Below.al2 hB _)) (fun hHeld => ?_)
   clear hK K
   try simp only [qz]
   have L:=L0_11 _ W.heap.size D ⟨Below.al2 hB _,⟨hB.size,VarA.new _ _ _⟩,⟨hD.1,hD.2.alloc _⟩,(fun e => by have:=hD.2.lt; omega)⟩
   rw [← HR_.out,HA_.out] at L
   exact L
 have L0_00 : ∀ (W : World),Hid ((Below wr.heap.size wr W) ∧ (True) ∧ (True) ∧ (True)) → R 8 #[true,true,true,true,true,true,true,false,false,false,false,false,false,false,false] (A s61 s53 s62 s63 s7 s8) W:=by
  intro W HF
  rw [← HR_.out,HA_.out]
  dsimp only
  refine wpAnyH_ready (rs:=[7,11,12]) (by kernel_rfl) (by simp) ?_
  refine AllReadyH.cons rfl (fun K hK => ?_) ?_
  ·go_simp
   obtain ⟨hB,hC,hD,hne⟩:=HF.out
   refine Calls.mono (HS8.out _ _ _ W _ (HXR.out W hB).1 (HXR.out W hB).2.1 (HXR.out W hB).2.2 (fun b hb => hb)) ?_
   rintro e W2 ⟨ta,tn,tc,ra,rn,rc,rfl,o1,o2,b2⟩
   have B2:=hB.trans (b2.mono hB.size)
   dsimp only
   refine hK.out _ _ (HS.out _ B2) (fun hHeld => ?_)
   clear hK K
   try simp only [qz]
   apply tkh 8 _ rfl (by kernel_rfl) rfl (by assumption)
   ·(intro _ h; (try dsimp only at h); go_simp; try with_reducible rfl)
   try simp only [qz]
   apply tkh 9 _ rfl (by kernel_rfl) rfl (by assumption)
   ·(intro _ h; (try dsimp only at h); go_simp; try with_reducible rfl)
   try simp only [qz]
   apply tkh 10 _ rfl (by kernel_rfl) rfl (by assumption)
   ·(intro _ h; (try dsimp only at h); go_simp; try with_reducible rfl)
   try simp only [qz]
   have L:=L2_00 _ ta tn tc ra rn rc ⟨B2,trivial,trivial,trivial,FrV.made o1 hB.size (fun b hb => hb.elim),FrV.made o2 hB.size (fun b hb => hb.elim)⟩
   rw [← HR_.out,HA_.out] at L
   exact L
  refine AllReadyH.cons rfl (fun K hK => ?_) ?_
  ·go_simp
   obtain ⟨hB,hC,hD,hne⟩:=HF.out
   refine hK.out _ _ (HS.out _ (Below.al2 hB _)) (fun hHeld => ?_)
   clear hK K
   try simp only [qz]
   have L:=L0_10 _ W.heap.size ⟨Below.al2 hB _,⟨hB.size,VarA.new _ _ _⟩,trivial,trivial⟩
   rw [← HR_.out,HA_.out] at L
   exact L
  refine AllReadyH.cons rfl (fun K hK => ?_) AllReadyH.nil
  ·go_simp
   obtain ⟨hB,hC,hD,hne⟩:=HF.out
   refine hK.out _ _ (HS.out _ (Below.al2 hB _)) (fun hHeld => ?_)
   clear hK K
   try simp only [qz]
   have L:=L0_01 _ W.heap.size ⟨Below.al2 hB _,trivial,⟨hB.size,VarA.new _ _ _⟩,trivial⟩
   rw [← HR_.out,HA_.out] at L
   exact L
 exact L0_00 W0 ⟨HW0.out,trivial,trivial,trivial⟩
end Go.Proofs.YtblahkhniabhiaaGreatDoor
