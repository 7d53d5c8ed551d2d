/- The specification's dropping of an entry. Condition: at most 3,000 nodes, of at most 4,000 entries each; the entry's node is there. -/
import Derived.Test.YtblahkhniabhiaaGreatDoorFA01
import Derived.Test.YtblahkhniabhiaaGreatDoorFA05
namespace Go.Proofs.YtblahkhniabhiaaGreatDoor
open Go.RowKit
set_option linter.unusedVariables false
set_option linter.unusedSimpArgs false
set_option maxRecDepth 100000

theorem Turned.of2 {S : Nat → Prop} {w w1 w2 : World} {r : Nat} (b : Below w.heap.size w w1) (t : Turned (fun k => k = r) w1 w2) (hr : w.heap.size ≤ r) : Turned S w w2:=
 ⟨t.os.trans b.os,t.tape.trans b.tape,t.output.trans b.output,Nat.le_trans b.size t.size,fun k hk _ => (t.block k (Nat.lt_of_lt_of_le hk b.size) (fun e => by omega)).trans (b.block k hk)⟩
theorem Turned.trans2 {S : Nat → Prop} {w w1 w2 : World} {r : Nat} (b : Turned S w w1) (t : Turned (fun k => k = r) w1 w2) (hr : w.heap.size ≤ r) : Turned S w w2:=
 ⟨t.os.trans b.os,t.tape.trans b.tape,t.output.trans b.output,Nat.le_trans b.size t.size,fun k hk hs => (t.block k (Nat.lt_of_lt_of_le hk b.size) (fun e => by omega)).trans (b.block k hk hs)⟩
theorem Turned.own {w w' : World} {tb g n cap : Nat} (vT : VarA w tb 26 #[.slice (some ⟨g,0,none⟩) n cap]) (t : Turned (fun b => b = tb ∨ b = g) w w') : ∀ v',VarA w tb 26 #[v'] → Turned (fun b => b = tb ∨ v'.ownBlock = some b) w w':=fun v' hv => by
 have e:=hv.symm.trans vT
 simp only [Option.some.injEq,Obj.cells.injEq,Array.mk.injEq,List.cons.injEq,and_true] at e
 subst e
 exact t.wide (fun b h => h.imp id (fun e => by rw [e]; rfl))
theorem SG.fz {w : World} {lo cap n : Nat} {L : Nat → Prop} {l : List Nd} (g : Nat) (s : SG w lo L (.slice (some ⟨g,0,none⟩) n cap) l) {i : Nat} (hi : i < l.length) (j : Nat) : w.frozen? ⟨g,j,none⟩ = false:=by
 obtain ⟨g',c',hv,_,_,hf,_⟩:=s.head (by omega)
 simp only [Value.slice.injEq,Option.some.injEq,Addr.mk.injEq,and_true] at hv
 obtain ⟨rfl,-,-⟩:=hv
 exact hf j

set_option maxHeartbeats 4000000 in
theorem specDrop_any (tb lo d e : Nat) (h : Hd) (l : List Nd) (L : Nat → Prop) (w : World) (tv : TV w tb lo L l) (hLt : ¬ L tb) (hLn : ∀ b,w.heap.size ≤ b → L b) (hlo : lo ≤ w.heap.size) (sm : Small l) (hd : d < l.length) (he : e < (l[d]?.getD nd0).es.length) (hk : fi l h < l.length) (htbl : lo ≤ tb) :
  Calls Tryz.prog 58 #[.pointer (some ⟨tb,0,none⟩),.i d,.i e,h.v] w fun r w' => r = .returned (rpV ⟨(dropD l d e h).2,hd0,0,[]⟩ (.n0)) ∧ TV w' tb lo L (dropD l d e h).1 ∧ (∀ v',VarA w tb 26 #[v'] → Turned (fun b => b = tb ∨ v'.ownBlock = some b) w w'):=by
 obtain ⟨v,vT,s,hvt⟩:=tv
 obtain ⟨g,cap,rfl,hg1,hg2,hgf,hcap⟩:=s.head (by omega)
 obtain ⟨p,q,dd⟩:=h
 have htb:=vT.lt
 have hgt : g ≠ tb:=fun e => hvt (by rw [e]; rfl)
 have HVW : Hid (VarA w tb 26 #[.slice (some ⟨g,0,none⟩) l.length cap]):=vT
 have HFI : Hid (∀ W,Below w.heap.size w W → _):=fun W hW => specFind_any _ l (p,q,dd) _ W (RdV.step s.rd hW) (by have:=sm.1; omega)
 have hf2 : findH l (p,q,dd) = (fi l (p,q,dd) : Int):=by unfold findH; rw [if_pos hk]
 rw [hf2] at HFI
 obtain ⟨res,hres⟩ : ∃ r,dropD l d e (p,q,dd) = r:=⟨_,rfl⟩
 rw [hres]
 unfold dropD at hres
 generalize fi l (p,q,dd) = k at *
 have HRES : Hid _:=hres
 clear hf2 hres
 have hl:=sm.1
 have HEL : Hid (∀ i : Nat,(l[i]?.getD nd0).es.length ≤ 4000 ∧ 0 ≤ (l[i]?.getD nd0).links ∧ (l[i]?.getD nd0).links ≤ 2147483647):=sm.2
 clear sm
 have hki : (k : Int) < (l.length : Int):=by omega
 have hdi : (d : Int) < (l.length : Int):=by omega
 have sL : SG w lo (fun b => L b ∧ b ≠ w.heap.size ∧ b ≠ w.heap.size + 1) _ l:=s.mono (fun b hb h => ⟨h,by omega,by omega⟩)
 obtain ⟨L1,hL1⟩ : ∃ M : Nat → Prop,M = fun b => L b ∧ b ≠ w.heap.size ∧ b ≠ w.heap.size + 1:=⟨_,rfl⟩
 rw [← hL1] at sL
 have HL : Hid (L1 = fun b => L b ∧ b ≠ w.heap.size ∧ b ≠ w.heap.size + 1):=hL1
 clear hL1 s
 go_enter Tryz.func58,Tryz.ntmps58
 go_wp2
 obtain ⟨w0,hw0⟩ : ∃ W,W = (w.alloc (.cells #[.i p,.i q,.bool dd] 48)).alloc (.cells #[.i 0,.i 0,.i 0,.bool false,.i 0,.n0] 51):=⟨_,rfl⟩
 have B0 : Below w.heap.size w w0:=by rw [hw0]; exact Below.newH2 _ _
 have VH0 : VarA w0 w.heap.size 48 #[.i p,.i q,.bool dd]:=by rw [hw0]; exact (VarA.new w _ _).alloc _
 have VR0 : VarA w0 (w.heap.size + 1) 51 #[.i 0,.i 0,.i 0,.bool false,.i 0,.n0]:=by rw [hw0]; have:=VarA.new (w.alloc (.cells #[.i p,.i q,.bool dd] 48)) 51 #[.i 0,.i 0,.i 0,.bool false,.i 0,.n0]; simpa using this
 rw [← hw0]
 clear hw0
 have vT0:=vT.step B0
 haveI : Nonempty (Cls w0):=Cls.ne w0
 have kt:=Cls.cell vT0.lt vT0.l1
 have kh0:=Cls.cell VH0.lt VH0.l3.1
 have kh1:=Cls.cell VH0.lt VH0.l3.2.1
 have kh2:=Cls.cell VH0.lt VH0.l3.2.2
 have HF0 : Hid (∀ W,Below w0.heap.size w0 W → _):=fun W hW => HFI.out W (B0.trans (hW.mono B0.size))
 refine wp_region_cls (by kernel_rfl) (by kernel_rfl) ?_
 repeat (go_big_quiet_step (first | (go_at_call 33; exact Calls.cls (HF0.out _ (Cls.h _)))))
 refine wpQuiet_nil ?_
 rintro w1 ⟨⟨w1,hb1⟩,rfl⟩
 have B1 : Below w.heap.size w w1:=B0.trans (hb1.mono B0.size)
 have VH1:=VH0.step hb1
 have VR1:=VR0.step hb1
 have vT1:=vT.step B1
 have s1:=sL.step B1
 have z1:=B1.size
 have zR1:=VR1.lt
 clear kt kh0 kh1 kh2 HF0 HFI vT0 VH0 VR0 B0 hb1 this
 obtain ⟨xk,rk,ck⟩:=s1.at hk
 obtain ⟨xka,xkc,rfl,_⟩:=RdV.sliced rk
 have t0:=vT1.l1
 obtain ⟨a0,a1,a2⟩:=VH1.l3
 have ck8 : w1.cell? ⟨g,k * 9 + 8,none⟩ = some (.slice xka (l[k]?.getD nd0).es.length xkc):=ck 8 (by omega)
 have HV : Hid (VarA w1 (w.heap.size + 1) 51 #[.i 0,.i 0,.i 0,.bool false,.i 0,.n0]):=VR1
 have HB1 : Hid (Below w.heap.size w w1):=B1
 have HVT : Hid (VarA w1 tb 26 #[.slice (some ⟨g,0,none⟩) l.length cap]):=vT1
 have HS1 : Hid (SG w1 lo L1 (.slice (some ⟨g,0,none⟩) l.length cap) l):=s1
 clear rk ck s1 sL vT1 vT VR1 VH1 B1
 by_cases hne : dd = true ∧ 0 < (l[k]?.getD nd0).es.length
 ·obtain ⟨rfl,hpos⟩:=hne
  have HR2 : Hid (res = (l,7)):=by rw [← HRES.out]; show _ = _; rw [if_pos ⟨rfl,hpos⟩]
  have hpi : (0 : Int) < ((l[k]?.getD nd0).es.length : Int):=by omega
  clear HRES
  generalize (l[k]?.getD nd0).es.length = en at *
  go_wp2_with ((with_reducible refine gS 51 ?_); refine sF HV.out rfl rfl (by kernel_rfl) rfl rfl ?_; intro wz vR t_)
  refine bpR Tryz.results58 vR Tryz.underlying51 rfl rfl (by kernel_rfl) rfl ?_
  rw [HR2.out]
  exact ⟨rfl,⟨_,HVT.out.turn t_ (by show tb ≠ w.heap.size + 1; omega),(HS1.out.keep (t_.keeps (fun b hb e => by have e2 : b = w.heap.size + 1:=e; rcases hb.2 with h | h; exact (by rw [HL.out] at h; exact h.2.2 e2); (have e3 : g = b:=by simpa [Value.ownBlock] using h); omega))).mono (fun b _ h => by rw [HL.out] at h; exact h.1),hvt⟩,Turned.own HVW.out (Turned.of2 HB1.out t_ (by omega))⟩
 ·have HR2 : Hid _:=HRES.out.symm.trans (if_neg hne)
  have hw0 : dd = false ∨ (dd = true ∧ (l[k]?.getD nd0).es.length = 0):=by
   cases dd with
   | false => exact .inl rfl
   | true => exact .inr ⟨rfl,Nat.eq_zero_of_not_pos (fun h => hne ⟨rfl,h⟩)⟩
  clear HRES hne
  rcases hw0 with rfl | ⟨rfl,hpi⟩
  ·obtain ⟨xd,rd,cd⟩:=HS1.out.at hd
   obtain ⟨xda,xdc,rfl,_⟩:=RdV.sliced rd
   have cd8 : w1.cell? ⟨g,d * 9 + 8,none⟩ = some (.slice xda (l[d]?.getD nd0).es.length xdc):=cd 8 (by omega)
   have hzg : g < w1.heap.size:=by omega
   have HCUT : Hid _:=specCut_any g (d * 9) xda xdc _ e _ w1 cd8 (SG.fz g HS1.out hd _) rd (fun b hb => hb.2.1) (HEL.out d).1 he
   clear rd cd
   go_wp2_with fail
   refine Calls.mono HCUT.out ?_
   rintro r2 w3 ⟨rfl,W2,x2,hw3,b2,rx⟩
   have S3 : SG w3 lo L1 (.slice (some ⟨g,0,none⟩) l.length cap) (cutN l d e):=by rw [hw3]; exact SG.callE HS1.out (fun b hb => by rw [HL.out]; exact ⟨hLn b (by omega),by omega,by omega⟩) hd b2 hzg rx
   have HVT3 : Hid (VarA w3 tb 26 #[.slice (some ⟨g,0,none⟩) l.length cap]):=by rw [hw3]; exact (HVT.out.step b2).aside (p:=⟨g,d * 9 + 8,none⟩) (fun e => hgt e.symm) _
   have HV3 : Hid (VarA w3 (w.heap.size + 1) 51 #[.i 0,.i 0,.i 0,.bool false,.i 0,.n0]):=by rw [hw3]; exact (HV.out.step b2).aside (p:=⟨g,d * 9 + 8,none⟩) (by show w.heap.size + 1 ≠ g; omega) _
   have HT3 : Hid (Turned (fun b => b = tb ∨ b = g) w w3):=by rw [hw3]; exact Turned.set (Turned.ofBelow (HB1.out.trans (b2.mono z1))) ⟨g,d * 9 + 8,none⟩ _ (.inr rfl)
   have z3 : w1.heap.size ≤ w3.heap.size:=by rw [hw3]; have:=b2.size; simpa using this
   have hlc : (cutN l d e).length = l.length:=List.length_set
   have hk3 : k < (cutN l d e).length:=by rw [hlc]; exact hk
   have hlkb : -2147483647 ≤ ((cutN l d e)[k]?.getD nd0).links ∧ ((cutN l d e)[k]?.getD nd0).links ≤ 2147483647:=by
    unfold cutN
    by_cases hkd : k = d
    ·subst hkd; rw [List.getElem?_set_self hk]; have:=HEL.out k; exact ⟨by show _ ≤ (l[k]?.getD nd0).links; omega,this.2.2⟩
    ·rw [List.getElem?_set_ne (by omega)]; have:=HEL.out k; omega
   rw [← hlc] at S3
   obtain ⟨xk3,rk3,ck3⟩:=S3.at hk3
   have ck6 : w3.cell? ⟨g,k * 9 + 6,none⟩ = some (.i ((cutN l d e)[k]?.getD nd0).links):=ck3 6 (by omega)
   have fk6:=SG.fz g S3 hk3 (k * 9 + 6)
   have S4:=SG.setLk S3 hk3 (((cutN l d e)[k]?.getD nd0).links + -1)
   rw [hlc] at S4
   have HS4 : Hid (SG (w3.setCell ⟨g,k * 9 + 6,none⟩ (.i (((cutN l d e)[k]?.getD nd0).links + -1))) lo L1 (.slice (some ⟨g,0,none⟩) l.length cap) (lkN (cutN l d e) k (-1))):=S4
   have hlk4 : (lkN (cutN l d e) k (-1)).length = l.length:=by unfold lkN; rw [List.length_set,hlc]
   have HLK : Hid ((lkN (cutN l d e) k (-1)).length = l.length):=hlk4
   generalize lkN (cutN l d e) k (-1) = l4 at *
   have hwk : IntKind.i64.wrap (((cutN l d e)[k]?.getD nd0).links - 1) = ((cutN l d e)[k]?.getD nd0).links - 1:=wrapI _ (by omega) (by omega)
   have t3:=HVT3.out.l1
   rw [show ((cutN l d e)[k]?.getD nd0).links + -1 = ((cutN l d e)[k]?.getD nd0).links - 1 by omega] at HS4
   generalize ((cutN l d e)[k]?.getD nd0).links = lkk at *
   have t4 : (w3.setCell ⟨g,k * 9 + 6,none⟩ (.i (lkk - 1))).cell? ⟨tb,0,none⟩ = some (.slice (some ⟨g,0,none⟩) l.length cap):=(HVT3.out.aside (p:=⟨g,k * 9 + 6,none⟩) (fun e => hgt e.symm) _).l1
   obtain ⟨mm,hmm⟩ : ∃ m,lkk - 1 = m:=⟨_,rfl⟩
   rw [hmm] at HS4 t4 HR2
   replace hwk:=hwk.trans hmm
   clear hmm hlkb
   clear S3 S4 ck3 rk3 rx b2 hw3 HCUT hk3 hlc hlk4 a0 a1 a2 ck8 cd8
   by_cases hm : mm = 0
   ·subst hm
    have HR3 : Hid (res = (outN l4 k,0)):=by have:=HR2.out; rw [if_pos rfl] at this; exact this
    go_wp2_with fail
    obtain ⟨w4,hw4⟩ : ∃ W,W = w3.setCell ⟨g,k * 9 + 6,none⟩ (.i 0):=⟨_,rfl⟩
    have S4 : SG w4 lo L1 (.slice (some ⟨g,0,none⟩) l4.length cap) l4:=by rw [HLK.out,hw4]; exact HS4.out
    have vT4 : VarA w4 tb 26 #[.slice (some ⟨g,0,none⟩) l.length cap]:=by rw [hw4]; exact HVT3.out.aside (p:=⟨g,k * 9 + 6,none⟩) (fun e => hgt e.symm) _
    have HV4 : Hid (VarA w4 (w.heap.size + 1) 51 #[.i 0,.i 0,.i 0,.bool false,.i 0,.n0]):=by rw [hw4]; exact HV3.out.aside (p:=⟨g,k * 9 + 6,none⟩) (by show w.heap.size + 1 ≠ g; omega) _
    have HT4 : Hid (Turned (fun b => b = tb ∨ b = g) w w4):=by rw [hw4]; exact Turned.set HT3.out ⟨g,k * 9 + 6,none⟩ _ (.inr rfl)
    have z4 : w3.heap.size ≤ w4.heap.size:=by rw [hw4]; simp
    rw [← hw4]
    have hll:=HLK.out
    obtain ⟨VV,hV0,_,hV2⟩:=SG.lies S4
    have HC : Hid (∀ W,Below w4.heap.size w4 W → W.cell? ⟨tb,0,none⟩ = some (.slice (some ⟨g,0,none⟩) l.length cap)):=fun W hW => (vT4.step hW).l1
    have HVV : Hid (∀ W,Below w4.heap.size w4 W → VarA W tb 26 #[.slice (some ⟨g,0,none⟩) l.length cap]):=fun W hW => vT4.step hW
    have HV0 : Hid (∀ W,Below w4.heap.size w4 W → ∀ i,i < l4.length → RdV W (fun b => L1 b ∧ b < w4.heap.size) (VV i) (ensO (l4[i]?.getD nd0).es)):=fun W hW i hi => RdV.mono (fun b hb => ⟨hb.1,hb.2.1⟩) (RdV.step (hV0 i hi) hW)
    have HV2 : Hid (∀ W,Below w4.heap.size w4 W → ∀ k,k ≤ l4.length → LiesN W (some ⟨g,0,none⟩) cap (l4.take k) VV ∧ LiesN W (if cap = k then some ⟨g,0,none⟩ else (some (Addr.mk g 0 none)).map (·.add (k * 9))) (cap - k) (l4.drop k) (fun i => VV (k + i))):=fun W hW k hk => ⟨(hV2 k hk).1.step hW,(hV2 k hk).2.step hW⟩
    have htl : (l4.take k).length = k:=by rw [List.length_take]; omega
    have hdl : (l4.drop (k + 1)).length = l.length - (k + 1):=by rw [List.length_drop,hll]
    have hkc : k ≤ cap:=by omega
    have hwi : IntKind.i64.wrap ((k : Int) + 1) = (k : Int) + 1:=wrapI _ (by omega) (by omega)
    have hk1 : k + 1 ≤ l.length:=hk
    obtain ⟨ao,hao⟩ : ∃ a,a = (if cap = k + 1 then some (Addr.mk g 0 none) else (some (Addr.mk g 0 none)).map (·.add ((k + 1) * 9))):=⟨_,rfl⟩
    have hsl : ∀ W : World,(Instr.sliceAt 24 (.slice (some ⟨g,0,none⟩) l.length cap) (some (.i ((k + 1 : Nat) : Int))) none none).run Tryz.prog W = .ok (.slice ao (l.length - (k + 1)) (cap - (k + 1))) W:=fun W => by rw [hao]; exact sliceLN (some ⟨g,0,none⟩) l.length cap (k + 1) hk1 W
    have HSL : Hid _:=hsl
    have HLD : Hid (∀ W,Below w4.heap.size w4 W → LiesN W ao (cap - (k + 1)) (l4.drop (k + 1)) (fun i => VV (k + 1 + i))):=fun W hW => by rw [hao]; exact (HV2.out W hW (k + 1) (by omega)).2
    clear hao hsl
    clear hw4 hV0 hV2 S4 vT4 t3 t4 ck6 fk6 HS4 HVT3 HV3 HT3
    refine wp_region_noPanic ?_
    refine wp_region_Z (fun W => W.cell? ⟨tb,0,none⟩ = some (.slice (some ⟨g,0,none⟩) l.length cap)) 19 (by kernel_rfl) (HC.out _ (Below.drew (Below.refl w4.heap.size w4))) (fun hHeld => ?_)
    apply tkz 0 _ rfl (by kernel_rfl) rfl (by assumption)
    ·(intro _ h; (try dsimp only at h); go_simp; try with_reducible rfl)
    try simp only [qz]
    apply tkz 2 _ rfl (by kernel_rfl) rfl (by assumption)
    ·(intro _ h; (try dsimp only at h); go_simp; try with_reducible rfl)
    try simp only [qz]
    apply tkz 3 _ rfl (by kernel_rfl) rfl (by assumption)
    ·(intro _ h; (try dsimp only at h); go_simp; try with_reducible rfl)
    try simp only [qz]
    apply tkz 4 _ rfl (by kernel_rfl) rfl (by assumption)
    ·(intro _ h; (try dsimp only at h); go_simp; try with_reducible rfl)
    try simp only [qz]
    apply tkz 5 _ rfl (by kernel_rfl) rfl (by assumption)
    ·(intro _ h; (try dsimp only at h); go_simp; try with_reducible rfl)
    try simp only [qz]
    apply tkz 6 _ rfl (by kernel_rfl) rfl (by assumption)
    ·(intro _ h; (try dsimp only at h); go_simp; try with_reducible rfl)
    try simp only [qz]
    refine wpAnyZ_take (i:=7) (v:=(.slice (some ⟨g,0,none⟩) k cap)) rfl (by kernel_rfl) (by kernel_rfl) (by kernel_rfl) (by kernel_rfl) (fun _ _ _ h => h) (Or.inl ⟨by rfl,?_⟩) (by assumption) ?_
    ·(intro w_ hSw_; (try dsimp only at hSw_); exact exec_slH (u:=.slice (some ⟨g,0,none⟩) l.length cap) (z:=.i (k : Int)) (by rfl) (by rfl) (sliceHN (some ⟨g,0,none⟩) l.length cap k hkc w_))
    try simp only [qz]
    apply tkz 9 _ rfl (by kernel_rfl) rfl (by assumption)
    ·(intro _ h; (try dsimp only at h); go_simp; try with_reducible rfl)
    try simp only [qz]
    apply tkz 10 _ rfl (by kernel_rfl) rfl (by assumption)
    ·(intro _ h; (try dsimp only at h); go_simp; try with_reducible rfl)
    try simp only [qz]
    apply tkz 11 _ rfl (by kernel_rfl) rfl (by assumption)
    ·(intro _ h; (try dsimp only at h); go_simp; try with_reducible rfl)
    try simp only [qz]
    apply tkz 12 _ rfl (by kernel_rfl) rfl (by assumption)
    ·(intro _ h; (try dsimp only at h); go_simp; try with_reducible rfl)
    try simp only [qz]
    apply tkz 13 _ rfl (by kernel_rfl) rfl (by assumption)
    ·(intro _ h; (try dsimp only at h); go_simp; try with_reducible rfl)
    try simp only [qz]
    apply tkz 14 _ rfl (by kernel_rfl) rfl (by assumption)
    ·(intro _ h; (try dsimp only at h); go_simp; try with_reducible rfl)
    try simp only [qz]
    refine wpAnyZ_take (i:=15) (v:=(.slice ao (l.length - (k + 1)) (cap - (k + 1)))) rfl (by kernel_rfl) (by kernel_rfl) (by kernel_rfl) (by kernel_rfl) (fun _ _ _ h => h) (Or.inl ⟨by rfl,?_⟩) (by assumption) ?_
    ·(intro w_ hSw_; (try dsimp only at hSw_); exact exec_slL (u:=.slice (some ⟨g,0,none⟩) l.length cap) (z:=.i ((k + 1 : Nat) : Int)) (by rfl) (by rfl) (HSL.out w_))
    try simp only [qz]
    refine wpAnyZ_one (i:=1) (by kernel_rfl) rfl (fun K hK => ?_)
    go_simp
    have b1 : Below w4.heap.size w4 (w4.drew.alloc (.cells #[] 77)):=Below.alloc (Below.drew (Below.refl w4.heap.size w4)) (Nat.le_refl _) _
    refine hK.out _ _ (HC.out _ b1) (fun hHeld => ?_)
    clear hK K
    try simp only [qz]
    refine wpAnyZ_one (i:=8) (by kernel_rfl) rfl (fun K hK => ?_)
    refine step_appN (w4.drew.alloc (.cells #[] 77)) rfl (.tmp 59) (.tmp 65) (by rfl) (.slice (some ⟨w4.heap.size,0,none⟩) 0 0) (by rfl) [] (l4.take k) w4.heap.size cap (some ⟨g,0,none⟩) (by rw [htl]; rfl) VV (HV2.out _ b1 k (by omega)).1 ?_ (SG.empty L1 w4.drew w4.heap.size (Nat.le_refl _)) (by simp) (by rw [htl]; simp; omega) ?_
    ·intro j hj
     rw [getD_take _ _ _ _ hj]
     rw [htl] at hj
     exact RdV.mono (fun b hb => ⟨hb.1,by have:=hb.2; simp; omega,fun e => by have:=hb.2; have e2 : w4.heap.size = b:=(by simpa [Value.ownBlock] using e); omega⟩) (HV0.out _ b1 j (by omega))
    intro v2 w5 se2 hg5 hgg5
    rw [List.nil_append] at se2
    have b2 : Below w4.heap.size w4 w5:=Below.grown b1 hg5 (by simp) (fun q hq => by have e2 : w4.heap.size = q:=(by simpa [Value.ownBlock] using hq); omega)
    obtain ⟨a2,c2,rfl⟩:=se2.shapeN htl
    refine hK.out _ _ (HC.out _ b2) (fun hHeld => ?_)
    clear hK K
    try simp only [qz]
    refine wpAnyZ_one (i:=16) (by kernel_rfl) rfl (fun K hK => ?_)
    have hb2:=se2.lt
    have s2:=b2.size
    refine step_appN w5 rfl (.tmp 66) (.tmp 73) (by rfl) (.slice a2 k c2) (by rfl) (l4.take k) (l4.drop (k + 1)) w4.heap.size (cap - (k + 1)) ao (by rw [hdl]; rfl) (fun j => VV (k + 1 + j)) (HLD.out _ b2) ?_ se2 s2 (by rw [htl,hdl]; omega) ?_
    ·intro j hj
     rw [getD_drop]
     rw [hdl] at hj
     exact RdV.mono (fun b hb => ⟨hb.1,by have:=hb.2; omega,fun e => by have:=hb.2; have:=hb2 b e; omega⟩) (HV0.out _ b2 (k + 1 + j) (by omega))
    intro v3 w6 se3 hg6 hgg6
    have b3 : Below w4.heap.size w4 w6:=Below.grown b2 hg6 s2 (fun q hq => (hb2 q hq).1)
    obtain ⟨n3,hn3⟩ : ∃ n,(l4.take k ++ l4.drop (k + 1)).length = n:=⟨_,rfl⟩
    obtain ⟨a3,c3,rfl⟩:=se3.shapeN hn3
    clear hn3
    refine hK.out _ _ (HC.out _ b3) (fun hHeld => ?_)
    clear hK K
    try simp only [qz]
    refine wpAnyZ_one (i:=17) (by kernel_rfl) rfl (fun K hK => ?_)
    go_simp
    refine hK.out _ _ (by assumption) (fun hHeld => ?_)
    clear hK K
    try simp only [qz]
    apply tkz 18 _ rfl (by kernel_rfl) rfl (by assumption)
    ·(intro _ h; (try dsimp only at h); go_simp; try with_reducible rfl)
    try simp only [qz]
    refine wpAnyZ_last (by kernel_rfl) rfl (fun K hK => ?_)
    have fz:=(HVV.out _ b3).f 0
    have c83:=HC.out _ b3
    go_simp
    refine hK.out _ _ ?_
    clear hK K
    try simp only [qz]
    refine wpAnyZ_done (by kernel_rfl) (NoPanic.normal ?_) _
    have z6:=b3.size
    have HB6 : Hid (Below w4.heap.size w4 w6):=b3
    have HS6 : Hid (SG w6 w4.heap.size L1 (.slice a3 n3 c3) (outN l4 k)):=se3
    have HVR : Hid (VarA (w6.setCell ⟨tb,0,none⟩ (.slice a3 n3 c3)) (w.heap.size + 1) 51 #[.i 0,.i 0,.i 0,.bool false,.i 0,.n0]):=(HV4.out.step b3).aside (p:=⟨tb,0,none⟩) (by show w.heap.size + 1 ≠ tb; omega) _
    have hb6:=HS6.out.lt
    clear se3 b1 b2 b3 hHeld hg5 hg6 hgg5 hgg6 se2 c83 fz
    go_wp2_with ((with_reducible refine gS 51 ?_); refine sF HVR.out rfl rfl (by kernel_rfl) rfl rfl ?_; intro wz vR t_)
    refine bpR Tryz.results58 vR Tryz.underlying51 rfl rfl (by kernel_rfl) rfl ?_
    rw [HR3.out]
    exact ⟨rfl,⟨_,((HVV.out _ HB6.out).set 0 _).turn t_ (by show tb ≠ w.heap.size + 1; omega),(((HS6.out.keep ⟨by simp,fun b hb _ => heap_setCell_other _ _ _ _ (fun e => by have e2 : b = tb:=e; subst e2; exact hb.2.elim (fun h => by rw [HL.out] at h; exact hLt h.1) (fun h => by have:=(hb6 _ h).1; omega))⟩).keep (t_.keeps (fun b hb e => by have e2 : b = w.heap.size + 1:=e; exact hb.2.elim (fun h => by rw [HL.out] at h; exact h.2.2 e2) (fun h => by have:=(hb6 _ h).1; omega)))).mono (fun b _ h => by rw [HL.out] at h; exact h.1)).low (by omega),fun e => by have:=(hb6 _ e).1; omega⟩,Turned.own HVW.out (((HT4.out.andThen HB6.out).set ⟨tb,0,none⟩ _ (.inl rfl)).trans2 t_ (by omega))⟩
   ·have HR3 : Hid (res = (l4,0)):=by have:=HR2.out; rw [if_neg hm] at this; exact this
    have HV4 : Hid (VarA (w3.setCell ⟨g,k * 9 + 6,none⟩ (.i mm)) (w.heap.size + 1) 51 #[.i 0,.i 0,.i 0,.bool false,.i 0,.n0]):=HV3.out.aside (p:=⟨g,k * 9 + 6,none⟩) (by show w.heap.size + 1 ≠ g; omega) _
    go_wp2_with ((with_reducible refine gS 51 ?_); refine sF HV4.out rfl rfl (by kernel_rfl) rfl rfl ?_; intro wz vR t_)
    refine bpR Tryz.results58 vR Tryz.underlying51 rfl rfl (by kernel_rfl) rfl ?_
    rw [HR3.out]
    exact ⟨rfl,⟨_,(HVT3.out.aside (p:=⟨g,k * 9 + 6,none⟩) (fun e => hgt e.symm) _).turn t_ (by show tb ≠ w.heap.size + 1; omega),(HS4.out.keep (t_.keeps (fun b hb e => by have e2 : b = w.heap.size + 1:=e; rcases hb.2 with h | h; exact (by rw [HL.out] at h; exact h.2.2 e2); (have e3 : g = b:=by simpa [Value.ownBlock] using h); omega))).mono (fun b _ h => by rw [HL.out] at h; exact h.1),hvt⟩,Turned.own HVW.out ((Turned.set HT3.out ⟨g,k * 9 + 6,none⟩ _ (.inr rfl)).trans2 t_ (by omega))⟩
  ·rw [hpi] at ck8
   obtain ⟨xd,rd,cd⟩:=HS1.out.at hd
   obtain ⟨xda,xdc,rfl,_⟩:=RdV.sliced rd
   have cd8 : w1.cell? ⟨g,d * 9 + 8,none⟩ = some (.slice xda (l[d]?.getD nd0).es.length xdc):=cd 8 (by omega)
   have hzg : g < w1.heap.size:=by omega
   have HCUT : Hid _:=specCut_any g (d * 9) xda xdc _ e _ w1 cd8 (SG.fz g HS1.out hd _) rd (fun b hb => hb.2.1) (HEL.out d).1 he
   clear rd cd
   go_wp2_with fail
   refine Calls.mono HCUT.out ?_
   rintro r2 w3 ⟨rfl,W2,x2,hw3,b2,rx⟩
   have S3 : SG w3 lo L1 (.slice (some ⟨g,0,none⟩) l.length cap) (cutN l d e):=by rw [hw3]; exact SG.callE HS1.out (fun b hb => by rw [HL.out]; exact ⟨hLn b (by omega),by omega,by omega⟩) hd b2 hzg rx
   have HVT3 : Hid (VarA w3 tb 26 #[.slice (some ⟨g,0,none⟩) l.length cap]):=by rw [hw3]; exact (HVT.out.step b2).aside (p:=⟨g,d * 9 + 8,none⟩) (fun e => hgt e.symm) _
   have HV3 : Hid (VarA w3 (w.heap.size + 1) 51 #[.i 0,.i 0,.i 0,.bool false,.i 0,.n0]):=by rw [hw3]; exact (HV.out.step b2).aside (p:=⟨g,d * 9 + 8,none⟩) (by show w.heap.size + 1 ≠ g; omega) _
   have HT3 : Hid (Turned (fun b => b = tb ∨ b = g) w w3):=by rw [hw3]; exact Turned.set (Turned.ofBelow (HB1.out.trans (b2.mono z1))) ⟨g,d * 9 + 8,none⟩ _ (.inr rfl)
   have z3 : w1.heap.size ≤ w3.heap.size:=by rw [hw3]; have:=b2.size; simpa using this
   have hlc : (cutN l d e).length = l.length:=List.length_set
   have hk3 : k < (cutN l d e).length:=by rw [hlc]; exact hk
   have hlkb : -2147483647 ≤ ((cutN l d e)[k]?.getD nd0).links ∧ ((cutN l d e)[k]?.getD nd0).links ≤ 2147483647:=by
    unfold cutN
    by_cases hkd : k = d
    ·subst hkd; rw [List.getElem?_set_self hk]; have:=HEL.out k; exact ⟨by show _ ≤ (l[k]?.getD nd0).links; omega,this.2.2⟩
    ·rw [List.getElem?_set_ne (by omega)]; have:=HEL.out k; omega
   rw [← hlc] at S3
   obtain ⟨xk3,rk3,ck3⟩:=S3.at hk3
   have ck6 : w3.cell? ⟨g,k * 9 + 6,none⟩ = some (.i ((cutN l d e)[k]?.getD nd0).links):=ck3 6 (by omega)
   have fk6:=SG.fz g S3 hk3 (k * 9 + 6)
   have S4:=SG.setLk S3 hk3 (((cutN l d e)[k]?.getD nd0).links + -1)
   rw [hlc] at S4
   have HS4 : Hid (SG (w3.setCell ⟨g,k * 9 + 6,none⟩ (.i (((cutN l d e)[k]?.getD nd0).links + -1))) lo L1 (.slice (some ⟨g,0,none⟩) l.length cap) (lkN (cutN l d e) k (-1))):=S4
   have hlk4 : (lkN (cutN l d e) k (-1)).length = l.length:=by unfold lkN; rw [List.length_set,hlc]
   have HLK : Hid ((lkN (cutN l d e) k (-1)).length = l.length):=hlk4
   generalize lkN (cutN l d e) k (-1) = l4 at *
   have hwk : IntKind.i64.wrap (((cutN l d e)[k]?.getD nd0).links - 1) = ((cutN l d e)[k]?.getD nd0).links - 1:=wrapI _ (by omega) (by omega)
   have t3:=HVT3.out.l1
   rw [show ((cutN l d e)[k]?.getD nd0).links + -1 = ((cutN l d e)[k]?.getD nd0).links - 1 by omega] at HS4
   generalize ((cutN l d e)[k]?.getD nd0).links = lkk at *
   have t4 : (w3.setCell ⟨g,k * 9 + 6,none⟩ (.i (lkk - 1))).cell? ⟨tb,0,none⟩ = some (.slice (some ⟨g,0,none⟩) l.length cap):=(HVT3.out.aside (p:=⟨g,k * 9 + 6,none⟩) (fun e => hgt e.symm) _).l1
   obtain ⟨mm,hmm⟩ : ∃ m,lkk - 1 = m:=⟨_,rfl⟩
   rw [hmm] at HS4 t4 HR2
   replace hwk:=hwk.trans hmm
   clear hmm hlkb
   clear S3 S4 ck3 rk3 rx b2 hw3 HCUT hk3 hlc hlk4 a0 a1 a2 ck8 cd8
   by_cases hm : mm = 0
   ·subst hm
    have HR3 : Hid (res = (outN l4 k,0)):=by have:=HR2.out; rw [if_pos rfl] at this; exact this
    go_wp2_with fail
    obtain ⟨w4,hw4⟩ : ∃ W,W = w3.setCell ⟨g,k * 9 + 6,none⟩ (.i 0):=⟨_,rfl⟩
    have S4 : SG w4 lo L1 (.slice (some ⟨g,0,none⟩) l4.length cap) l4:=by rw [HLK.out,hw4]; exact HS4.out
    have vT4 : VarA w4 tb 26 #[.slice (some ⟨g,0,none⟩) l.length cap]:=by rw [hw4]; exact HVT3.out.aside (p:=⟨g,k * 9 + 6,none⟩) (fun e => hgt e.symm) _
    have HV4 : Hid (VarA w4 (w.heap.size + 1) 51 #[.i 0,.i 0,.i 0,.bool false,.i 0,.n0]):=by rw [hw4]; exact HV3.out.aside (p:=⟨g,k * 9 + 6,none⟩) (by show w.heap.size + 1 ≠ g; omega) _
    have HT4 : Hid (Turned (fun b => b = tb ∨ b = g) w w4):=by rw [hw4]; exact Turned.set HT3.out ⟨g,k * 9 + 6,none⟩ _ (.inr rfl)
    have z4 : w3.heap.size ≤ w4.heap.size:=by rw [hw4]; simp
    rw [← hw4]
    have hll:=HLK.out
    obtain ⟨VV,hV0,_,hV2⟩:=SG.lies S4
    have HC : Hid (∀ W,Below w4.heap.size w4 W → W.cell? ⟨tb,0,none⟩ = some (.slice (some ⟨g,0,none⟩) l.length cap)):=fun W hW => (vT4.step hW).l1
    have HVV : Hid (∀ W,Below w4.heap.size w4 W → VarA W tb 26 #[.slice (some ⟨g,0,none⟩) l.length cap]):=fun W hW => vT4.step hW
    have HV0 : Hid (∀ W,Below w4.heap.size w4 W → ∀ i,i < l4.length → RdV W (fun b => L1 b ∧ b < w4.heap.size) (VV i) (ensO (l4[i]?.getD nd0).es)):=fun W hW i hi => RdV.mono (fun b hb => ⟨hb.1,hb.2.1⟩) (RdV.step (hV0 i hi) hW)
    have HV2 : Hid (∀ W,Below w4.heap.size w4 W → ∀ k,k ≤ l4.length → LiesN W (some ⟨g,0,none⟩) cap (l4.take k) VV ∧ LiesN W (if cap = k then some ⟨g,0,none⟩ else (some (Addr.mk g 0 none)).map (·.add (k * 9))) (cap - k) (l4.drop k) (fun i => VV (k + i))):=fun W hW k hk => ⟨(hV2 k hk).1.step hW,(hV2 k hk).2.step hW⟩
    have htl : (l4.take k).length = k:=by rw [List.length_take]; omega
    have hdl : (l4.drop (k + 1)).length = l.length - (k + 1):=by rw [List.length_drop,hll]
    have hkc : k ≤ cap:=by omega
    have hwi : IntKind.i64.wrap ((k : Int) + 1) = (k : Int) + 1:=wrapI _ (by omega) (by omega)
    have hk1 : k + 1 ≤ l.length:=hk
    obtain ⟨ao,hao⟩ : ∃ a,a = (if cap = k + 1 then some (Addr.mk g 0 none) else (some (Addr.mk g 0 none)).map (·.add ((k + 1) * 9))):=⟨_,rfl⟩
    have hsl : ∀ W : World,(Instr.sliceAt 24 (.slice (some ⟨g,0,none⟩) l.length cap) (some (.i ((k + 1 : Nat) : Int))) none none).run Tryz.prog W = .ok (.slice ao (l.length - (k + 1)) (cap - (k + 1))) W:=fun W => by rw [hao]; exact sliceLN (some ⟨g,0,none⟩) l.length cap (k + 1) hk1 W
    have HSL : Hid _:=hsl
    have HLD : Hid (∀ W,Below w4.heap.size w4 W → LiesN W ao (cap - (k + 1)) (l4.drop (k + 1)) (fun i => VV (k + 1 + i))):=fun W hW => by rw [hao]; exact (HV2.out W hW (k + 1) (by omega)).2
    clear hao hsl
    clear hw4 hV0 hV2 S4 vT4 t3 t4 ck6 fk6 HS4 HVT3 HV3 HT3
    refine wp_region_noPanic ?_
    refine wp_region_Z (fun W => W.cell? ⟨tb,0,none⟩ = some (.slice (some ⟨g,0,none⟩) l.length cap)) 19 (by kernel_rfl) (HC.out _ (Below.drew (Below.refl w4.heap.size w4))) (fun hHeld => ?_)
    apply tkz 0 _ rfl (by kernel_rfl) rfl (by assumption)
    ·(intro _ h; (try dsimp only at h); go_simp; try with_reducible rfl)
    try simp only [qz]
    apply tkz 2 _ rfl (by kernel_rfl) rfl (by assumption)
    ·(intro _ h; (try dsimp only at h); go_simp; try with_reducible rfl)
    try simp only [qz]
    apply tkz 3 _ rfl (by kernel_rfl) rfl (by assumption)
    ·(intro _ h; (try dsimp only at h); go_simp; try with_reducible rfl)
    try simp only [qz]
    apply tkz 4 _ rfl (by kernel_rfl) rfl (by assumption)
    ·(intro _ h; (try dsimp only at h); go_simp; try with_reducible rfl)
    try simp only [qz]
    apply tkz 5 _ rfl (by kernel_rfl) rfl (by assumption)
    ·(intro _ h; (try dsimp only at h); go_simp; try with_reducible rfl)
    try simp only [qz]
    apply tkz 6 _ rfl (by kernel_rfl) rfl (by assumption)
    ·(intro _ h; (try dsimp only at h); go_simp; try with_reducible rfl)
    try simp only [qz]
    refine wpAnyZ_take (i:=7) (v:=(.slice (some ⟨g,0,none⟩) k cap)) rfl (by kernel_rfl) (by kernel_rfl) (by kernel_rfl) (by kernel_rfl) (fun _ _ _ h => h) (Or.inl ⟨by rfl,?_⟩) (by assumption) ?_
    ·(intro w_ hSw_; (try dsimp only at hSw_); exact exec_slH (u:=.slice (some ⟨g,0,none⟩) l.length cap) (z:=.i (k : Int)) (by rfl) (by rfl) (sliceHN (some ⟨g,0,none⟩) l.length cap k hkc w_))
    try simp only [qz]
    apply tkz 9 _ rfl (by kernel_rfl) rfl (by assumption)
    ·(intro _ h; (try dsimp only at h); go_simp; try with_reducible rfl)
    try simp only [qz]
    apply tkz 10 _ rfl (by kernel_rfl) rfl (by assumption)
    ·(intro _ h; (try dsimp only at h); go_simp; try with_reducible rfl)
    try simp only [qz]
    apply tkz 11 _ rfl (by kernel_rfl) rfl (by assumption)
    ·(intro _ h; (try dsimp only at h); go_simp; try with_reducible rfl)
    try simp only [qz]
    apply tkz 12 _ rfl (by kernel_rfl) rfl (by assumption)
    ·(intro _ h; (try dsimp only at h); go_simp; try with_reducible rfl)
    try simp only [qz]
    apply tkz 13 _ rfl (by kernel_rfl) rfl (by assumption)
    ·(intro _ h; (try dsimp only at h); go_simp; try with_reducible rfl)
    try simp only [qz]
    apply tkz 14 _ rfl (by kernel_rfl) rfl (by assumption)
    ·(intro _ h; (try dsimp only at h); go_simp; try with_reducible rfl)
    try simp only [qz]
    refine wpAnyZ_take (i:=15) (v:=(.slice ao (l.length - (k + 1)) (cap - (k + 1)))) rfl (by kernel_rfl) (by kernel_rfl) (by kernel_rfl) (by kernel_rfl) (fun _ _ _ h => h) (Or.inl ⟨by rfl,?_⟩) (by assumption) ?_
    ·(intro w_ hSw_; (try dsimp only at hSw_); exact exec_slL (u:=.slice (some ⟨g,0,none⟩) l.length cap) (z:=.i ((k + 1 : Nat) : Int)) (by rfl) (by rfl) (HSL.out w_))
    try simp only [qz]
    refine wpAnyZ_one (i:=1) (by kernel_rfl) rfl (fun K hK => ?_)
    go_simp
    have b1 : Below w4.heap.size w4 (w4.drew.alloc (.cells #[] 77)):=Below.alloc (Below.drew (Below.refl w4.heap.size w4)) (Nat.le_refl _) _
    refine hK.out _ _ (HC.out _ b1) (fun hHeld => ?_)
    clear hK K
    try simp only [qz]
    refine wpAnyZ_one (i:=8) (by kernel_rfl) rfl (fun K hK => ?_)
    refine step_appN (w4.drew.alloc (.cells #[] 77)) rfl (.tmp 59) (.tmp 65) (by rfl) (.slice (some ⟨w4.heap.size,0,none⟩) 0 0) (by rfl) [] (l4.take k) w4.heap.size cap (some ⟨g,0,none⟩) (by rw [htl]; rfl) VV (HV2.out _ b1 k (by omega)).1 ?_ (SG.empty L1 w4.drew w4.heap.size (Nat.le_refl _)) (by simp) (by rw [htl]; simp; omega) ?_
    ·intro j hj
     rw [getD_take _ _ _ _ hj]
     rw [htl] at hj
     exact RdV.mono (fun b hb => ⟨hb.1,by have:=hb.2; simp; omega,fun e => by have:=hb.2; have e2 : w4.heap.size = b:=(by simpa [Value.ownBlock] using e); omega⟩) (HV0.out _ b1 j (by omega))
    intro v2 w5 se2 hg5 hgg5
    rw [List.nil_append] at se2
    have b2 : Below w4.heap.size w4 w5:=Below.grown b1 hg5 (by simp) (fun q hq => by have e2 : w4.heap.size = q:=(by simpa [Value.ownBlock] using hq); omega)
    obtain ⟨a2,c2,rfl⟩:=se2.shapeN htl
    refine hK.out _ _ (HC.out _ b2) (fun hHeld => ?_)
    clear hK K
    try simp only [qz]
    refine wpAnyZ_one (i:=16) (by kernel_rfl) rfl (fun K hK => ?_)
    have hb2:=se2.lt
    have s2:=b2.size
    refine step_appN w5 rfl (.tmp 66) (.tmp 73) (by rfl) (.slice a2 k c2) (by rfl) (l4.take k) (l4.drop (k + 1)) w4.heap.size (cap - (k + 1)) ao (by rw [hdl]; rfl) (fun j => VV (k + 1 + j)) (HLD.out _ b2) ?_ se2 s2 (by rw [htl,hdl]; omega) ?_
    ·intro j hj
     rw [getD_drop]
     rw [hdl] at hj
     exact RdV.mono (fun b hb => ⟨hb.1,by have:=hb.2; omega,fun e => by have:=hb.2; have:=hb2 b e; omega⟩) (HV0.out _ b2 (k + 1 + j) (by omega))
    intro v3 w6 se3 hg6 hgg6
    have b3 : Below w4.heap.size w4 w6:=Below.grown b2 hg6 s2 (fun q hq => (hb2 q hq).1)
    obtain ⟨n3,hn3⟩ : ∃ n,(l4.take k ++ l4.drop (k + 1)).length = n:=⟨_,rfl⟩
    obtain ⟨a3,c3,rfl⟩:=se3.shapeN hn3
    clear hn3
    refine hK.out _ _ (HC.out _ b3) (fun hHeld => ?_)
    clear hK K
    try simp only [qz]
    refine wpAnyZ_one (i:=17) (by kernel_rfl) rfl (fun K hK => ?_)
    go_simp
    refine hK.out _ _ (by assumption) (fun hHeld => ?_)
    clear hK K
    try simp only [qz]
    apply tkz 18 _ rfl (by kernel_rfl) rfl (by assumption)
    ·(intro _ h; (try dsimp only at h); go_simp; try with_reducible rfl)
    try simp only [qz]
    refine wpAnyZ_last (by kernel_rfl) rfl (fun K hK => ?_)
    have fz:=(HVV.out _ b3).f 0
    have c83:=HC.out _ b3
    go_simp
    refine hK.out _ _ ?_
    clear hK K
    try simp only [qz]
    refine wpAnyZ_done (by kernel_rfl) (NoPanic.normal ?_) _
    have z6:=b3.size
    have HB6 : Hid (Below w4.heap.size w4 w6):=b3
    have HS6 : Hid (SG w6 w4.heap.size L1 (.slice a3 n3 c3) (outN l4 k)):=se3
    have HVR : Hid (VarA (w6.setCell ⟨tb,0,none⟩ (.slice a3 n3 c3)) (w.heap.size + 1) 51 #[.i 0,.i 0,.i 0,.bool false,.i 0,.n0]):=(HV4.out.step b3).aside (p:=⟨tb,0,none⟩) (by show w.heap.size + 1 ≠ tb; omega) _
    have hb6:=HS6.out.lt
    clear se3 b1 b2 b3 hHeld hg5 hg6 hgg5 hgg6 se2 c83 fz
    go_wp2_with ((with_reducible refine gS 51 ?_); refine sF HVR.out rfl rfl (by kernel_rfl) rfl rfl ?_; intro wz vR t_)
    refine bpR Tryz.results58 vR Tryz.underlying51 rfl rfl (by kernel_rfl) rfl ?_
    rw [HR3.out]
    exact ⟨rfl,⟨_,((HVV.out _ HB6.out).set 0 _).turn t_ (by show tb ≠ w.heap.size + 1; omega),(((HS6.out.keep ⟨by simp,fun b hb _ => heap_setCell_other _ _ _ _ (fun e => by have e2 : b = tb:=e; subst e2; exact hb.2.elim (fun h => by rw [HL.out] at h; exact hLt h.1) (fun h => by have:=(hb6 _ h).1; omega))⟩).keep (t_.keeps (fun b hb e => by have e2 : b = w.heap.size + 1:=e; exact hb.2.elim (fun h => by rw [HL.out] at h; exact h.2.2 e2) (fun h => by have:=(hb6 _ h).1; omega)))).mono (fun b _ h => by rw [HL.out] at h; exact h.1)).low (by omega),fun e => by have:=(hb6 _ e).1; omega⟩,Turned.own HVW.out (((HT4.out.andThen HB6.out).set ⟨tb,0,none⟩ _ (.inl rfl)).trans2 t_ (by omega))⟩
   ·have HR3 : Hid (res = (l4,0)):=by have:=HR2.out; rw [if_neg hm] at this; exact this
    have HV4 : Hid (VarA (w3.setCell ⟨g,k * 9 + 6,none⟩ (.i mm)) (w.heap.size + 1) 51 #[.i 0,.i 0,.i 0,.bool false,.i 0,.n0]):=HV3.out.aside (p:=⟨g,k * 9 + 6,none⟩) (by show w.heap.size + 1 ≠ g; omega) _
    go_wp2_with ((with_reducible refine gS 51 ?_); refine sF HV4.out rfl rfl (by kernel_rfl) rfl rfl ?_; intro wz vR t_)
    refine bpR Tryz.results58 vR Tryz.underlying51 rfl rfl (by kernel_rfl) rfl ?_
    rw [HR3.out]
    exact ⟨rfl,⟨_,(HVT3.out.aside (p:=⟨g,k * 9 + 6,none⟩) (fun e => hgt e.symm) _).turn t_ (by show tb ≠ w.heap.size + 1; omega),(HS4.out.keep (t_.keeps (fun b hb e => by have e2 : b = w.heap.size + 1:=e; rcases hb.2 with h | h; exact (by rw [HL.out] at h; exact h.2.2 e2); (have e3 : g = b:=by simpa [Value.ownBlock] using h); omega))).mono (fun b _ h => by rw [HL.out] at h; exact h.1),hvt⟩,Turned.own HVW.out ((Turned.set HT3.out ⟨g,k * 9 + 6,none⟩ _ (.inr rfl)).trans2 t_ (by omega))⟩
end Go.Proofs.YtblahkhniabhiaaGreatDoor
