/- Lists of deeds, marked by the verifier's helpers. Condition: no more than 2^21 of all, marks of at most 2^40. -/
import Derived.Test.YtblahkhniabhiaaGreatDoorFA01
import Derived.Test.YtblahkhniabhiaaGreatDoorFA02
namespace Go.Proofs.YtblahkhniabhiaaGreatDoor
open Go.RowKit
set_option linter.unusedVariables false
set_option linter.unusedSimpArgs false
set_option maxRecDepth 100000

theorem mkDeed_row0 {w : World} {S : Nat → Prop} {g n cap j s : Nat} {F : Nat → Nat → Dt} (o : OwV w S (.slice (some ⟨g,0,none⟩) n cap) (.rows 55 19 n F)) (hj : j < n) (W : World) (hW : (((((((w.setCell ⟨g,j * 19,none⟩ (.i (((s : Nat)) : Int))).setCell ⟨g,j * 19 + 1,none⟩ (.i (((s + 1 : Nat)) : Int))).setCell ⟨g,j * 19 + 2,none⟩ (.i (((s + 2 : Nat)) : Int))).setCell ⟨g,j * 19 + 3,none⟩ (.i (((s + 3 : Nat)) : Int))).setCell ⟨g,j * 19 + 4,none⟩ (.i (((s + 4 : Nat)) : Int))).setCell ⟨g,j * 19 + 5,none⟩ (.i (((s + 5 : Nat)) : Int))).setCell ⟨g,j * 19 + 6,none⟩ (.bool (m3 (s + 6)))) = W) :
  ∃ (Q : Nat → Prop) (x : Value),w.cell? ⟨g,j * 19 + 7,none⟩ = some x ∧ OwV W Q x (F j 7) ∧ (∀ b,Q b → S b ∧ b ≠ g) ∧ Turned S w W ∧
   ∀ w2 d,Turned Q W w2 → OwV w2 Q x d → ∃ F',OwV w2 S (.slice (some ⟨g,0,none⟩) n cap) (.rows 55 19 n F') ∧ (∀ i q,i ≠ j → F' i q = F i q) ∧ ∀ q,7 < q → F' j q = F j q:=by
 obtain ⟨hbad,_⟩ | ⟨g',cp,hg,hSg,hgl,hfz,hcs⟩:=OwV.head o
 ·cases hbad
 simp only [Value.slice.injEq,Option.some.injEq,Addr.mk.injEq,and_true,true_and] at hg
 obtain ⟨rfl,rfl⟩:=hg
 have ht : Turned S w (((((((w.setCell ⟨g,j * 19,none⟩ (.i (((s : Nat)) : Int))).setCell ⟨g,j * 19 + 1,none⟩ (.i (((s + 1 : Nat)) : Int))).setCell ⟨g,j * 19 + 2,none⟩ (.i (((s + 2 : Nat)) : Int))).setCell ⟨g,j * 19 + 3,none⟩ (.i (((s + 3 : Nat)) : Int))).setCell ⟨g,j * 19 + 4,none⟩ (.i (((s + 4 : Nat)) : Int))).setCell ⟨g,j * 19 + 5,none⟩ (.i (((s + 5 : Nat)) : Int))).setCell ⟨g,j * 19 + 6,none⟩ (.bool (m3 (s + 6)))):=(Turned.refl S w) |>.set _ _ hSg |>.set _ _ hSg |>.set _ _ hSg |>.set _ _ hSg |>.set _ _ hSg |>.set _ _ hSg |>.set _ _ hSg
 have p8 : OwV (((((((w.setCell ⟨g,j * 19,none⟩ (.i (((s : Nat)) : Int))).setCell ⟨g,j * 19 + 1,none⟩ (.i (((s + 1 : Nat)) : Int))).setCell ⟨g,j * 19 + 2,none⟩ (.i (((s + 2 : Nat)) : Int))).setCell ⟨g,j * 19 + 3,none⟩ (.i (((s + 3 : Nat)) : Int))).setCell ⟨g,j * 19 + 4,none⟩ (.i (((s + 4 : Nat)) : Int))).setCell ⟨g,j * 19 + 5,none⟩ (.i (((s + 5 : Nat)) : Int))).setCell ⟨g,j * 19 + 6,none⟩ (.bool (m3 (s + 6)))) S (.slice (some ⟨g,0,none⟩) n cap) _:=(OwV.putB (OwV.putI (OwV.putI (OwV.putI (OwV.putI (OwV.putI (OwV.putI o 0 hj (by omega) _) 1 hj (by omega) _) 2 hj (by omega) _) 3 hj (by omega) _) 4 hj (by omega) _) 5 hj (by omega) _) 6 hj (by omega) _)
 have hc0 : (((((((w.setCell ⟨g,j * 19,none⟩ (.i (((s : Nat)) : Int))).setCell ⟨g,j * 19 + 1,none⟩ (.i (((s + 1 : Nat)) : Int))).setCell ⟨g,j * 19 + 2,none⟩ (.i (((s + 2 : Nat)) : Int))).setCell ⟨g,j * 19 + 3,none⟩ (.i (((s + 3 : Nat)) : Int))).setCell ⟨g,j * 19 + 4,none⟩ (.i (((s + 4 : Nat)) : Int))).setCell ⟨g,j * 19 + 5,none⟩ (.i (((s + 5 : Nat)) : Int))).setCell ⟨g,j * 19 + 6,none⟩ (.bool (m3 (s + 6)))).cell? ⟨g,j * 19 + 7,none⟩ = w.cell? ⟨g,j * 19 + 7,none⟩:=by simp [go_sem]
 rw [hW] at hc0 ht p8
 obtain ⟨Q,x,g2,cp2,hv,hc,hox,hQ,hback⟩:=OwV.sub p8 hj (j:=7) (by omega)
 simp only [Value.slice.injEq,Option.some.injEq,Addr.mk.injEq,and_true,true_and] at hv
 obtain ⟨rfl,rfl⟩:=hv
 refine ⟨Q,x,hc0.symm.trans hc,?_,hQ,ht,fun w2 d t2 o2 => ⟨_,hback w2 d t2 o2,fun i q hi => ?_,fun q hq => ?_⟩⟩
 ·simpa [upd] using hox
 ·simp [upd,hi]
 ·simp [upd,(show q ≠ 0 by omega),(show q ≠ 1 by omega),(show q ≠ 2 by omega),(show q ≠ 3 by omega),(show q ≠ 4 by omega),(show q ≠ 5 by omega),(show q ≠ 6 by omega),(show q ≠ 7 by omega)]
theorem mkDeed_row1 {w : World} {S : Nat → Prop} {g n cap j s : Nat} {F : Nat → Nat → Dt} (o : OwV w S (.slice (some ⟨g,0,none⟩) n cap) (.rows 55 19 n F)) (hj : j < n) (W : World) (hW : (((w.setCell ⟨g,j * 19 + 8,none⟩ (.i (((s : Nat)) : Int))).setCell ⟨g,j * 19 + 9,none⟩ (.i (((s + 1 : Nat)) : Int))).setCell ⟨g,j * 19 + 10,none⟩ (.bool (m3 (s + 2)))) = W) :
  ∃ (Q : Nat → Prop) (x : Value),w.cell? ⟨g,j * 19 + 11,none⟩ = some x ∧ OwV W Q x (F j 11) ∧ (∀ b,Q b → S b ∧ b ≠ g) ∧ Turned S w W ∧
   ∀ w2 d,Turned Q W w2 → OwV w2 Q x d → ∃ F',OwV w2 S (.slice (some ⟨g,0,none⟩) n cap) (.rows 55 19 n F') ∧ (∀ i q,i ≠ j → F' i q = F i q) ∧ ∀ q,11 < q → F' j q = F j q:=by
 obtain ⟨hbad,_⟩ | ⟨g',cp,hg,hSg,hgl,hfz,hcs⟩:=OwV.head o
 ·cases hbad
 simp only [Value.slice.injEq,Option.some.injEq,Addr.mk.injEq,and_true,true_and] at hg
 obtain ⟨rfl,rfl⟩:=hg
 have ht : Turned S w (((w.setCell ⟨g,j * 19 + 8,none⟩ (.i (((s : Nat)) : Int))).setCell ⟨g,j * 19 + 9,none⟩ (.i (((s + 1 : Nat)) : Int))).setCell ⟨g,j * 19 + 10,none⟩ (.bool (m3 (s + 2)))):=(Turned.refl S w) |>.set _ _ hSg |>.set _ _ hSg |>.set _ _ hSg
 have p8 : OwV (((w.setCell ⟨g,j * 19 + 8,none⟩ (.i (((s : Nat)) : Int))).setCell ⟨g,j * 19 + 9,none⟩ (.i (((s + 1 : Nat)) : Int))).setCell ⟨g,j * 19 + 10,none⟩ (.bool (m3 (s + 2)))) S (.slice (some ⟨g,0,none⟩) n cap) _:=(OwV.putB (OwV.putI (OwV.putI o 8 hj (by omega) _) 9 hj (by omega) _) 10 hj (by omega) _)
 have hc0 : (((w.setCell ⟨g,j * 19 + 8,none⟩ (.i (((s : Nat)) : Int))).setCell ⟨g,j * 19 + 9,none⟩ (.i (((s + 1 : Nat)) : Int))).setCell ⟨g,j * 19 + 10,none⟩ (.bool (m3 (s + 2)))).cell? ⟨g,j * 19 + 11,none⟩ = w.cell? ⟨g,j * 19 + 11,none⟩:=by simp [go_sem]
 rw [hW] at hc0 ht p8
 obtain ⟨Q,x,g2,cp2,hv,hc,hox,hQ,hback⟩:=OwV.sub p8 hj (j:=11) (by omega)
 simp only [Value.slice.injEq,Option.some.injEq,Addr.mk.injEq,and_true,true_and] at hv
 obtain ⟨rfl,rfl⟩:=hv
 refine ⟨Q,x,hc0.symm.trans hc,?_,hQ,ht,fun w2 d t2 o2 => ⟨_,hback w2 d t2 o2,fun i q hi => ?_,fun q hq => ?_⟩⟩
 ·simpa [upd] using hox
 ·simp [upd,hi]
 ·simp [upd,(show q ≠ 8 by omega),(show q ≠ 9 by omega),(show q ≠ 10 by omega),(show q ≠ 11 by omega)]
theorem mkDeed_row2 {w : World} {S : Nat → Prop} {g n cap j s : Nat} {F : Nat → Nat → Dt} (o : OwV w S (.slice (some ⟨g,0,none⟩) n cap) (.rows 55 19 n F)) (hj : j < n) (W : World) (hW : ((((((w.setCell ⟨g,j * 19 + 12,none⟩ (.i (((s : Nat)) : Int))).setCell ⟨g,j * 19 + 13,none⟩ (.i (((s + 1 : Nat)) : Int))).setCell ⟨g,j * 19 + 14,none⟩ (.i (((s + 2 : Nat)) : Int))).setCell ⟨g,j * 19 + 15,none⟩ (.i (((s + 3 : Nat)) : Int))).setCell ⟨g,j * 19 + 16,none⟩ (.bool (m3 (s + 4)))).setCell ⟨g,j * 19 + 17,none⟩ (.i (((s + 5 : Nat)) : Int))) = W) :
  ∃ (Q : Nat → Prop) (x : Value),w.cell? ⟨g,j * 19 + 18,none⟩ = some x ∧ OwV W Q x (F j 18) ∧ (∀ b,Q b → S b ∧ b ≠ g) ∧ Turned S w W ∧
   ∀ w2 d,Turned Q W w2 → OwV w2 Q x d → ∃ F',OwV w2 S (.slice (some ⟨g,0,none⟩) n cap) (.rows 55 19 n F') ∧ (∀ i q,i ≠ j → F' i q = F i q) ∧ ∀ q,18 < q → F' j q = F j q:=by
 obtain ⟨hbad,_⟩ | ⟨g',cp,hg,hSg,hgl,hfz,hcs⟩:=OwV.head o
 ·cases hbad
 simp only [Value.slice.injEq,Option.some.injEq,Addr.mk.injEq,and_true,true_and] at hg
 obtain ⟨rfl,rfl⟩:=hg
 have ht : Turned S w ((((((w.setCell ⟨g,j * 19 + 12,none⟩ (.i (((s : Nat)) : Int))).setCell ⟨g,j * 19 + 13,none⟩ (.i (((s + 1 : Nat)) : Int))).setCell ⟨g,j * 19 + 14,none⟩ (.i (((s + 2 : Nat)) : Int))).setCell ⟨g,j * 19 + 15,none⟩ (.i (((s + 3 : Nat)) : Int))).setCell ⟨g,j * 19 + 16,none⟩ (.bool (m3 (s + 4)))).setCell ⟨g,j * 19 + 17,none⟩ (.i (((s + 5 : Nat)) : Int))):=(Turned.refl S w) |>.set _ _ hSg |>.set _ _ hSg |>.set _ _ hSg |>.set _ _ hSg |>.set _ _ hSg |>.set _ _ hSg
 have p8 : OwV ((((((w.setCell ⟨g,j * 19 + 12,none⟩ (.i (((s : Nat)) : Int))).setCell ⟨g,j * 19 + 13,none⟩ (.i (((s + 1 : Nat)) : Int))).setCell ⟨g,j * 19 + 14,none⟩ (.i (((s + 2 : Nat)) : Int))).setCell ⟨g,j * 19 + 15,none⟩ (.i (((s + 3 : Nat)) : Int))).setCell ⟨g,j * 19 + 16,none⟩ (.bool (m3 (s + 4)))).setCell ⟨g,j * 19 + 17,none⟩ (.i (((s + 5 : Nat)) : Int))) S (.slice (some ⟨g,0,none⟩) n cap) _:=(OwV.putI (OwV.putB (OwV.putI (OwV.putI (OwV.putI (OwV.putI o 12 hj (by omega) _) 13 hj (by omega) _) 14 hj (by omega) _) 15 hj (by omega) _) 16 hj (by omega) _) 17 hj (by omega) _)
 have hc0 : ((((((w.setCell ⟨g,j * 19 + 12,none⟩ (.i (((s : Nat)) : Int))).setCell ⟨g,j * 19 + 13,none⟩ (.i (((s + 1 : Nat)) : Int))).setCell ⟨g,j * 19 + 14,none⟩ (.i (((s + 2 : Nat)) : Int))).setCell ⟨g,j * 19 + 15,none⟩ (.i (((s + 3 : Nat)) : Int))).setCell ⟨g,j * 19 + 16,none⟩ (.bool (m3 (s + 4)))).setCell ⟨g,j * 19 + 17,none⟩ (.i (((s + 5 : Nat)) : Int))).cell? ⟨g,j * 19 + 18,none⟩ = w.cell? ⟨g,j * 19 + 18,none⟩:=by simp [go_sem]
 rw [hW] at hc0 ht p8
 obtain ⟨Q,x,g2,cp2,hv,hc,hox,hQ,hback⟩:=OwV.sub p8 hj (j:=18) (by omega)
 simp only [Value.slice.injEq,Option.some.injEq,Addr.mk.injEq,and_true,true_and] at hv
 obtain ⟨rfl,rfl⟩:=hv
 refine ⟨Q,x,hc0.symm.trans hc,?_,hQ,ht,fun w2 d t2 o2 => ⟨_,hback w2 d t2 o2,fun i q hi => ?_,fun q hq => ?_⟩⟩
 ·simpa [upd] using hox
 ·simp [upd,hi]
 ·simp [upd,(show q ≠ 12 by omega),(show q ≠ 13 by omega),(show q ≠ 14 by omega),(show q ≠ 15 by omega),(show q ≠ 16 by omega),(show q ≠ 17 by omega),(show q ≠ 18 by omega)]
set_option maxHeartbeats 8000000 in
theorem markDeedS_m (v : Value) (l : List DdD) (k : Nat) (S : Nat → Prop) (w : World) (o : OwV w S v (ddsDt l)) (hl : szDds l ≤ 2097152) (hk : k + 16 * szDds l ≤ 1099511627776) : Calls Tryz.prog 10 #[v,.i k] w (MkP w S v (k + 16 * szDds l)):=by
 obtain ⟨a,cap,rfl,_⟩:=RdV.sliced o.rd
 have HO : Hid (OwV w S (.slice a l.length cap) (.rows 55 19 l.length (fun i j => ddCell (l[i]?.getD dd0) j))):=o
 have HX : Hid (szDds l = l.length + psum (fun e : DdD => szDd e) l l.length):=by show _ = _; rw [psum_all]; rfl
 have HU : Hid (∀ j,j < l.length → psum (fun e : DdD => szDd e) l (j + 1) = psum (fun e : DdD => szDd e) l j + (fun e : DdD => szDd e) (l[j]?.getD dd0) ∧ psum (fun e : DdD => szDd e) l (j + 1) ≤ psum (fun e : DdD => szDd e) l l.length):=fun j hj => ⟨psum_next _ l _ j hj,by rw [psum_all]; exact psum_le _ l _⟩
 have HZ0 : Hid (psum (fun e : DdD => szDd e) l 0 = 0):=psum_zero _ _
 have HSA : Hid (∀ j,(fun e : DdD => szDd e) (l[j]?.getD dd0) ≤ 2097152):=fun j => by have h1:=szDds_at l j; dsimp only; omega
 rw [HX.out] at hk ⊢
 generalize psum (fun e : DdD => szDd e) l = P at HU HZ0 HX hk ⊢
 have hnn : l.length ≤ 2097152:=by have:=HX.out; omega
 clear o hl HX
 generalize l.length = n at *
 go_enter Tryz.func10,Tryz.ntmps10
 go_wp2
 go_loopw [1,5] (fun q i wr => ∃ j s : Nat,j ≤ n ∧ i = .i j ∧ q = .i s ∧ Hid (s ≤ k + 16 * (j + P j)) ∧ Hid (∃ F,(∀ i q,j ≤ i → F i q = ddCell (l[i]?.getD dd0) q) ∧ OwV wr S (.slice a n cap) (.rows 55 19 n F)) ∧ Hid (Turned S w wr)) (fun _ i _ => n - (intOf i).toNat)
 case atStart => exact ⟨0,k,Nat.zero_le _,rfl,rfl,by show _ ≤ _; omega,⟨_,fun _ _ _ => rfl,HO.out⟩,Turned.refl _ _⟩
 case round =>
  clear HO
  obtain ⟨j,s,hj,rfl,rfl,HS,HO,HT⟩:=hrel
  by_cases hlt : j < n
  ·obtain ⟨F,hF,ho⟩:=HO.out
   have HFF : Hid (∀ i q,j ≤ i → F i q = ddCell (l[i]?.getD dd0) q):=hF
   have hFj : ∀ q,F j q = ddCell (l[j]?.getD dd0) q:=fun q => hF j q (Nat.le_refl _)
   obtain ⟨hu1,hu2⟩:=HU.out j hlt
   have hsa:=HSA.out j
   obtain ⟨e,he⟩ : ∃ e,l[j]?.getD dd0 = e:=⟨_,rfl⟩
   rw [he] at hu1 hFj hsa
   clear he
   obtain ⟨at_,cl,rq,⟨ok,⟨op_,oq,od⟩,nm,⟨tp,tq,td⟩,asn,ov⟩,⟨rc,⟨rp_,rq_,rd⟩,rv,es⟩⟩:=e
   unfold szDd at hu1 hsa
   try dsimp only at hu1 hsa
   have hs1:=HS.out
   obtain ⟨hbad,_⟩ | ⟨g,cp,hg,hSg,hgl,hfz,hcs⟩:=OwV.head ho
   ·simp only [Value.slice.injEq] at hbad; omega
   simp only [Value.slice.injEq,true_and] at hg
   obtain ⟨rfl,rfl⟩:=hg
   have HFJ : Hid _:=hFj
   have HSG : Hid (S g):=hSg
   have hf1 : ∀ i q,i ≠ j → F i q = F i q:=fun _ _ _ => rfl
   have hg1 : ∀ q,F j q = F j q:=fun _ => rfl
   clear HO hF hFj hSg
   generalize hm1 : nm.length = m1 at hu1 hsa
   generalize hm2 : asn.length = m2 at hu1 hsa
   generalize hm3 : szEns es = m3_ at hu1 hsa
   have HM : Hid (nm.length = m1 ∧ asn.length = m2 ∧ szEns es = m3_):=⟨hm1,hm2,hm3⟩
   clear hm1 hm2 hm3
   obtain ⟨y0,c0⟩:=hcs (j * 19) (by omega)
   obtain ⟨y1,c1⟩:=hcs (j * 19 + 1) (by omega)
   obtain ⟨y2,c2⟩:=hcs (j * 19 + 2) (by omega)
   obtain ⟨y3,c3⟩:=hcs (j * 19 + 3) (by omega)
   obtain ⟨y4,c4⟩:=hcs (j * 19 + 4) (by omega)
   obtain ⟨y5,c5⟩:=hcs (j * 19 + 5) (by omega)
   obtain ⟨y6,c6⟩:=hcs (j * 19 + 6) (by omega)
   obtain ⟨W,hW⟩ : ∃ W,(((((((wr.setCell ⟨g,j * 19,none⟩ (.i (((s : Nat)) : Int))).setCell ⟨g,j * 19 + 1,none⟩ (.i (((s + 1 : Nat)) : Int))).setCell ⟨g,j * 19 + 2,none⟩ (.i (((s + 2 : Nat)) : Int))).setCell ⟨g,j * 19 + 3,none⟩ (.i (((s + 3 : Nat)) : Int))).setCell ⟨g,j * 19 + 4,none⟩ (.i (((s + 4 : Nat)) : Int))).setCell ⟨g,j * 19 + 5,none⟩ (.i (((s + 5 : Nat)) : Int))).setCell ⟨g,j * 19 + 6,none⟩ (.bool (m3 (s + 6)))) = W:=⟨_,rfl⟩
   obtain ⟨Q,x,hcx,hox,hQ,hts,hback⟩:=mkDeed_row0 ho hlt W hW
   rw [hg1,HFJ.out] at hox
   have hox2 : OwV W Q x (.bytes nm):=hox
   have HXX : Hid (Calls Tryz.prog 22 #[x,.i ((s + 7 : Nat) : Int)] W (MkP W Q x (s + 7 + m1))):=by have hm:=HM.out; have h:=markB_m x nm (s + 7) Q W hox2 (by omega) (by omega); rw [hm.1] at h; exact h
   obtain ⟨xa,xc,rfl⟩:=RdV.sliceB (OwV.rd hox2)
   have HBK : Hid (∀ w2 d,Turned Q W w2 → OwV w2 Q _ d → ∃ F',OwV w2 S (.slice (some ⟨g,0,none⟩) n cap) (.rows 55 19 n F') ∧ (∀ i q,i ≠ j → F' i q = F i q) ∧ ∀ q,7 < q → F' j q = F j q):=fun w2 d t o => by obtain ⟨F',o',p',q'⟩:=hback w2 d t o; exact ⟨F',o',fun i q hi => (p' i q hi).trans (hf1 i q hi),fun q hq => (q' q hq).trans (hg1 q)⟩
   have HQ : Hid _:=hQ
   have HWW : Hid _:=hW
   have HTS : Hid _:=HT.out.trans hts
   clear hback hQ hox hox2 ho hW hts hcs hf1 hg1 HT
   rw [← HWW.out] at HXX
   generalize nm.length = xn at HXX hcx HBK
   go_wp2_with fail
   refine Calls.mono HXX.out ?_
   rintro e w2 ⟨k2,rfl,hk2,⟨d2,o2⟩,t2⟩
   rw [HWW.out] at t2
   obtain ⟨F2,of2,hf2,hg2⟩:=HBK.out w2 d2 t2 o2
   have HT2 : Hid (Turned S w w2):=HTS.out.trans (t2.wide (fun b hb => (HQ.out b hb).1))
   clear HBK HQ HTS t2 o2 HXX HWW hcx hgl hfz c0 c1 c2 c3 c4 c5 c6
   obtain ⟨hbad,_⟩ | ⟨g2,cp2,hg,_,hgl,hfz,hcs⟩:=OwV.head of2
   ·cases hbad
   simp only [Value.slice.injEq,Option.some.injEq,Addr.mk.injEq,and_true,true_and] at hg
   obtain ⟨rfl,rfl⟩:=hg
   obtain ⟨y8,c8⟩:=hcs (j * 19 + 8) (by omega)
   obtain ⟨y9,c9⟩:=hcs (j * 19 + 9) (by omega)
   obtain ⟨y10,c10⟩:=hcs (j * 19 + 10) (by omega)
   obtain ⟨W,hW⟩ : ∃ W,(((w2.setCell ⟨g,j * 19 + 8,none⟩ (.i (((k2 : Nat)) : Int))).setCell ⟨g,j * 19 + 9,none⟩ (.i (((k2 + 1 : Nat)) : Int))).setCell ⟨g,j * 19 + 10,none⟩ (.bool (m3 (k2 + 2)))) = W:=⟨_,rfl⟩
   obtain ⟨Q,x,hcx,hox,hQ,hts,hback⟩:=mkDeed_row1 of2 hlt W hW
   rw [hg2 11 (by omega),HFJ.out] at hox
   have hox2 : OwV W Q x (.bytes asn):=hox
   have HXX : Hid (Calls Tryz.prog 22 #[x,.i ((k2 + 3 : Nat) : Int)] W (MkP W Q x (k2 + 3 + m2))):=by have hm:=HM.out; have h:=markB_m x asn (k2 + 3) Q W hox2 (by omega) (by omega); rw [hm.2.1] at h; exact h
   obtain ⟨xa,xc,rfl⟩:=RdV.sliceB (OwV.rd hox2)
   have HBK : Hid (∀ w2 d,Turned Q W w2 → OwV w2 Q _ d → ∃ F',OwV w2 S (.slice (some ⟨g,0,none⟩) n cap) (.rows 55 19 n F') ∧ (∀ i q,i ≠ j → F' i q = F i q) ∧ ∀ q,11 < q → F' j q = F j q):=fun w2 d t o => by obtain ⟨F',o',p',q'⟩:=hback w2 d t o; exact ⟨F',o',fun i q hi => (p' i q hi).trans (hf2 i q hi),fun q hq => (q' q hq).trans (hg2 q (by omega))⟩
   have HQ : Hid _:=hQ
   have HWW : Hid _:=hW
   have HTS : Hid _:=HT2.out.trans hts
   clear hback hQ hox hox2 of2 hW hts hcs hf2 hg2 HT2
   rw [← HWW.out] at HXX
   generalize asn.length = xn at HXX hcx HBK
   go_wp2_with fail
   refine Calls.mono HXX.out ?_
   rintro e w3 ⟨k3,rfl,hk3,⟨d2,o2⟩,t2⟩
   rw [HWW.out] at t2
   obtain ⟨F3,of3,hf3,hg3⟩:=HBK.out w3 d2 t2 o2
   have HT3 : Hid (Turned S w w3):=HTS.out.trans (t2.wide (fun b hb => (HQ.out b hb).1))
   clear HBK HQ HTS t2 o2 HXX HWW hcx hgl hfz c8 c9 c10
   obtain ⟨hbad,_⟩ | ⟨g2,cp2,hg,_,hgl,hfz,hcs⟩:=OwV.head of3
   ·cases hbad
   simp only [Value.slice.injEq,Option.some.injEq,Addr.mk.injEq,and_true,true_and] at hg
   obtain ⟨rfl,rfl⟩:=hg
   obtain ⟨y12,c12⟩:=hcs (j * 19 + 12) (by omega)
   obtain ⟨y13,c13⟩:=hcs (j * 19 + 13) (by omega)
   obtain ⟨y14,c14⟩:=hcs (j * 19 + 14) (by omega)
   obtain ⟨y15,c15⟩:=hcs (j * 19 + 15) (by omega)
   obtain ⟨y16,c16⟩:=hcs (j * 19 + 16) (by omega)
   obtain ⟨y17,c17⟩:=hcs (j * 19 + 17) (by omega)
   obtain ⟨W,hW⟩ : ∃ W,((((((w3.setCell ⟨g,j * 19 + 12,none⟩ (.i (((k3 : Nat)) : Int))).setCell ⟨g,j * 19 + 13,none⟩ (.i (((k3 + 1 : Nat)) : Int))).setCell ⟨g,j * 19 + 14,none⟩ (.i (((k3 + 2 : Nat)) : Int))).setCell ⟨g,j * 19 + 15,none⟩ (.i (((k3 + 3 : Nat)) : Int))).setCell ⟨g,j * 19 + 16,none⟩ (.bool (m3 (k3 + 4)))).setCell ⟨g,j * 19 + 17,none⟩ (.i (((k3 + 5 : Nat)) : Int))) = W:=⟨_,rfl⟩
   obtain ⟨Q,x,hcx,hox,hQ,hts,hback⟩:=mkDeed_row2 of3 hlt W hW
   rw [hg3 18 (by omega),HFJ.out] at hox
   have hox2 : OwV W Q x (ensDt es):=hox
   have HXX : Hid (Calls Tryz.prog 23 #[x,.i ((k3 + 6 : Nat) : Int)] W (MkP W Q x (k3 + 6 + 4 * m3_))):=by have hm:=HM.out; have h:=markE_m x es (k3 + 6) Q W hox2 (by omega) (by omega); rw [hm.2.2] at h; exact h
   obtain ⟨xa,xc,rfl,_⟩:=RdV.sliced (OwV.rd hox2)
   have HBK : Hid (∀ w2 d,Turned Q W w2 → OwV w2 Q _ d → ∃ F',OwV w2 S (.slice (some ⟨g,0,none⟩) n cap) (.rows 55 19 n F') ∧ (∀ i q,i ≠ j → F' i q = F i q) ∧ ∀ q,18 < q → F' j q = F j q):=fun w2 d t o => by obtain ⟨F',o',p',q'⟩:=hback w2 d t o; exact ⟨F',o',fun i q hi => (p' i q hi).trans (hf3 i q hi),fun q hq => (q' q hq).trans (hg3 q (by omega))⟩
   have HQ : Hid _:=hQ
   have HWW : Hid _:=hW
   have HTS : Hid _:=HT3.out.trans hts
   clear hback hQ hox hox2 of3 hW hts hcs hf3 hg3 HT3
   rw [← HWW.out] at HXX
   generalize es.length = xn at HXX hcx HBK
   go_wp2_with fail
   refine Calls.mono HXX.out ?_
   rintro e w4 ⟨k4,rfl,hk4,⟨d2,o2⟩,t2⟩
   rw [HWW.out] at t2
   obtain ⟨F4,of4,hf4,hg4⟩:=HBK.out w4 d2 t2 o2
   have HT4 : Hid (Turned S w w4):=HTS.out.trans (t2.wide (fun b hb => (HQ.out b hb).1))
   clear HBK HQ HTS t2 o2 HXX HWW hcx hgl hfz c12 c13 c14 c15 c16 c17
   have HOF : Hid _:=of4
   have HLF : Hid _:=hf4
   clear of4 hf4 hg4
   go_wp2
   go_roundw
   case rel => exact ⟨j + 1,k4,by omega,by go_num,by first | rfl | go_num | (congr 1; omega),by show _ ≤ _; rw [hu1]; omega,⟨_,fun i q hi => by rw [HLF.out i q (by omega)]; exact HFF.out i q (by omega),HOF.out⟩,HT4.out⟩
   case measure => simp [intOf]; omega
  ·have hjn : j = n:=by omega
   subst hjn
   go_wp2
   go_ret
   obtain ⟨F,_,ho⟩:=HO.out
   exact ⟨s,rfl,HS.out,⟨_,ho⟩,HT.out⟩
end Go.Proofs.YtblahkhniabhiaaGreatDoor
