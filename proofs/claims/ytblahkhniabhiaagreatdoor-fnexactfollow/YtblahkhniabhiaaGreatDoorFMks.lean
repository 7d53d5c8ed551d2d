/- Entries, nodes and trees, marked and looked at by the verifier's helpers. Condition: no more than 2^21 of all, marks of at most 2^40. -/
import Derived.Test.YtblahkhniabhiaaGreatDoorFA01
namespace Go.Proofs.YtblahkhniabhiaaGreatDoor
open Go.RowKit
set_option linter.unusedVariables false
set_option linter.unusedSimpArgs false

def m3 (q : Nat) : Bool:=((q : Int) % 3 == 0)
theorem m3_not {q : Nat} {z : Int} (h : z = (q : Int)) : (!m3 q == (z % 3 == 0)) = false:=by subst h; simp [m3]
def lenEn (e : En) : Nat:=e.nm.length + 3
def mkEn (e : En) (k : Nat) : En:=⟨marks e.nm.length k,((((k + e.nm.length : Nat)) : Int),(((k + e.nm.length + 1 : Nat)) : Int),m3 (k + e.nm.length + 2))⟩
def mkEns (l : List En) (k : Nat) : List En:=(List.range l.length).map (fun i => mkEn (l[i]?.getD en0) (k + psum lenEn l i))
def lenEns (l : List En) : Nat:=psum lenEn l l.length
def lenNd (n : Nd) : Nat:=8 + lenEns n.es
def mkNd (n : Nd) (k : Nat) : Nd:=⟨((k : Int),((k + 1 : Nat) : Int),m3 (k + 2)),(((k + 3 : Nat) : Int),((k + 4 : Nat) : Int),m3 (k + 5)),((k + 6 : Nat) : Int),((k + 7 : Nat) : Int),mkEns n.es (k + 8)⟩
def mkNds (l : List Nd) (k : Nat) : List Nd:=(List.range l.length).map (fun i => mkNd (l[i]?.getD nd0) (k + psum lenNd l i))
def lenNds (l : List Nd) : Nat:=psum lenNd l l.length
theorem mkEns_length (l : List En) (k : Nat) : (mkEns l k).length = l.length:=by simp [mkEns]
theorem mkEns_at (l : List En) (k i : Nat) (h : i < l.length) : (mkEns l k)[i]?.getD en0 = mkEn (l[i]?.getD en0) (k + psum lenEn l i):=by simp [mkEns,h]
theorem mkNds_length (l : List Nd) (k : Nat) : (mkNds l k).length = l.length:=by simp [mkNds]
theorem mkNds_at (l : List Nd) (k i : Nat) (h : i < l.length) : (mkNds l k)[i]?.getD nd0 = mkNd (l[i]?.getD nd0) (k + psum lenNd l i):=by simp [mkNds,h]
theorem psum_mono {α : Type} (f g : α → Nat) (c : Nat) (h : ∀ a,f a ≤ g a + c) (l : List α) : (l.map f).sum ≤ (l.map g).sum + c * l.length:=by
 induction l with
 | nil => simp
 | cons x r ih => have:=h x; simp [Nat.mul_add]; omega
theorem lenEns_le (l : List En) : lenEns l ≤ 4 * szEns l:=by
 have:=psum_mono lenEn (fun e => e.nm.length) 3 (fun a => by unfold lenEn; omega) l
 unfold lenEns szEns
 rw [psum_all]
 omega
theorem sum_mul {α : Type} (f : α → Nat) (c : Nat) (l : List α) : (l.map (fun a => c * f a)).sum = c * (l.map f).sum:=by
 induction l with
 | nil => simp
 | cons x r ih => simp [ih,Nat.mul_add]
theorem lenNds_le (l : List Nd) : lenNds l ≤ 8 * szNds l:=by
 have h1:=psum_mono lenNd (fun n => 4 * szEns n.es) 8 (fun a => by have:=lenEns_le a.es; unfold lenNd; omega) l
 have h2 : (l.map (fun n : Nd => 4 * szEns n.es)).sum = 4 * (l.map (fun n : Nd => szEns n.es)).sum:=sum_mul (fun n : Nd => szEns n.es) 4 l
 unfold lenNds szNds
 rw [psum_all]
 omega

theorem ret_intT {k : IntKind} {a b : Int} (h : a = b) : Ending.returned (.int k a) = .returned (.int k b):=by rw [h]
theorem mark_d (v : Value) (zs : List Int) (k : Nat) (S : Nat → Prop) (w : World) (o : OwV w S v (.bytes zs)) (hl : zs.length ≤ 2097152) (hk : k ≤ 1099511627776) :
  Calls Tryz.prog 22 #[v,.i k] w fun e w' => e = .returned (.i ((k + zs.length : Nat) : Int)) ∧ OwV w' S v (.bytes (marks zs.length k)) ∧ Turned S w w':=by
 obtain ⟨hz,ho,hs⟩:=o.b
 refine (mark_any v zs k 0 w ho hl hk).mono ?_
 rintro e w' ⟨rfl,ho2,hg⟩
 exact ⟨rfl,⟨marks_isBytes _ _,ho2,hs⟩,Turned.ofGrown hg hs⟩
theorem held_d (v : Value) (n k : Nat) (S : Nat → Prop) (w : World) (r : RdV w S v (.bytes (marks n k))) (hl : n ≤ 2097152) (hk : k ≤ 1099511627776) :
  Calls Tryz.prog 76 #[v,.i k] w fun e w' => e = .returned (.i ((k + n : Nat) : Int)) ∧ w' = w:=by
 obtain ⟨a,cap,rfl,hh,hr⟩:=r.b.reads
 rw [marks_length]
 exact held_any a n k cap w hr hl hk

def mkEnSF (l : List En) (k j : Nat) : Nat → Nat → Dt:=fun i q => if i < j then enCell (mkEn (l[i]?.getD en0) (k + psum lenEn l i)) q else enCell (l[i]?.getD en0) q
set_option maxRecDepth 100000 in
set_option maxHeartbeats 8000000 in
theorem markEntryS_d (v : Value) (l : List En) (k : Nat) (S : Nat → Prop) (w : World) (o : OwV w S v (ensDt l)) (hl : szEns l ≤ 2097152) (hk : k + lenEns l ≤ 1099511627776) :
  Calls Tryz.prog 23 #[v,.i k] w fun e w' => e = .returned (.i ((k + lenEns l : Nat) : Int)) ∧ OwV w' S v (ensDt (mkEns l k)) ∧ Turned S w w':=by
 obtain ⟨a,cap,rfl,_⟩:=RdV.sliced o.rd
 have HO : Hid (OwV w S (.slice a l.length cap) (.rows 86 4 l.length (mkEnSF l k 0))):=OwV.congr o (fun i j _ _ => by simp [mkEnSF])
 have HM : Hid (∀ W,OwV W S (.slice a l.length cap) (.rows 86 4 l.length (mkEnSF l k l.length)) → OwV W S (.slice a l.length cap) (ensDt (mkEns l k))):=fun W h => by
  show OwV W S _ (.rows _ _ (mkEns l k).length _)
  rw [mkEns_length]
  exact OwV.congr h (fun i j hi hj => by simp only [mkEnSF,hi,if_true]; rw [mkEns_at l k i hi])
 have HU : Hid (∀ j,j < l.length → psum lenEn l (j + 1) = psum lenEn l j + lenEn (l[j]?.getD en0) ∧ psum lenEn l (j + 1) ≤ lenEns l):=fun j hj => ⟨psum_next _ l _ j hj,by unfold lenEns; rw [psum_all]; exact psum_le _ l _⟩
 have HZ0 : Hid (psum lenEn l 0 = 0):=psum_zero _ _
 have HT : Hid (lenEns l = psum lenEn l l.length):=rfl
 have hnn : l.length ≤ 2097152:=by unfold szEns at hl; omega
 have HL : Hid _:=hl
 clear o hl
 have HF : Hid (∀ j i q,mkEnSF l k j i q = if i < j then enCell (mkEn (l[i]?.getD en0) (k + psum lenEn l i)) q else enCell (l[i]?.getD en0) q):=fun _ _ _ => rfl
 generalize mkEnSF l k = F at HO HM HF
 generalize l.length = n at *
 go_enter Tryz.func23,Tryz.ntmps23
 go_wp2
 go_loopw [1,5] (fun q i wr => ∃ j s : Nat,j ≤ n ∧ i = .i j ∧ q = .i s ∧ Hid (s = k + psum lenEn l j) ∧ Hid (OwV wr S (.slice a n cap) (.rows 86 4 n (F j))) ∧ Turned S w wr) (fun _ i _ => n - (intOf i).toNat)
 case atStart => exact ⟨0,k,Nat.zero_le _,rfl,rfl,by show _ = _; rw [HZ0.out]; rfl,HO,Turned.refl _ _⟩
 case round =>
  clear HO
  obtain ⟨j,s,hj,rfl,rfl,HS,HO,ht⟩:=hrel
  by_cases hlt : j < n
  ·obtain ⟨hu1,hu2⟩:=HU.out j hlt
   obtain ⟨e,he⟩ : ∃ e,l[j]?.getD en0 = e:=⟨_,rfl⟩
   rw [he] at hu1
   have HZ : Hid (e.nm.length ≤ 2097152):=by have h1:=szEns_at l j; rw [he] at h1; have h2:=HL.out; show _ ≤ _; omega
   have HC : Hid (∀ q,F j j q = enCell e q):=fun q => by rw [HF.out,if_neg (by omega),he]
   have HN : Hid (∀ i q,i < n → q < 4 → F (j + 1) i q = if i = j then enCell (mkEn e s) q else F j i q):=fun i q _ _ => by
    rw [HF.out,HF.out]
    by_cases hij : i = j
    ·subst hij; rw [if_pos (by omega),if_pos rfl,he,HS.out]
    ·rw [if_neg hij]; by_cases h1 : i < j
     ·rw [if_pos (by omega),if_pos h1]
     ·rw [if_neg (by omega),if_neg h1]
   obtain ⟨hbad,_⟩ | ⟨g,cp,hg,hSg,hgl,hfz,hcs⟩:=OwV.head HO.out
   ·simp only [Value.slice.injEq] at hbad; omega
   simp only [Value.slice.injEq,true_and] at hg
   obtain ⟨rfl,rfl⟩:=hg
   obtain ⟨nm,⟨p,q,d⟩⟩:=e
   have HS2 : Hid (s + (nm.length + 3) = k + psum lenEn l (j + 1)):=by show _ = _; rw [HS.out,hu1]; simp only [lenEn]; omega
   have hsb : s + (nm.length + 3) ≤ 1099511627776:=by have:=HS2.out; omega
   clear hu1 hu2 HS he
   obtain ⟨y1,c1⟩:=hcs (j * 4 + 1) (by omega)
   obtain ⟨y2,c2⟩:=hcs (j * 4 + 2) (by omega)
   obtain ⟨y3,c3⟩:=hcs (j * 4 + 3) (by omega)
   clear hcs
   obtain ⟨Q,x,g2,cp2,hv,hc,hox,hQ,hback⟩:=OwV.sub HO.out hlt (j:=0) (by omega)
   simp only [Value.slice.injEq,Option.some.injEq,Addr.mk.injEq,and_true,true_and] at hv
   obtain ⟨rfl,rfl⟩:=hv
   simp only [Nat.add_zero] at hc
   rw [HC.out] at hox
   have HX : Hid _:=mark_d x nm s Q wr hox HZ.out (by omega)
   have HBK : Hid _:=hback
   have HQ : Hid _:=hQ
   have HOX : Hid _:=hox
   obtain ⟨xa,xc,rfl⟩:=RdV.sliceB (OwV.rd hox)
   clear hback hQ hox HO
   go_wp2_with fail
   refine Calls.mono HX.out ?_
   rintro e w2 ⟨rfl,o2,t2⟩
   have HO2 : Hid _:=HBK.out w2 _ t2 o2
   have HTW : Hid (Turned S w w2):=ht.trans (t2.wide (fun b hb => (HQ.out b hb).1))
   obtain ⟨z1,k1⟩ : ∃ u,w2.cell? ⟨g,j * 4 + 1,none⟩ = some u:=⟨y1,(World.cell?_of_block (w:=wr) (t2.block g hgl (fun e => (HQ.out g e).2 rfl))).trans c1⟩
   obtain ⟨z2,k2⟩ : ∃ u,w2.cell? ⟨g,j * 4 + 2,none⟩ = some u:=⟨y2,(World.cell?_of_block (w:=wr) (t2.block g hgl (fun e => (HQ.out g e).2 rfl))).trans c2⟩
   obtain ⟨z3,k3⟩ : ∃ u,w2.cell? ⟨g,j * 4 + 3,none⟩ = some u:=⟨y3,(World.cell?_of_block (w:=wr) (t2.block g hgl (fun e => (HQ.out g e).2 rfl))).trans c3⟩
   have hf2 : ∀ q,w2.frozen? ⟨g,q,none⟩ = false:=fun q => (World.frozen?_of_block (w:=wr) (t2.block g hgl (fun e => (HQ.out g e).2 rfl))).trans (hfz q)
   clear hfz hc t2 o2 HBK HQ HX HOX c1 c2 c3
   have p1:=OwV.put0 HO2.out hlt (j:=1) (by omega) (u:=.i (((s + nm.length : Nat)) : Int)) (d:=.int ((s + nm.length : Nat) : Int)) rfl
   have p2:=OwV.put0 p1 hlt (j:=2) (by omega) (u:=.i (((s + nm.length + 1 : Nat)) : Int)) (d:=.int ((s + nm.length + 1 : Nat) : Int)) rfl
   have p3:=OwV.put0 p2 hlt (j:=3) (by omega) (u:=.bool (m3 (s + nm.length + 2))) (d:=.bool (m3 (s + nm.length + 2))) rfl
   have HR : Hid (OwV (((w2.setCell ⟨g,j * 4 + 1,none⟩ (.i (((s + nm.length : Nat)) : Int))).setCell ⟨g,j * 4 + 2,none⟩ (.i (((s + nm.length + 1 : Nat)) : Int))).setCell ⟨g,j * 4 + 3,none⟩ (.bool (m3 (s + nm.length + 2)))) S (.slice (some ⟨g,0,none⟩) n cap) (.rows 86 4 n (F (j + 1)))):=OwV.congr p3 (fun i q hi hq => by
    rw [HN.out i q hi hq]
    by_cases hij : i = j
    ·subst hij
     rw [if_pos rfl]
     match q,hq with
     | 0,_ => simp [upd,mkEn,enCell,Nat.add_assoc]
     | 1,_ => simp [upd,mkEn,enCell,Nat.add_assoc]
     | 2,_ => simp [upd,mkEn,enCell,Nat.add_assoc]
     | 3,_ => simp [upd,mkEn,enCell,Nat.add_assoc]
    ·rw [if_neg hij]; simp [upd,hij])
   have HTF : Hid (Turned S w (((w2.setCell ⟨g,j * 4 + 1,none⟩ (.i (((s + nm.length : Nat)) : Int))).setCell ⟨g,j * 4 + 2,none⟩ (.i (((s + nm.length + 1 : Nat)) : Int))).setCell ⟨g,j * 4 + 3,none⟩ (.bool (m3 (s + nm.length + 2))))):=(HTW.out |>.set _ _ hSg |>.set _ _ hSg |>.set _ _ hSg)
   clear p1 p2 p3 HO2 HN HC HTW ht
   go_wp2
   go_roundw
   case rel => exact ⟨j + 1,s + (nm.length + 3),by omega,by go_num,by first | go_num | (congr 1; omega),HS2.out,HR.out,HTF.out⟩
   case measure => simp [intOf]; omega
  ·have hjn : j = n:=by omega
   subst hjn
   go_wp2
   go_ret
   exact ⟨ret_intT (by have h1:=HS.out; have h2:=HT.out; omega),HM.out _ HO.out,ht⟩

theorem mkNd_row {w : World} {S : Nat → Prop} {g n cap j s : Nat} {f : Nat → Nat → Dt} {nd : Nd} (o : OwV w S (.slice (some ⟨g,0,none⟩) n cap) (.rows 77 9 n f)) (hj : j < n) (hf : ∀ q,f j q = ndCell nd q) (W : World) (hW : ((((((((w.setCell ⟨g,j * 9,none⟩ (.i (((s : Nat)) : Int))).setCell ⟨g,j * 9 + 1,none⟩ (.i (((s + 1 : Nat)) : Int))).setCell ⟨g,j * 9 + 2,none⟩ (.bool (m3 (s + 2)))).setCell ⟨g,j * 9 + 3,none⟩ (.i (((s + 3 : Nat)) : Int))).setCell ⟨g,j * 9 + 4,none⟩ (.i (((s + 4 : Nat)) : Int))).setCell ⟨g,j * 9 + 5,none⟩ (.bool (m3 (s + 5)))).setCell ⟨g,j * 9 + 6,none⟩ (.i (((s + 6 : Nat)) : Int))).setCell ⟨g,j * 9 + 7,none⟩ (.i (((s + 7 : Nat)) : Int))) = W) :
  ∃ (Q : Nat → Prop) (x : Value),w.cell? ⟨g,j * 9 + 8,none⟩ = some x ∧ OwV W Q x (ensDt nd.es) ∧ (∀ b,Q b → S b ∧ b ≠ g) ∧ Turned S w W ∧
   ∀ w2,Turned Q W w2 → OwV w2 Q x (ensDt (mkEns nd.es (s + 8))) → OwV w2 S (.slice (some ⟨g,0,none⟩) n cap) (.rows 77 9 n (fun i q => if i = j then ndCell (mkNd nd s) q else f i q)):=by
 obtain ⟨hbad,_⟩ | ⟨g',cp,hg,hSg,hgl,hfz,hcs⟩:=OwV.head o
 ·cases hbad
 simp only [Value.slice.injEq,Option.some.injEq,Addr.mk.injEq,and_true,true_and] at hg
 obtain ⟨rfl,rfl⟩:=hg
 have ht : Turned S w ((((((((w.setCell ⟨g,j * 9,none⟩ (.i (((s : Nat)) : Int))).setCell ⟨g,j * 9 + 1,none⟩ (.i (((s + 1 : Nat)) : Int))).setCell ⟨g,j * 9 + 2,none⟩ (.bool (m3 (s + 2)))).setCell ⟨g,j * 9 + 3,none⟩ (.i (((s + 3 : Nat)) : Int))).setCell ⟨g,j * 9 + 4,none⟩ (.i (((s + 4 : Nat)) : Int))).setCell ⟨g,j * 9 + 5,none⟩ (.bool (m3 (s + 5)))).setCell ⟨g,j * 9 + 6,none⟩ (.i (((s + 6 : Nat)) : Int))).setCell ⟨g,j * 9 + 7,none⟩ (.i (((s + 7 : Nat)) : Int))):=(Turned.refl S w) |>.set _ _ hSg |>.set _ _ hSg |>.set _ _ hSg |>.set _ _ hSg |>.set _ _ hSg |>.set _ _ hSg |>.set _ _ hSg |>.set _ _ hSg
 have p0:=OwV.put0 o hj (j:=0) (by omega) (u:=.i (((s : Nat)) : Int)) (d:=.int ((s : Nat) : Int)) rfl
 have p1:=OwV.put0 p0 hj (j:=1) (by omega) (u:=.i (((s + 1 : Nat)) : Int)) (d:=.int ((s + 1 : Nat) : Int)) rfl
 have p2:=OwV.put0 p1 hj (j:=2) (by omega) (u:=.bool (m3 (s + 2))) (d:=.bool (m3 (s + 2))) rfl
 have p3:=OwV.put0 p2 hj (j:=3) (by omega) (u:=.i (((s + 3 : Nat)) : Int)) (d:=.int ((s + 3 : Nat) : Int)) rfl
 have p4:=OwV.put0 p3 hj (j:=4) (by omega) (u:=.i (((s + 4 : Nat)) : Int)) (d:=.int ((s + 4 : Nat) : Int)) rfl
 have p5:=OwV.put0 p4 hj (j:=5) (by omega) (u:=.bool (m3 (s + 5))) (d:=.bool (m3 (s + 5))) rfl
 have p6:=OwV.put0 p5 hj (j:=6) (by omega) (u:=.i (((s + 6 : Nat)) : Int)) (d:=.int ((s + 6 : Nat) : Int)) rfl
 have p7:=OwV.put0 p6 hj (j:=7) (by omega) (u:=.i (((s + 7 : Nat)) : Int)) (d:=.int ((s + 7 : Nat) : Int)) rfl
 have hc0 : ((((((((w.setCell ⟨g,j * 9,none⟩ (.i (((s : Nat)) : Int))).setCell ⟨g,j * 9 + 1,none⟩ (.i (((s + 1 : Nat)) : Int))).setCell ⟨g,j * 9 + 2,none⟩ (.bool (m3 (s + 2)))).setCell ⟨g,j * 9 + 3,none⟩ (.i (((s + 3 : Nat)) : Int))).setCell ⟨g,j * 9 + 4,none⟩ (.i (((s + 4 : Nat)) : Int))).setCell ⟨g,j * 9 + 5,none⟩ (.bool (m3 (s + 5)))).setCell ⟨g,j * 9 + 6,none⟩ (.i (((s + 6 : Nat)) : Int))).setCell ⟨g,j * 9 + 7,none⟩ (.i (((s + 7 : Nat)) : Int))).cell? ⟨g,j * 9 + 8,none⟩ = w.cell? ⟨g,j * 9 + 8,none⟩:=by simp [go_sem]
 have p8 : OwV ((((((((w.setCell ⟨g,j * 9,none⟩ (.i (((s : Nat)) : Int))).setCell ⟨g,j * 9 + 1,none⟩ (.i (((s + 1 : Nat)) : Int))).setCell ⟨g,j * 9 + 2,none⟩ (.bool (m3 (s + 2)))).setCell ⟨g,j * 9 + 3,none⟩ (.i (((s + 3 : Nat)) : Int))).setCell ⟨g,j * 9 + 4,none⟩ (.i (((s + 4 : Nat)) : Int))).setCell ⟨g,j * 9 + 5,none⟩ (.bool (m3 (s + 5)))).setCell ⟨g,j * 9 + 6,none⟩ (.i (((s + 6 : Nat)) : Int))).setCell ⟨g,j * 9 + 7,none⟩ (.i (((s + 7 : Nat)) : Int))) S (.slice (some ⟨g,0,none⟩) n cap) _:=p7
 rw [hW] at hc0 ht p8
 clear p0 p1 p2 p3 p4 p5 p6 p7
 obtain ⟨Q,x,g2,cp2,hv,hc,hox,hQ,hback⟩:=OwV.sub p8 hj (j:=8) (by omega)
 simp only [Value.slice.injEq,Option.some.injEq,Addr.mk.injEq,and_true,true_and] at hv
 obtain ⟨rfl,rfl⟩:=hv
 refine ⟨Q,x,hc0.symm.trans hc,?_,hQ,ht,fun w2 t2 o2 => OwV.congr (hback w2 _ t2 o2) (fun i q hi hq => ?_)⟩
 ·have e1 : (upd (upd (upd (upd (upd (upd (upd (upd f j 0 (.int ((s : Nat) : Int))) j 1 (.int ((s + 1 : Nat) : Int))) j 2 (.bool (m3 (s + 2)))) j 3 (.int ((s + 3 : Nat) : Int))) j 4 (.int ((s + 4 : Nat) : Int))) j 5 (.bool (m3 (s + 5)))) j 6 (.int ((s + 6 : Nat) : Int))) j 7 (.int ((s + 7 : Nat) : Int))) j 8 = ensDt nd.es:=by
   simp only [upd,true_and]
   simp [hf,ndCell]
  rw [e1] at hox
  exact hox
 ·by_cases hij : i = j
  ·subst hij
   rw [if_pos rfl]
   match q,hq with
   | 0,_ => simp [upd,mkNd,ndCell]
   | 1,_ => simp [upd,mkNd,ndCell]
   | 2,_ => simp [upd,mkNd,ndCell]
   | 3,_ => simp [upd,mkNd,ndCell]
   | 4,_ => simp [upd,mkNd,ndCell]
   | 5,_ => simp [upd,mkNd,ndCell]
   | 6,_ => simp [upd,mkNd,ndCell]
   | 7,_ => simp [upd,mkNd,ndCell]
   | 8,_ => simp [upd,mkNd,ndCell]
  ·rw [if_neg hij]; simp [upd,hij]

def mkNdSF (l : List Nd) (k j : Nat) : Nat → Nat → Dt:=fun i q => if i < j then ndCell (mkNd (l[i]?.getD nd0) (k + psum lenNd l i)) q else ndCell (l[i]?.getD nd0) q
set_option maxRecDepth 100000 in
set_option maxHeartbeats 8000000 in
theorem markNodeS_d (v : Value) (l : List Nd) (k : Nat) (S : Nat → Prop) (w : World) (o : OwV w S v (ndsDt l)) (hl : szNds l ≤ 2097152) (hk : k + lenNds l ≤ 1099511627776) :
  Calls Tryz.prog 24 #[v,.i k] w fun e w' => e = .returned (.i ((k + lenNds l : Nat) : Int)) ∧ OwV w' S v (ndsDt (mkNds l k)) ∧ Turned S w w':=by
 obtain ⟨a,cap,rfl,_⟩:=RdV.sliced o.rd
 have HO : Hid (OwV w S (.slice a l.length cap) (.rows 77 9 l.length (mkNdSF l k 0))):=OwV.congr o (fun i j _ _ => by simp [mkNdSF])
 have HM : Hid (∀ W,OwV W S (.slice a l.length cap) (.rows 77 9 l.length (mkNdSF l k l.length)) → OwV W S (.slice a l.length cap) (ndsDt (mkNds l k))):=fun W h => by
  show OwV W S _ (.rows _ _ (mkNds l k).length _)
  rw [mkNds_length]
  exact OwV.congr h (fun i j hi hj => by simp only [mkNdSF,hi,if_true]; rw [mkNds_at l k i hi])
 have HU : Hid (∀ j,j < l.length → psum lenNd l (j + 1) = psum lenNd l j + lenNd (l[j]?.getD nd0) ∧ psum lenNd l (j + 1) ≤ lenNds l):=fun j hj => ⟨psum_next _ l _ j hj,by unfold lenNds; rw [psum_all]; exact psum_le _ l _⟩
 have HZ0 : Hid (psum lenNd l 0 = 0):=psum_zero _ _
 have HT : Hid (lenNds l = psum lenNd l l.length):=rfl
 have hnn : l.length ≤ 2097152:=by unfold szNds at hl; omega
 have HL : Hid _:=hl
 clear o hl
 have HF : Hid (∀ j i q,mkNdSF l k j i q = if i < j then ndCell (mkNd (l[i]?.getD nd0) (k + psum lenNd l i)) q else ndCell (l[i]?.getD nd0) q):=fun _ _ _ => rfl
 generalize mkNdSF l k = F at HO HM HF
 generalize l.length = n at *
 go_enter Tryz.func24,Tryz.ntmps24
 go_wp2
 go_loopw [1,5] (fun q i wr => ∃ j s : Nat,j ≤ n ∧ i = .i j ∧ q = .i s ∧ Hid (s = k + psum lenNd l j) ∧ Hid (OwV wr S (.slice a n cap) (.rows 77 9 n (F j))) ∧ Turned S w wr) (fun _ i _ => n - (intOf i).toNat)
 case atStart => exact ⟨0,k,Nat.zero_le _,rfl,rfl,by show _ = _; rw [HZ0.out]; rfl,HO,Turned.refl _ _⟩
 case round =>
  clear HO
  obtain ⟨j,s,hj,rfl,rfl,HS,HO,ht⟩:=hrel
  by_cases hlt : j < n
  ·obtain ⟨hu1,hu2⟩:=HU.out j hlt
   obtain ⟨e,he⟩ : ∃ e,l[j]?.getD nd0 = e:=⟨_,rfl⟩
   rw [he] at hu1
   have HZ : Hid (szEns e.es ≤ 2097152):=by have h1:=szNds_at l j; rw [he] at h1; have h2:=HL.out; show _ ≤ _; omega
   have HC : Hid (∀ q,F j j q = ndCell e q):=fun q => by rw [HF.out,if_neg (by omega),he]
   have HN : Hid (∀ i q,i < n → q < 9 → F (j + 1) i q = if i = j then ndCell (mkNd e s) q else F j i q):=fun i q _ _ => by
    rw [HF.out,HF.out]
    by_cases hij : i = j
    ·subst hij; rw [if_pos (by omega),if_pos rfl,he,HS.out]
    ·rw [if_neg hij]; by_cases h1 : i < j
     ·rw [if_pos (by omega),if_pos h1]
     ·rw [if_neg (by omega),if_neg h1]
   obtain ⟨hbad,_⟩ | ⟨g,cp,hg,hSg,hgl,hfz,hcs⟩:=OwV.head HO.out
   ·simp only [Value.slice.injEq] at hbad; omega
   simp only [Value.slice.injEq,true_and] at hg
   obtain ⟨rfl,rfl⟩:=hg
   obtain ⟨⟨p,q,d⟩,⟨p2,q2,d2⟩,lk,vl,es⟩:=e
   have HS2 : Hid (s + (8 + lenEns es) = k + psum lenNd l (j + 1)):=by show _ = _; rw [HS.out,hu1]; simp only [lenNd]; omega
   have hsb : s + (8 + lenEns es) ≤ 1099511627776:=by have:=HS2.out; omega
   clear hu1 hu2 HS he
   obtain ⟨y0,c0⟩:=hcs (j * 9) (by omega)
   obtain ⟨y1,c1⟩:=hcs (j * 9 + 1) (by omega)
   obtain ⟨y2,c2⟩:=hcs (j * 9 + 2) (by omega)
   obtain ⟨y3,c3⟩:=hcs (j * 9 + 3) (by omega)
   obtain ⟨y4,c4⟩:=hcs (j * 9 + 4) (by omega)
   obtain ⟨y5,c5⟩:=hcs (j * 9 + 5) (by omega)
   obtain ⟨y6,c6⟩:=hcs (j * 9 + 6) (by omega)
   obtain ⟨y7,c7⟩:=hcs (j * 9 + 7) (by omega)
   clear hcs
   have HTW : Hid (Turned S w wr):=ht
   have HW8 : Hid (∃ W,((((((((wr.setCell ⟨g,j * 9,none⟩ (.i (((s : Nat)) : Int))).setCell ⟨g,j * 9 + 1,none⟩ (.i (((s + 1 : Nat)) : Int))).setCell ⟨g,j * 9 + 2,none⟩ (.bool (m3 (s + 2)))).setCell ⟨g,j * 9 + 3,none⟩ (.i (((s + 3 : Nat)) : Int))).setCell ⟨g,j * 9 + 4,none⟩ (.i (((s + 4 : Nat)) : Int))).setCell ⟨g,j * 9 + 5,none⟩ (.bool (m3 (s + 5)))).setCell ⟨g,j * 9 + 6,none⟩ (.i (((s + 6 : Nat)) : Int))).setCell ⟨g,j * 9 + 7,none⟩ (.i (((s + 7 : Nat)) : Int))) = W):=⟨_,rfl⟩
   obtain ⟨W,hW⟩:=HW8.out
   obtain ⟨Q,x,hcx,hoy,hQ,hts,hback⟩:=mkNd_row HO.out hlt HC.out W hW
   have HTS : Hid (Turned S w W):=ht.trans hts
   dsimp only at hoy hback
   have HX : Hid _:=markEntryS_d x es (s + 8) Q _ hoy HZ.out (by omega)
   have HBK : Hid _:=hback
   have HQ : Hid _:=hQ
   have HWW : Hid _:=hW
   obtain ⟨xa,xc,rfl,_⟩:=RdV.sliced (OwV.rd hoy)
   clear hback hQ hoy HO HTW ht hts hW HW8
   generalize es.length = nl at *
   go_wp2_with fail
   have HX2 : Hid _:=HX.out
   rw [← HWW.out] at HX2
   refine Calls.mono HX2.out ?_
   rintro e w2 ⟨rfl,o2,t2⟩
   rw [HWW.out] at t2
   have HR : Hid (OwV w2 S (.slice (some ⟨g,0,none⟩) n cap) (.rows 77 9 n (F (j + 1)))):=OwV.congr (HBK.out w2 t2 o2) (fun i q hi hq => by rw [HN.out i q hi hq])
   have HTF : Hid (Turned S w w2):=HTS.out.trans (t2.wide (fun b hb => (HQ.out b hb).1))
   clear HBK HQ HN HC HTS t2 o2 HX HX2 HWW hcx c0 c1 c2 c3 c4 c5 c6 c7
   go_wp2
   go_roundw
   case rel => exact ⟨j + 1,s + (8 + lenEns es),by omega,by go_num,by first | go_num | (congr 1; omega),HS2.out,HR.out,HTF.out⟩
   case measure => simp [intOf]; omega
  ·have hjn : j = n:=by omega
   subst hjn
   go_wp2
   go_ret
   exact ⟨ret_intT (by have h1:=HS.out; have h2:=HT.out; omega),HM.out _ HO.out,ht⟩

set_option maxHeartbeats 1000000 in
theorem markTree_d (x : Value) (l : List Nd) (k : Nat) (S : Nat → Prop) (w : World) (o : OwV w S x (ndsDt l)) (hS : ∀ b,S b → b < w.heap.size) (hl : szNds l ≤ 2097152) (hk : k + lenNds l ≤ 1099511627776) :
  Calls Tryz.prog 11 #[.agg #[x],.i k] w fun e w' => e = .returned (.i ((k + lenNds l : Nat) : Int)) ∧ OwV w' S x (ndsDt (mkNds l k)) ∧ Turned S w w':=by
 obtain ⟨a,cap,rfl,_⟩:=RdV.sliced o.rd
 have HX : Hid (∀ W,Below w.heap.size w W → _):=fun W hW => markNodeS_d _ l k S W (o.step hW) hl hk
 clear o
 generalize l.length = n at *
 go_enter Tryz.func11,Tryz.ntmps11
 go_wp2_with fail
 refine Calls.mono (HX.out _ (Below.newH _)) ?_
 rintro e w2 ⟨rfl,o2,t2⟩
 go_wp2
 go_ret
 exact ⟨by simp,o2,(Turned.ofBelow (Below.newH _)).trans t2⟩
set_option maxRecDepth 100000 in
set_option maxHeartbeats 8000000 in
theorem heldEntryS_d (v : Value) (l : List En) (k : Nat) (S : Nat → Prop) (w : World) (r : RdV w S v (ensDt (mkEns l k))) (hl : szEns l ≤ 2097152) (hk : k + lenEns l ≤ 1099511627776) :
  Calls Tryz.prog 46 #[v,.i k] w fun e w' => e = .returned (.i ((k + lenEns l : Nat) : Int)) ∧ w' = w:=by
 have HR0 : RdV w S v (.rows 86 4 l.length (fun i q => enCell (mkEn (l[i]?.getD en0) (k + psum lenEn l i)) q)):=by
  have h1 : RdV w S v (.rows 86 4 (mkEns l k).length (fun i q => enCell ((mkEns l k)[i]?.getD en0) q)):=r
  rw [mkEns_length] at h1
  exact RdV.congr h1 (fun i q hi _ => by rw [mkEns_at l k i hi])
 obtain ⟨a,cap,rfl,_⟩:=RdV.sliced HR0
 have HR : Hid _:=HR0
 have HU : Hid (∀ j,j < l.length → psum lenEn l (j + 1) = psum lenEn l j + lenEn (l[j]?.getD en0) ∧ psum lenEn l (j + 1) ≤ lenEns l):=fun j hj => ⟨psum_next _ l _ j hj,by unfold lenEns; rw [psum_all]; exact psum_le _ l _⟩
 have HZ0 : Hid (psum lenEn l 0 = 0):=psum_zero _ _
 have HT : Hid (lenEns l = psum lenEn l l.length):=rfl
 have hnn : l.length ≤ 2097152:=by unfold szEns at hl; omega
 have HL : Hid _:=hl
 clear r hl HR0
 generalize l.length = n at *
 go_enter Tryz.func46,Tryz.ntmps46
 go_wp2
 go_loop [1,5] (fun q i => ∃ j s : Nat,j ≤ n ∧ i = .i j ∧ q = .i s ∧ Hid (s = k + psum lenEn l j)) (fun _ i => n - (intOf i).toNat)
 case atStart => exact ⟨0,k,Nat.zero_le _,rfl,rfl,by show _ = _; rw [HZ0.out]; rfl⟩
 case round =>
  obtain ⟨j,s,hj,rfl,rfl,HS⟩:=hrel
  by_cases hlt : j < n
  ·obtain ⟨b,off,rfl,hbl,_,hx⟩:=RdV.at HR.out hlt
   obtain ⟨hu1,hu2⟩:=HU.out j hlt
   obtain ⟨e,he⟩ : ∃ e,l[j]?.getD en0 = e:=⟨_,rfl⟩
   obtain ⟨x0,c0,r0⟩:=hx 0 (by omega)
   obtain ⟨x1,c1,r1⟩:=hx 1 (by omega)
   obtain ⟨x2,c2,r2⟩:=hx 2 (by omega)
   obtain ⟨x3,c3,r3⟩:=hx 3 (by omega)
   rw [← HS.out] at r0 r1 r2 r3
   rw [he] at hu1 r0 r1 r2 r3
   have HZ : Hid (e.nm.length ≤ 2097152):=by have h1:=szEns_at l j; rw [he] at h1; have h2:=HL.out; show _ ≤ _; omega
   obtain ⟨nm,⟨p,q,d⟩⟩:=e
   have HS2 : Hid (s + (nm.length + 3) = k + psum lenEn l (j + 1)):=by show _ = _; rw [HS.out,hu1]; simp only [lenEn]; omega
   have hsb : s + (nm.length + 3) ≤ 1099511627776:=by have:=HS2.out; omega
   clear hx he hu1 hu2 HS
   obtain rfl : x1 = .i (((s + nm.length : Nat)) : Int):=r1
   obtain rfl : x2 = .i (((s + nm.length + 1 : Nat)) : Int):=r2
   obtain rfl : x3 = .bool (m3 (s + nm.length + 2)):=r3
   simp only [Nat.add_zero] at c0
   have RS : Hid (RdV w S x0 (.bytes (marks nm.length s))):=r0
   clear r0
   obtain ⟨xa,xc,rfl⟩:=RdV.sliceB RS.out
   have HX : Hid _:=held_d _ nm.length s S w RS.out HZ.out (by omega)
   clear RS
   generalize (marks nm.length s).length = xn at *
   have hm0 : (!m3 (s + nm.length + 2) == (((s : Int) + (nm.length : Int) + 1 + 1) % 3 == 0)) = false:=m3_not (by omega)
   go_wp2_with fail
   refine Calls.mono HX.out ?_
   rintro e w2 ⟨rfl,hw2⟩
   subst hw2
   go_wp2
   go_round
   case rel => exact ⟨j + 1,s + (nm.length + 3),by omega,by go_num,by first | go_num | (congr 1; omega),HS2.out⟩
   case measure => simp [intOf]; omega
  ·have hjn : j = n:=by omega
   subst hjn
   go_wp2
   go_ret
   exact ⟨ret_intT (by have h1:=HS.out; have h2:=HT.out; omega),rfl⟩

set_option maxRecDepth 100000 in
set_option maxHeartbeats 8000000 in
theorem heldNodeS_d (v : Value) (l : List Nd) (k : Nat) (S : Nat → Prop) (w : World) (r : RdV w S v (ndsDt (mkNds l k))) (hl : szNds l ≤ 2097152) (hk : k + lenNds l ≤ 1099511627776) :
  Calls Tryz.prog 25 #[v,.i k] w fun e w' => e = .returned (.i ((k + lenNds l : Nat) : Int)) ∧ w' = w:=by
 have HR0 : RdV w S v (.rows 77 9 l.length (fun i q => ndCell (mkNd (l[i]?.getD nd0) (k + psum lenNd l i)) q)):=by
  have h1 : RdV w S v (.rows 77 9 (mkNds l k).length (fun i q => ndCell ((mkNds l k)[i]?.getD nd0) q)):=r
  rw [mkNds_length] at h1
  exact RdV.congr h1 (fun i q hi _ => by rw [mkNds_at l k i hi])
 obtain ⟨a,cap,rfl,_⟩:=RdV.sliced HR0
 have HR : Hid _:=HR0
 have HU : Hid (∀ j,j < l.length → psum lenNd l (j + 1) = psum lenNd l j + lenNd (l[j]?.getD nd0) ∧ psum lenNd l (j + 1) ≤ lenNds l):=fun j hj => ⟨psum_next _ l _ j hj,by unfold lenNds; rw [psum_all]; exact psum_le _ l _⟩
 have HZ0 : Hid (psum lenNd l 0 = 0):=psum_zero _ _
 have HT : Hid (lenNds l = psum lenNd l l.length):=rfl
 have hnn : l.length ≤ 2097152:=by unfold szNds at hl; omega
 have HL : Hid _:=hl
 clear r hl HR0
 generalize l.length = n at *
 go_enter Tryz.func25,Tryz.ntmps25
 go_wp2
 go_loop [1,5] (fun q i => ∃ j s : Nat,j ≤ n ∧ i = .i j ∧ q = .i s ∧ Hid (s = k + psum lenNd l j)) (fun _ i => n - (intOf i).toNat)
 case atStart => exact ⟨0,k,Nat.zero_le _,rfl,rfl,by show _ = _; rw [HZ0.out]; rfl⟩
 case round =>
  obtain ⟨j,s,hj,rfl,rfl,HS⟩:=hrel
  by_cases hlt : j < n
  ·obtain ⟨b,off,rfl,hbl,_,hx⟩:=RdV.at HR.out hlt
   obtain ⟨hu1,hu2⟩:=HU.out j hlt
   obtain ⟨e,he⟩ : ∃ e,l[j]?.getD nd0 = e:=⟨_,rfl⟩
   obtain ⟨x0,c0,r0⟩:=hx 0 (by omega)
   obtain ⟨x1,c1,r1⟩:=hx 1 (by omega)
   obtain ⟨x2,c2,r2⟩:=hx 2 (by omega)
   obtain ⟨x3,c3,r3⟩:=hx 3 (by omega)
   obtain ⟨x4,c4,r4⟩:=hx 4 (by omega)
   obtain ⟨x5,c5,r5⟩:=hx 5 (by omega)
   obtain ⟨x6,c6,r6⟩:=hx 6 (by omega)
   obtain ⟨x7,c7,r7⟩:=hx 7 (by omega)
   obtain ⟨x8,c8,r8⟩:=hx 8 (by omega)
   rw [← HS.out] at r0 r1 r2 r3 r4 r5 r6 r7 r8
   rw [he] at hu1 r0 r1 r2 r3 r4 r5 r6 r7 r8
   have HZ : Hid (szEns e.es ≤ 2097152):=by have h1:=szNds_at l j; rw [he] at h1; have h2:=HL.out; show _ ≤ _; omega
   obtain ⟨⟨p,q,d⟩,⟨p2,q2,d2⟩,lk,vl,es⟩:=e
   have HS2 : Hid (s + (8 + lenEns es) = k + psum lenNd l (j + 1)):=by show _ = _; rw [HS.out,hu1]; simp only [lenNd]; omega
   have hsb : s + (8 + lenEns es) ≤ 1099511627776:=by have:=HS2.out; omega
   clear hx he hu1 hu2 HS
   obtain rfl : x0 = .i (((s : Nat)) : Int):=r0
   obtain rfl : x1 = .i (((s + 1 : Nat)) : Int):=r1
   obtain rfl : x2 = .bool (m3 (s + 2)):=r2
   obtain rfl : x3 = .i (((s + 3 : Nat)) : Int):=r3
   obtain rfl : x4 = .i (((s + 4 : Nat)) : Int):=r4
   obtain rfl : x5 = .bool (m3 (s + 5)):=r5
   obtain rfl : x6 = .i (((s + 6 : Nat)) : Int):=r6
   obtain rfl : x7 = .i (((s + 7 : Nat)) : Int):=r7
   simp only [Nat.add_zero] at c0
   have RS : Hid (RdV w S x8 (ensDt (mkEns es (s + 8)))):=r8
   clear r8
   obtain ⟨xa,xc,rfl,_⟩:=RdV.sliced RS.out
   have HX : Hid _:=heldEntryS_d _ es (s + 8) S w RS.out HZ.out (by omega)
   clear RS
   generalize (mkEns es (s + 8)).length = xn at *
   have hm0 : (!m3 (s + 2) == (((s : Int) + 1 + 1) % 3 == 0)) = false:=m3_not (by omega)
   have hm1 : (!m3 (s + 5) == (((s : Int) + 1 + 1 + 1 + 1 + 1) % 3 == 0)) = false:=m3_not (by omega)
   go_wp2_with fail
   refine Calls.mono HX.out ?_
   rintro e w2 ⟨rfl,hw2⟩
   subst hw2
   go_wp2
   go_round
   case rel => exact ⟨j + 1,s + (8 + lenEns es),by omega,by go_num,by first | go_num | (congr 1; omega),HS2.out⟩
   case measure => simp [intOf]; omega
  ·have hjn : j = n:=by omega
   subst hjn
   go_wp2
   go_ret
   exact ⟨ret_intT (by have h1:=HS.out; have h2:=HT.out; omega),rfl⟩

set_option maxHeartbeats 1000000 in
theorem heldTree_d (x : Value) (l : List Nd) (k : Nat) (S : Nat → Prop) (w : World) (r : RdV w S x (ndsDt (mkNds l k))) (hl : szNds l ≤ 2097152) (hk : k + lenNds l ≤ 1099511627776) :
  Calls Tryz.prog 12 #[.agg #[x],.i k] w fun e w' => e = .returned (.i ((k + lenNds l : Nat) : Int)) ∧ Below w.heap.size w w':=by
 obtain ⟨a,cap,rfl,_⟩:=RdV.sliced r
 have HX : Hid (∀ W,Below w.heap.size w W → _):=fun W hW => heldNodeS_d _ l k S W (r.step hW) hl hk
 clear r
 generalize (mkNds l k).length = n at *
 go_enter Tryz.func12,Tryz.ntmps12
 go_wp2_with fail
 refine Calls.mono (HX.out _ (Below.newH _)) ?_
 rintro e w2 ⟨rfl,hw2⟩
 subst hw2
 go_wp2
 go_ret
 exact ⟨by simp,Below.newH _⟩
end Go.Proofs.YtblahkhniabhiaaGreatDoor
