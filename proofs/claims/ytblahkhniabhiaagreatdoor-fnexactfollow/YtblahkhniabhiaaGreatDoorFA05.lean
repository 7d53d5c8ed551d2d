/- Joined: SpecD12 MapH ImplT5 IC3 IC4 ImplT6 ImplT7 MapH2 ImplT8 OpenH OpenDd. -/
import Derived.Test.YtblahkhniabhiaaGreatDoorFSpecD11
import Derived.Test.YtblahkhniabhiaaGreatDoorFA01
import Derived.Test.YtblahkhniabhiaaGreatDoorFA03
import Derived.Test.YtblahkhniabhiaaGreatDoorFImplT4
import Derived.Maps.OwnSet
import Derived.DeepKeys4
import Derived.Test.YtblahkhniabhiaaGreatDoorFSpecT6
import Derived.Maps.OwnOps
import Derived.WideKeyEntry

namespace Go.Proofs.YtblahkhniabhiaaGreatDoor
open Go.RowKit
set_option linter.unusedVariables false
set_option linter.unusedSimpArgs false
set_option maxRecDepth 100000
section
abbrev LT (lo tb : Nat) : Nat → Prop:=fun b => lo ≤ b ∧ b ≠ tb
def TV (w : World) (tb lo : Nat) (L : Nat → Prop) (l : List Nd) : Prop:=∃ v,VarA w tb 26 #[v] ∧ SG w lo L v l ∧ v.ownBlock ≠ some tb
def Small (l : List Nd) : Prop:=l.length ≤ 3000 ∧ ∀ i : Nat,(l[i]?.getD nd0).es.length ≤ 4000 ∧ 0 ≤ (l[i]?.getD nd0).links ∧ (l[i]?.getD nd0).links ≤ 2147483647
theorem SG.rd {w : World} {lo : Nat} {L : Nat → Prop} {v : Value} {l : List Nd} (s : SG w lo L v l) : RdV w (fun b => b < w.heap.size) v (ndsDt l):=by
 obtain ⟨V,C,h1,h2,h3⟩:=s
 unfold ndsDt
 refine RdV.mkRows _ ?_
 rcases h1.2 with ⟨hv,h0⟩ | ⟨g,c,cur,hv,hg,hh,hnc,hm,_⟩
 ·subst hv
  rw [h0]
  exact ⟨none,0,fun _ _ => undef,rfl,⟨Nat.le_refl _,Nat.zero_le _,fun _ => ⟨rfl,rfl⟩⟩,.inl rfl,fun i j hi => absurd hi (Nat.not_lt_zero _)⟩
 ·subst hv
  refine ⟨some ⟨g,0,none⟩,c,fun i j => ndVal (l[i]?.getD nd0) (V i) j,rfl,⟨hnc,hm,fun e => by cases e⟩,.inr ⟨g,0,rfl,lt_of_block hh,lt_of_block hh,fun i j hi hj => ?_⟩,fun i j hi hj => ?_⟩
  ·rw [Nat.zero_add,World.ownsRow.cellAt h1 (i * 9 + j) (place_lt hi hj)]
   exact h2 i j hi hj
  ·match j,hj with
   | 0,_ => rfl
   | 1,_ => rfl
   | 2,_ => rfl
   | 3,_ => rfl
   | 4,_ => rfl
   | 5,_ => rfl
   | 6,_ => rfl
   | 7,_ => rfl
   | 8,_ => exact RdV.mono (fun b hb => hb.2.1) (h3 i hi).en
theorem SG.rdL {w : World} {lo : Nat} {L : Nat → Prop} {v : Value} {l : List Nd} (s : SG w lo L v l) (hL : ∀ b,v.ownBlock = some b → L b) : RdV w L v (ndsDt l):=by
 obtain ⟨V,C,h1,h2,h3⟩:=s
 unfold ndsDt
 refine RdV.mkRows _ ?_
 rcases h1.2 with ⟨hv,h0⟩ | ⟨g,c,cur,hv,hg,hh,hnc,hm,_⟩
 ·subst hv
  rw [h0]
  exact ⟨none,0,fun _ _ => undef,rfl,⟨Nat.le_refl _,Nat.zero_le _,fun _ => ⟨rfl,rfl⟩⟩,.inl rfl,fun i j hi => absurd hi (Nat.not_lt_zero _)⟩
 ·subst hv
  refine ⟨some ⟨g,0,none⟩,c,fun i j => ndVal (l[i]?.getD nd0) (V i) j,rfl,⟨hnc,hm,fun e => by cases e⟩,.inr ⟨g,0,rfl,hL g rfl,lt_of_block hh,fun i j hi hj => ?_⟩,fun i j hi hj => ?_⟩
  ·rw [Nat.zero_add,World.ownsRow.cellAt h1 (i * 9 + j) (place_lt hi hj)]
   exact h2 i j hi hj
  ·match j,hj with
   | 0,_ => rfl
   | 1,_ => rfl
   | 2,_ => rfl
   | 3,_ => rfl
   | 4,_ => rfl
   | 5,_ => rfl
   | 6,_ => rfl
   | 7,_ => rfl
   | 8,_ => exact RdV.mono (fun b hb => hb.1) (h3 i hi).en
def ndsO (l : List Nd) : Dt:=
 ⟨fun w S v => SG w 0 S v l ∧ ∀ b,v.ownBlock = some b → S b,fun w S v => SG w 0 S v l ∧ ∀ b,v.ownBlock = some b → S b,
  fun w w' S v t h => ⟨h.1.keep (t.mono (fun b hb => hb.2.elim id (fun e => h.2 b e))),h.2⟩,fun w S S' v t h => ⟨h.1.mono (fun b _ hb => t b hb),fun b hb => t b (h.2 b hb)⟩,
  fun w w' S v t h => ⟨h.1.keep (t.mono (fun b hb => hb.2.elim id (fun e => h.2 b e))),h.2⟩,fun w S S' v t h => ⟨h.1.mono (fun b _ hb => t b hb),fun b hb => t b (h.2 b hb)⟩,fun w S v h => h⟩
theorem RdV.nds {w : World} {S : Nat → Prop} {v : Value} {l : List Nd} (r : RdV w S v (ndsO l)) : RdV w S v (ndsDt l):=SG.rdL r.1 r.2
theorem SN.rdO {w : World} {lo : Nat} {v : Value} {l : List Nd} (s : SN w lo v l) : RdV w (fun b => lo ≤ b ∧ b < w.heap.size) v (ndsO l):=by
 have hb:=s.lt
 have h : SG w 0 (fun b => lo ≤ b ∧ b < w.heap.size) v l:=(SG.low (SG.mono (s.sg) (fun b hlt h => ⟨h,hlt⟩)) (Nat.zero_le _))
 exact ⟨h,fun b hb' => hb b hb'⟩
theorem SG.callE {w W : World} {lo g cap : Nat} {L : Nat → Prop} {l : List Nd} (s : SG w lo L (.slice (some ⟨g,0,none⟩) l.length cap) l) (hL : ∀ b,w.heap.size ≤ b → L b) {d : Nat} (hd : d < l.length) {x : Value} {es : List En} (hB : Below w.heap.size w W) (hg : g < w.heap.size)
  (hx : RdV W (fun b => ((L b ∧ b < w.heap.size ∧ b ≠ g) ∨ w.heap.size ≤ b) ∧ b < W.heap.size) x (ensO es)) : SG (W.setCell ⟨g,d * 9 + 8,none⟩ x) lo L (.slice (some ⟨g,0,none⟩) l.length cap) (l.set d ((l[d]?.getD nd0).setEs es)):=
 SG.setE (s.step hB) hd (RdV.mono (fun b hb => ⟨hb.1.elim (fun h => h.1) (fun h => hL b h),hb.2,hb.1.elim (fun h => h.2.2) (fun h => by omega)⟩) hx)
theorem length_cutE (es : List En) (e : Nat) : (cutE es e).length ≤ es.length:=by unfold cutE; simp; omega
def Nd.setLk (n : Nd) (k : Int) : Nd:=⟨n.h,n.par,k,n.val,n.es⟩
def Nd.setVal (n : Nd) (k : Int) : Nd:=⟨n.h,n.par,n.links,k,n.es⟩
def Nd.setPar (n : Nd) (h : Hd) : Nd:=⟨n.h,h,n.links,n.val,n.es⟩
theorem SG.setLk {L : Nat → Prop} {w : World} {lo g cap m : Nat} {l : List Nd} (s : SG w lo L (.slice (some ⟨g,0,none⟩) m cap) l) {d : Nat} (hd : d < l.length) (k : Int) : SG (w.setCell ⟨g,d * 9 + 6,none⟩ (.i k)) lo L (.slice (some ⟨g,0,none⟩) m cap) (l.set d ((l[d]?.getD nd0).setLk k)):=
 SG.setN s hd (by omega) rfl (fun _ => rfl) (fun x j' h1 h2 => by
  match j',h1 with
  | 0,_ => rfl
  | 1,_ => rfl
  | 2,_ => rfl
  | 3,_ => rfl
  | 4,_ => rfl
  | 5,_ => rfl
  | 6,_ => omega
  | 7,_ => rfl)
theorem SG.setVal {L : Nat → Prop} {w : World} {lo g cap m : Nat} {l : List Nd} (s : SG w lo L (.slice (some ⟨g,0,none⟩) m cap) l) {d : Nat} (hd : d < l.length) (k : Int) : SG (w.setCell ⟨g,d * 9 + 7,none⟩ (.i k)) lo L (.slice (some ⟨g,0,none⟩) m cap) (l.set d ((l[d]?.getD nd0).setVal k)):=
 SG.setN s hd (by omega) rfl (fun _ => rfl) (fun x j' h1 h2 => by
  match j',h1 with
  | 0,_ => rfl
  | 1,_ => rfl
  | 2,_ => rfl
  | 3,_ => rfl
  | 4,_ => rfl
  | 5,_ => rfl
  | 6,_ => rfl
  | 7,_ => omega)
theorem SG.setPar {L : Nat → Prop} {w : World} {lo g cap m : Nat} {l : List Nd} (s : SG w lo L (.slice (some ⟨g,0,none⟩) m cap) l) {d : Nat} (hd : d < l.length) (h : Hd) : SG (((w.setCell ⟨g,d * 9 + 3,none⟩ (.i h.sh)).setCell ⟨g,d * 9 + 4,none⟩ (.i h.ino)).setCell ⟨g,d * 9 + 5,none⟩ (.bool h.dir)) lo L (.slice (some ⟨g,0,none⟩) m cap) (l.set d ((l[d]?.getD nd0).setPar h)):=by
 have s1:=SG.setN s hd (j:=3) (u:=.i h.sh) (n:=(l[d]?.getD nd0).setPar (h.sh,(l[d]?.getD nd0).par.ino,(l[d]?.getD nd0).par.dir)) (by omega) rfl (fun _ => rfl) (fun x j' h1 h2 => by
  match j',h1 with
  | 0,_ => rfl
  | 1,_ => rfl
  | 2,_ => rfl
  | 3,_ => omega
  | 4,_ => rfl
  | 5,_ => rfl
  | 6,_ => rfl
  | 7,_ => rfl)
 have s2:=SG.setN s1 (d:=d) (by simpa using hd) (j:=4) (u:=.i h.ino) (n:=(l[d]?.getD nd0).setPar (h.sh,h.ino,(l[d]?.getD nd0).par.dir)) (by omega) (by rw [List.getElem?_set_self hd]; rfl) (fun _ => rfl) (fun x j' h1 h2 => by
  rw [List.getElem?_set_self hd]
  match j',h1 with
  | 0,_ => rfl
  | 1,_ => rfl
  | 2,_ => rfl
  | 3,_ => rfl
  | 4,_ => omega
  | 5,_ => rfl
  | 6,_ => rfl
  | 7,_ => rfl)
 rw [List.set_set] at s2
 have s3:=SG.setN s2 (d:=d) (by simpa using hd) (j:=5) (u:=.bool h.dir) (n:=(l[d]?.getD nd0).setPar h) (by omega) (by rw [List.getElem?_set_self hd]; rfl) (fun _ => rfl) (fun x j' h1 h2 => by
  rw [List.getElem?_set_self hd]
  match j',h1 with
  | 0,_ => rfl
  | 1,_ => rfl
  | 2,_ => rfl
  | 3,_ => rfl
  | 4,_ => rfl
  | 5,_ => omega
  | 6,_ => rfl
  | 7,_ => rfl)
 rw [List.set_set] at s3
 exact s3
def cutN (l : List Nd) (d e : Nat) : List Nd:=l.set d ((l[d]?.getD nd0).setEs (cutE (l[d]?.getD nd0).es e))
def addN (l : List Nd) (d : Nat) (nm : List Int) (h : Hd) : List Nd:=l.set d ((l[d]?.getD nd0).setEs (addE (l[d]?.getD nd0).es nm h))
def lkN (l : List Nd) (k : Nat) (c : Int) : List Nd:=l.set k ((l[k]?.getD nd0).setLk ((l[k]?.getD nd0).links + c))
def outN (l : List Nd) (k : Nat) : List Nd:=l.take k ++ l.drop (k + 1)
def dropD (l : List Nd) (d e : Nat) (h : Hd) : List Nd × Int:=
 if h.dir = true ∧ 0 < (l[fi l h]?.getD nd0).es.length then (l,7) else
 if ((cutN l d e)[fi l h]?.getD nd0).links - 1 = 0 then (outN (lkN (cutN l d e) (fi l h) (-1)) (fi l h),0) else (lkN (cutN l d e) (fi l h) (-1),0)
end
section
open Go.Maps
theorem rowHd : (48 : TypeId) < Tryz.prog.types.size:=of_decide_eq_true (by kernel_rfl)
theorem cellsHd : Tryz.prog.cellsOf 48 = 3:=by kernel_rfl
theorem wideHd : (match Tryz.prog.underlying 48 with | some (.array _ _) | some (.struct _) => true | _ => false) = true:=by kernel_rfl
theorem laidHd : laidOutB Tryz.prog = true:=by kernel_rfl
theorem lawHd : Keyed Tryz.prog 48:=Keyed.of_law (deep_law_laid laidHd (m:=3) (by omega) rowHd (by kernel_rfl) wideHd)

def HIn (h : Hd) : Prop:=(Lit.int .i64 h.sh).wf = true ∧ (Lit.int .i64 h.ino).wf = true
def klH (h : Hd) : Lit:=.string (keyBytes [.int .i64 h.sh,.int .i64 h.ino,.bool h.dir])
theorem underHd : ∃ fs, Tryz.prog.underlying 48 = some (.struct fs) ∧ fs.all (·.name != "_") = true ∧ fs.toList.map (fun f => (f.type, f.offset)) = [(3, 0), (3, 1), (4, 2)] := ⟨_, Tryz.underlying48, by kernel_rfl, by kernel_rfl⟩
theorem mapM_two (fs : Array Field) (g : TypeId → Nat → Option (List Lit)) : fs.toList.mapM (fun f => g f.type f.offset) = (fs.toList.map (fun f => (f.type,f.offset))).mapM (fun p => g p.1 p.2):=by
 rw [List.mapM_map]; rfl
theorem keyHd {h : Hd} (hh : HIn h) : keyOf Tryz.prog 48 h.v = some (klH h):=by
 obtain ⟨fs,hu,hn,hf⟩:=underHd
 have hkt : Tryz.prog.keyType 48 = true:=by kernel_rfl
 have h3 : Tryz.prog.underlying 3 = some (.int .i64):=by kernel_rfl
 have h4 : Tryz.prog.underlying 4 = some .bool:=by kernel_rfl
 have c3 : Tryz.prog.cellsOf 3 = 1:=by kernel_rfl
 have c4 : Tryz.prog.cellsOf 4 = 1:=by kernel_rfl
 obtain ⟨m,hm⟩ : ∃ m,Tryz.prog.types.size = m + 1:=⟨_,(Nat.succ_pred_eq_of_pos (Nat.lt_of_le_of_lt (Nat.zero_le _) rowHd)).symm⟩
 have hfs:=fun g => mapM_two fs g
 unfold keyOf
 simp only [hu]
 rw [if_pos (by simp [hkt,Value.formed,hu,cellsHd]),hm]
 have hk : Tryz.prog.keyLits (m + 1 + 1) 48 [.int .i64 h.sh,.int .i64 h.ino,.bool h.dir] = some [.int .i64 h.sh,.int .i64 h.ino,.bool h.dir]:=by
  unfold Program.keyLits
  simp only [hu]
  rw [if_pos ⟨by rw [cellsHd]; rfl,hn⟩,hfs (fun t o => Tryz.prog.keyLits (m + 1) t ((([.int .i64 h.sh,.int .i64 h.ino,.bool h.dir] : List Value).drop o).take (Tryz.prog.cellsOf t))),hf]
  simp [Program.keyLits,h3,h4,c3,c4,hh.1,hh.2]
 show Option.map _ (Tryz.prog.keyLits (m + 1 + 1) 48 [.int .i64 h.sh,.int .i64 h.ino,.bool h.dir]) = _
 rw [hk]
 rfl
theorem klH_ne {h g : Hd} (hh : HIn h) (hg : HIn g) (hne : h ≠ g) : klH h ≠ klH g:=by
 intro e
 have h1:=lawHd.inj (keyHd hh) (by rw [e]; exact keyHd hg)
 obtain ⟨a,b,c⟩:=h
 obtain ⟨a2,b2,c2⟩:=g
 simp only [Value.agg.injEq,Array.mk.injEq,List.cons.injEq,Value.int.injEq,Value.bool.injEq,true_and,and_true] at h1
 exact hne (Prod.ext h1.1 (Prod.ext h1.2.1 h1.2.2))

def tokR (v : Value) : Option (DataW Value × List MemPlace):=some (.held v,[])
def MapH {α : Type} (V : α → Value → Prop) (w : World) (b s : Nat) (f : Hd → Option α) : Prop:=
 ∃ D : DataW Value,w.ownsMap Tryz.prog 48 tokR b s D ∧ Maps.size D = s ∧ ∀ h,HIn h → (f h = none → Maps.has D (klH h) = false) ∧ ∀ a,f h = some a → Maps.has D (klH h) = true ∧ ∃ v,V a v ∧ ∀ z,D.atKey (klH h) z = .held v

theorem ownsMap_tight {w : World} {b n : Nat} {D : DataW Value} (h : w.ownsMap Tryz.prog 48 tokR b n D) : w.ownsMap Tryz.prog 48 tokR b (Maps.size D) D:=by
 obtain ⟨es,clock,hb,F,hs,rfl⟩:=h
 exact ⟨es,clock,hb,F,by rw [Maps.size_eq,length_read]; exact Nat.le_refl _,rfl⟩

section
variable {α : Type} {V : α → Value → Prop} {w : World} {b s : Nat} {f : Hd → Option α}
theorem MapH.made (V : α → Value → Prop) (w : World) : MapH V (w.alloc (.map #[] 0)) w.heap.size 0 (fun _ => none):=
 ⟨.map [],World.ownsMap_made w _ _ _,rfl,fun h _ => ⟨fun _ => rfl,fun a ha => by cases ha⟩⟩
theorem MapH.lt (m : MapH V w b s f) : b < w.heap.size:=by obtain ⟨D,hD,_⟩:=m; exact hD.lt
theorem MapH.kept {w' : World} {row : Option Nat} (m : MapH V w b s f) (hg : w.grownBy w' row) (hne : some b ≠ row) : MapH V w' b s f:=by
 obtain ⟨D,hD,h1,h2⟩:=m; exact ⟨D,hD.kept hg hne,h1,h2⟩
theorem MapH.blk {w' : World} (m : MapH V w b s f) (hg : w'.heap[b]? = w.heap[b]?) : MapH V w' b s f:=by
 obtain ⟨D,⟨es,clock,hb,hF⟩,h1,h2⟩:=m; exact ⟨D,⟨es,clock,hg.trans hb,hF⟩,h1,h2⟩
theorem MapH.to {β : Type} {U : β → Value → Prop} (m : MapH V w b s f) (g : Hd → Option β) (hn : ∀ h,g h = none → f h = none) (hs : ∀ h c,g h = some c → ∃ a,f h = some a ∧ ∀ v,V a v → U c v) : MapH U w b s g:=by
 obtain ⟨D,hD,h1,h2⟩:=m
 refine ⟨D,hD,h1,fun h hh => ⟨fun hg => (h2 h hh).1 (hn h hg),fun c hc => ?_⟩⟩
 obtain ⟨a,ha,hv⟩:=hs h c hc
 obtain ⟨x1,v,x2,x3⟩:=(h2 h hh).2 a ha
 exact ⟨x1,v,hv v x2,x3⟩
theorem MapH.put {t e : TypeId} (m : MapH V w b s f) (ht : Tryz.prog.underlying t = some (.map 48 e)) (hn : s < maxLen) {h : Hd} (hh : HIn h) {a : α} {v : Value} (hv : V a v) :
  ∃ w',(Instr.mapUpdate t (.map (some b)) h.v v).run Tryz.prog w = .ok () w' ∧ MapH V w' b (if (f h).isSome then s else s + 1) (fun g => if g = h then some a else f g) ∧ w.grownBy w' (some b):=by
 obtain ⟨D,hD,h1,h2⟩:=m
 obtain ⟨w',hrun,ho,hg⟩:=hD.update lawHd ht hn (keyHd hh) (d:=.held v) (ps:=[]) rfl
 have hty:=hD.tidy lawHd
 have hkl:=lawHd.key (keyHd hh)
 refine ⟨w',hrun,⟨D.put (klH h) (.held v),?_,?_,?_⟩,hg⟩
 ·have h3:=ownsMap_tight ho
  rw [Maps.size_put hty] at h3
  cases hf : f h with
  | none => rw [(h2 h hh).1 hf] at h3; simpa [h1] using h3
  | some a => rw [((h2 h hh).2 a hf).1] at h3; simpa [h1] using h3
 ·rw [Maps.size_put hty]
  cases hf : f h with
  | none => rw [(h2 h hh).1 hf]; simp [h1]
  | some a => rw [((h2 h hh).2 a hf).1]; simp [h1]
 ·intro g hgi
  by_cases hgh : g = h
  ·subst hgh
   refine ⟨fun hc => by simp at hc,fun c hc => ?_⟩
   simp only [if_true,Option.some.injEq] at hc
   subst hc
   exact ⟨Maps.has_put_same hty.isMap hkl _,v,hv,fun z => Maps.atKey_put_same hty.isMap hkl _ z⟩
  ·have hne:=klH_ne hgi hh hgh
   simp only [if_neg hgh]
   refine ⟨fun hc => ?_,fun c hc => ?_⟩
   ·rw [Maps.has_put_other hne]; exact (h2 g hgi).1 hc
   ·obtain ⟨x1,u,x2,x3⟩:=(h2 g hgi).2 c hc
    exact ⟨by rw [Maps.has_put_other hne]; exact x1,u,x2,fun z => by rw [Maps.atKey_put_other hne]; exact x3 z⟩
theorem MapH.look {t e : TypeId} (m : MapH V w b s f) (ht : Tryz.prog.underlying t = some (.map 48 e)) {z : Value} (hz : (zeroValue e).run Tryz.prog w = .ok z w) {h : Hd} (hh : HIn h) :
  ∃ v,(Instr.lookup t (.map (some b)) h.v false).run Tryz.prog w = .ok v w ∧ (f h = none → v = z) ∧ ∀ a,f h = some a → V a v:=by
 obtain ⟨D,hD,h1,h2⟩:=m
 obtain ⟨v,ps,hrun,hR⟩:=hD.lookup lawHd ht hz (zd:=.held z) (zp:=[]) rfl (keyHd hh)
 simp only [tokR,Option.some.injEq,Prod.mk.injEq] at hR
 refine ⟨v,hrun,fun hf => ?_,fun a hf => ?_⟩
 ·rw [Maps.atKey_of_not_has ((h2 h hh).1 hf)] at hR
  exact DataW.held.inj hR.1
 ·obtain ⟨_,u,hu,hat⟩:=(h2 h hh).2 a hf
  rw [hat] at hR
  rw [DataW.held.inj hR.1]; exact hu
theorem MapH.look_ok {t e : TypeId} (m : MapH V w b s f) (ht : Tryz.prog.underlying t = some (.map 48 e)) {z : Value} (hz : (zeroValue e).run Tryz.prog w = .ok z w) {h : Hd} (hh : HIn h) :
  ∃ v,(Instr.lookup t (.map (some b)) h.v true).run Tryz.prog w = .ok (.tuple #[v,.bool (f h).isSome]) w ∧ (f h = none → v = z) ∧ ∀ a,f h = some a → V a v:=by
 obtain ⟨D,hD,h1,h2⟩:=m
 obtain ⟨v,ps,hrun,hR⟩:=hD.look_ok lawHd ht hz (zd:=.held z) (zp:=[]) rfl (keyHd hh)
 simp only [tokR,Option.some.injEq,Prod.mk.injEq] at hR
 cases hf : f h with
 | none =>
  have h3:=(h2 h hh).1 hf
  rw [h3] at hrun
  rw [Maps.atKey_of_not_has h3] at hR
  exact ⟨v,hrun,(fun _ => DataW.held.inj hR.1),(fun a ha => by cases ha)⟩
 | some a =>
  obtain ⟨h3,u,hu,hat⟩:=(h2 h hh).2 a hf
  rw [h3] at hrun
  rw [hat] at hR
  exact ⟨v,hrun,(fun hc => by cases hc),(fun c hc => by cases hc; rw [DataW.held.inj hR.1]; exact hu)⟩
theorem MapH.len {t e : TypeId} (m : MapH V w b s f) (ht : Tryz.prog.underlying t = some (.map 48 e)) (ty : TypeId) : (Builtin.len_ #[t] ty #[.map (some b)]).run Tryz.prog w = .ok (.int .i64 s) w:=by
 obtain ⟨D,hD,h1,h2⟩:=m
 rw [← h1]; exact hD.len ht ty
end
theorem HOk.inn {h : Hd} (hh : HOk h = true) : HIn h:=by
 simp only [HOk,Bool.and_eq_true,decide_eq_true_eq] at hh
 exact ⟨WalkArith.wf_i64 (by omega),WalkArith.wf_i64 (by omega)⟩
theorem hd0_in : HIn hd0:=⟨by decide,by decide⟩
end
section
open Go.Maps
def ndP (n : Nd) (v : Value) : Prop:=∃ a m c,v = ndV n (.slice a m c)
def atH (l : List Nd) (k : Nat) (h : Hd) : Option Nd:=(l.take k).find? (fun n => decide (n.h = h))
def OneH (l : List Nd) : Prop:=∀ i j,i < l.length → j < l.length → (l[i]?.getD nd0).h = (l[j]?.getD nd0).h → i = j
theorem atH_new {l : List Nd} (ho : OneH l) {k : Nat} (hk : k < l.length) : atH l k (l[k]?.getD nd0).h = none:=by
  unfold atH
  rw [List.find?_eq_none]
  intro n hn
  obtain ⟨i,hi,rfl⟩:=List.getElem_of_mem hn
  have hi2 : i < k ∧ i < l.length := by have h9 : i < min k l.length := by simpa using hi
                                        omega
  simp only [List.getElem_take,decide_eq_true_eq]
  intro he
  have:=ho i k hi2.2 hk (by rw [List.getElem?_eq_getElem hi2.2]; exact he)
  omega
theorem atH_next {l : List Nd} (ho : OneH l) {k : Nat} (hk : k < l.length) : (fun g => if g = (l[k]?.getD nd0).h then some (l[k]?.getD nd0) else atH l k g) = atH l (k + 1):=by
  funext g
  have hg : l[k]?.getD nd0 = l[k]:=by rw [List.getElem?_eq_getElem hk]; rfl
  have ht : l.take (k + 1) = l.take k ++ [l[k]]:=(List.take_append_getElem hk).symm
  have hstep : atH l (k + 1) g = (atH l k g).or ([l[k]].find? (fun n => decide (n.h = g))):=by
    unfold atH; rw [ht,List.find?_append]
  rw [hstep]
  by_cases hgh : g = (l[k]?.getD nd0).h
  · rw [if_pos hgh]
    have h1:=atH_new ho hk
    rw [← hgh] at h1
    rw [h1,hg] at *
    simp [hgh]
  · rw [if_neg hgh]
    rw [hg] at hgh
    have h2 : [l[k]].find? (fun n => decide (n.h = g)) = none:=by
      simp only [List.find?_cons,List.find?_nil]
      rw [decide_eq_false (fun h => hgh h.symm)]
    rw [h2]; simp

section
variable {α : Type} {V : α → Value → Prop} {w : World} {b s : Nat} {f : Hd → Option α}
theorem MapH.alloc (m : MapH V w b s f) (o : Obj) : MapH V (w.alloc o) b s f:=m.kept (World.grownBy_alloc w o none) (by simp)
end

theorem wpList_putH {α : Type} {V : α → Value → Prop} (w : World) {ops : Array Oper} {rest : List Oper} {o : Oper} {a : Act} {Q : Exit → Act → World → Prop}
    (hg : o.guard = none) (m x v : Operand) (t : TypeId) (hop : o.op = Op.mapUpdate t m x v) (e : TypeId) (ht : Tryz.prog.underlying t = some (.map 48 e)) (b s : Nat) (f : Hd → Option α)
    (hm : a.eval m = .map (some b)) (M : MapH V w b s f) (hn : s < maxLen) (h : Hd) (hh : HIn h) (hx : a.eval x = h.v) (c : α) (hv : V c (a.eval v))
    (hK : ∀ w',MapH V w' b (if (f h).isSome then s else s + 1) (fun g => if g = h then some c else f g) → w.grownBy w' (some b) → wpList Tryz.prog ops Q rest (a.put o.dst undef) w') :
    wpList Tryz.prog ops Q (o :: rest) a w:=by
  refine wpList_plain hg fun K' hK' => ?_
  obtain ⟨w',hrun,r1,r2⟩:=M.put ht hn hh hv
  unfold Oper.wp
  simp [execOp,hop,hm,hx,hrun,Result.andThen]
  exact hK' _ _ (hK w' r1 r2)

set_option maxRecDepth 100000 in
set_option maxHeartbeats 1000000 in
theorem nodesByHandle_any (x : Value) (l : List Nd) (S : Nat → Prop) (w : World) (r : RdV w S x (ndsDt l)) (hl : l.length ≤ 2097152) (ho : OneH l) (hin : ∀ i,i < l.length → HIn (l[i]?.getD nd0).h) :
    Calls Tryz.prog 83 #[x] w fun e w' => e = .returned (.map (some w.heap.size)) ∧ Below w.heap.size w w' ∧ MapH ndP w' w.heap.size l.length (atH l l.length):=by
  obtain ⟨a,cap,rfl,_⟩:=RdV.sliced r
  have HR : Hid (∀ W,Below w.heap.size w W → RdV W S (.slice a l.length cap) (.rows 77 9 l.length (fun i j => ndCell (l[i]?.getD nd0) j))):=RdV.old r
  obtain ⟨n,hn⟩ : ∃ n,l.length = n:=⟨_,rfl⟩
  have HN : Hid _:=hn
  have HST : Hid (∀ k,k < n → (fun g => if g = (l[k]?.getD nd0).h then some (l[k]?.getD nd0) else atH l k g) = atH l (k + 1) ∧ atH l k (l[k]?.getD nd0).h = none):=fun k hk => ⟨atH_next ho (by rw [hn]; exact hk),atH_new ho (by rw [hn]; exact hk)⟩
  have HIN : Hid (∀ i,i < l.length → HIn (l[i]?.getD nd0).h):=hin
  rw [hn] at hl HR HIN ⊢
  clear r hn ho hin
  have hmm:=@run_makeMap Tryz.prog
  go_enter Tryz.func83,Tryz.ntmps83
  go_wp2
  go_loopw [9] (fun i wr => ∃ k : Nat,k ≤ n ∧ i = .i k ∧ Below w.heap.size w wr ∧ MapH ndP wr w.heap.size k (atH l k)) (fun i _ => n - (intOf i).toNat)
  case atStart => exact ⟨0,Nat.zero_le _,rfl,Below.newH _,MapH.made _ _⟩
  case round =>
    clear hmm
    obtain ⟨k,hk,rfl,hbel,M⟩:=hrel
    have HM : Hid (MapH ndP wr w.heap.size k (atH l k)):=M
    by_cases hlt : k < n
    case neg =>
      have he : k = n:=by omega
      subst he
      go_wp2
      go_ret
      exact ⟨rfl,hbel,HM.out⟩
    obtain ⟨b,off,rfl,hbl,_,hx⟩:=RdV.at (HR.out wr hbel) hlt
    obtain ⟨x0,g0,s0⟩:=hx 0 (by omega)
    obtain ⟨x1,g1,s1⟩:=hx 1 (by omega)
    obtain ⟨x2,g2,s2⟩:=hx 2 (by omega)
    obtain ⟨x3,g3,s3⟩:=hx 3 (by omega)
    obtain ⟨x4,g4,s4⟩:=hx 4 (by omega)
    obtain ⟨x5,g5,s5⟩:=hx 5 (by omega)
    obtain ⟨x6,g6,s6⟩:=hx 6 (by omega)
    obtain ⟨x7,g7,s7⟩:=hx 7 (by omega)
    obtain ⟨x8,g8,s8⟩:=hx 8 (by omega)
    have HSK:=HST.out k hlt
    have HIK:=HIN.out k hlt
    generalize l[k]?.getD nd0 = e at *
    obtain ⟨⟨p,q,d⟩,⟨p2,q2,d2⟩,lk,vl,es⟩:=e
    obtain rfl : x0 = .i p:=s0
    obtain rfl : x1 = .i q:=s1
    obtain rfl : x2 = .bool d:=s2
    obtain rfl : x3 = .i p2:=s3
    obtain rfl : x4 = .i q2:=s4
    obtain rfl : x5 = .bool d2:=s5
    obtain rfl : x6 = .i lk:=s6
    obtain rfl : x7 = .i vl:=s7
    obtain ⟨xa,xc,rfl,_⟩:=RdV.sliced s8
    simp only [Nat.add_zero] at g0
    generalize es.length = xn at *
    have hws:=M.lt
    have HS : Hid _:=HSK
    have HI : Hid (HIn (p,q,d)):=HIK
    clear HSK HIK hx M s8 HST HIN
    go_wp2_with (at_mapUpdate; refine wpList_putH (α:=Nd) (V:=ndP) _ rfl _ _ _ 148 rfl 77 Tryz.underlying148 w.heap.size k (atH l k) rfl (HM.out.alloc _) (by unfold maxLen; omega) (p,q,d) HI.out rfl (Nd.mk (p,q,d) (p2,q2,d2) lk vl es) (Exists.intro xa (Exists.intro xn (Exists.intro xc rfl))) ?_; intro w1 hm1 hgr1)
    have R0:=HS.out.2
    rw [R0] at hm1
    have R1 : MapH ndP w1 w.heap.size (k + 1) (atH l (k + 1)):=by rw [← HS.out.1]; simpa using hm1
    have R2 : Below w.heap.size w w1:=by
      refine Below.grown ?_ hgr1 ?_ (fun j hj => by cases hj; exact Nat.le_refl _)
      · exact hbel.alloc hbel.size _
      · exact Nat.le_trans hbel.size (by simp)
    clear hm1 hgr1 R0
    go_wp2
    first
    | exact ⟨⟨k + 1,by omega,by go_num,R2,R1⟩,by simp [intOf]; omega⟩
    | (go_roundw
       case rel => exact ⟨k + 1,by omega,by go_num,R2,R1⟩
       case measure => simp [intOf]; omega)
end
section
def ndX (X : Hd → Value) (n : Nd) (v : Value) : Prop:=v = ndV n (X n.h)
theorem ndX_of {X : Hd → Value} {n : Nd} {a : Option Addr} {m c : Nat} (h : Value.slice a m c = X n.h) : ndX X n (ndV n (.slice a m c)):=by unfold ndX; rw [← h]
def EntsAt (w : World) (x : Value) (l : List Nd) (X : Hd → Value) : Prop:=∀ b off n c,x = .slice (some ⟨b,off,none⟩) n c → ∀ k,k < l.length → b < w.heap.size ∧ w.cell? ⟨b,off + k * 9 + 8,none⟩ = some (X (l[k]?.getD nd0).h)
set_option maxRecDepth 100000 in
set_option maxHeartbeats 1000000 in
theorem nodesX_any (x : Value) (l : List Nd) (S : Nat → Prop) (w : World) (r : RdV w S x (ndsDt l)) (X : Hd → Value) (hX : EntsAt w x l X) (hl : l.length ≤ 2097152) (ho : OneH l) (hin : ∀ i,i < l.length → HIn (l[i]?.getD nd0).h) :
    Calls Tryz.prog 83 #[x] w fun e w' => e = .returned (.map (some w.heap.size)) ∧ Below w.heap.size w w' ∧ MapH (ndX X) w' w.heap.size l.length (atH l l.length):=by
  obtain ⟨a,cap,rfl,_⟩:=RdV.sliced r
  have HR : Hid (∀ W,Below w.heap.size w W → RdV W S (.slice a l.length cap) (.rows 77 9 l.length (fun i j => ndCell (l[i]?.getD nd0) j))):=RdV.old r
  obtain ⟨n,hn⟩ : ∃ n,l.length = n:=⟨_,rfl⟩
  have HN : Hid _:=hn
  have HST : Hid (∀ k,k < n → (fun g => if g = (l[k]?.getD nd0).h then some (l[k]?.getD nd0) else atH l k g) = atH l (k + 1) ∧ atH l k (l[k]?.getD nd0).h = none):=fun k hk => ⟨atH_next ho (by rw [hn]; exact hk),atH_new ho (by rw [hn]; exact hk)⟩
  have HIN : Hid (∀ i,i < l.length → HIn (l[i]?.getD nd0).h):=hin
  have HXA : Hid (EntsAt w (.slice a l.length cap) l X):=hX
  rw [hn] at hl HR HIN ⊢
  clear r hn ho hin hX
  have hmm:=@run_makeMap Tryz.prog
  go_enter Tryz.func83,Tryz.ntmps83
  go_wp2
  go_loopw [9] (fun i wr => ∃ k : Nat,k ≤ n ∧ i = .i k ∧ Below w.heap.size w wr ∧ MapH (ndX X) wr w.heap.size k (atH l k)) (fun i _ => n - (intOf i).toNat)
  case atStart => exact ⟨0,Nat.zero_le _,rfl,Below.newH _,MapH.made _ _⟩
  case round =>
    clear hmm
    obtain ⟨k,hk,rfl,hbel,M⟩:=hrel
    have HM : Hid (MapH (ndX X) wr w.heap.size k (atH l k)):=M
    by_cases hlt : k < n
    case neg =>
      have he : k = n:=by omega
      subst he
      go_wp2
      go_ret
      exact ⟨rfl,hbel,HM.out⟩
    obtain ⟨b,off,rfl,hbl,_,hx⟩:=RdV.at (HR.out wr hbel) hlt
    obtain ⟨x0,g0,s0⟩:=hx 0 (by omega)
    obtain ⟨x1,g1,s1⟩:=hx 1 (by omega)
    obtain ⟨x2,g2,s2⟩:=hx 2 (by omega)
    obtain ⟨x3,g3,s3⟩:=hx 3 (by omega)
    obtain ⟨x4,g4,s4⟩:=hx 4 (by omega)
    obtain ⟨x5,g5,s5⟩:=hx 5 (by omega)
    obtain ⟨x6,g6,s6⟩:=hx 6 (by omega)
    obtain ⟨x7,g7,s7⟩:=hx 7 (by omega)
    obtain ⟨x8,g8,s8⟩:=hx 8 (by omega)
    have h8 : x8 = X (l[k]?.getD nd0).h:=by
      have h1:=HXA.out b off _ _ rfl k (by rw [HN.out]; exact hlt)
      have h2:=(hbel.cell (p:=⟨b,off + k * 9 + 8,none⟩) h1.1).trans h1.2
      rw [g8] at h2
      exact Option.some.inj h2
    have HSK:=HST.out k hlt
    have HIK:=HIN.out k hlt
    generalize l[k]?.getD nd0 = e at *
    obtain ⟨⟨p,q,d⟩,⟨p2,q2,d2⟩,lk,vl,es⟩:=e
    obtain rfl : x0 = .i p:=s0
    obtain rfl : x1 = .i q:=s1
    obtain rfl : x2 = .bool d:=s2
    obtain rfl : x3 = .i p2:=s3
    obtain rfl : x4 = .i q2:=s4
    obtain rfl : x5 = .bool d2:=s5
    obtain rfl : x6 = .i lk:=s6
    obtain rfl : x7 = .i vl:=s7
    obtain ⟨xa,xc,rfl,_⟩:=RdV.sliced s8
    have H8 : Hid (Value.slice xa es.length xc = X (p,q,d)):=h8
    clear h8
    simp only [Nat.add_zero] at g0
    generalize es.length = xn at *
    have hws:=M.lt
    have HS : Hid _:=HSK
    have HI : Hid (HIn (p,q,d)):=HIK
    clear HSK HIK hx M s8 HST HIN
    go_wp2_with (at_mapUpdate; refine wpList_putH (α:=Nd) (V:=ndX X) _ rfl _ _ _ 148 rfl 77 Tryz.underlying148 w.heap.size k (atH l k) rfl (HM.out.alloc _) (by unfold maxLen; omega) (p,q,d) HI.out rfl (Nd.mk (p,q,d) (p2,q2,d2) lk vl es) (ndX_of H8.out) ?_; intro w1 hm1 hgr1)
    have R0:=HS.out.2
    rw [R0] at hm1
    have R1 : MapH (ndX X) w1 w.heap.size (k + 1) (atH l (k + 1)):=by rw [← HS.out.1]; simpa using hm1
    have R2 : Below w.heap.size w w1:=by
      refine Below.grown ?_ hgr1 ?_ (fun j hj => by cases hj; exact Nat.le_refl _)
      · exact hbel.alloc hbel.size _
      · exact Nat.le_trans hbel.size (by simp)
    clear hm1 hgr1 R0
    go_wp2
    first
    | exact ⟨⟨k + 1,by omega,by go_num,R2,R1⟩,by simp [intOf]; omega⟩
    | (go_roundw
       case rel => exact ⟨k + 1,by omega,by go_num,R2,R1⟩
       case measure => simp [intOf]; omega)
end
section
def idxH (l : List Nd) (h : Hd) : Nat:=l.findIdx (fun n => decide (n.h = h))
theorem idxH_at {l : List Nd} (ho : OneH l) {i : Nat} (hi : i < l.length) : idxH l (l[i]?.getD nd0).h = i:=by
 have hg : l[i]?.getD nd0 = l[i]:=by rw [List.getElem?_eq_getElem hi]; rfl
 have hlt : idxH l (l[i]?.getD nd0).h < l.length:=List.findIdx_lt_length_of_exists ⟨l[i],List.getElem_mem hi,by rw [hg]; simp⟩
 have hp:=List.findIdx_getElem (w:=hlt)
 have hp' : (l[idxH l (l[i]?.getD nd0).h]'hlt).h = (l[i]?.getD nd0).h:=of_decide_eq_true hp
 exact ho _ _ hlt hi (by rw [List.getElem?_eq_getElem hlt]; exact hp')
theorem entsX {w : World} {S : Nat → Prop} {v : Value} {l : List Nd} (ho : OneH l) (o : OwV w S v (ndsDt l)) :
  ∃ (X : Hd → Value) (Q : Hd → Nat → Prop),EntsAt w v l X ∧ (∀ i,i < l.length → OwV w (Q (l[i]?.getD nd0).h) (X (l[i]?.getD nd0).h) (ensDt (l[i]?.getD nd0).es)) ∧ (∀ i b,i < l.length → Q (l[i]?.getD nd0).h b → S b ∧ v.ownBlock ≠ some b) ∧
   (∀ i j b,i < l.length → j < l.length → Q (l[i]?.getD nd0).h b → Q (l[j]?.getD nd0).h b → i = j):=by
 unfold ndsDt at o
 obtain ⟨V,C,Qs,h1,hS,h3,h4,h5,h6⟩:=OwV.inv o
 refine ⟨fun h => V (idxH l h) 8,fun h => Qs (idxH l h) 8,?_,?_,?_,?_⟩
 ·intro b off n c hv k hk
  rcases h1.2 with ⟨hv',_⟩ | ⟨g,cp,cur,hv',hg,hh,hnc,hm,_⟩
  ·rw [hv] at hv'; cases hv'
  ·rw [hv] at hv'
   simp only [Value.slice.injEq,Option.some.injEq,Addr.mk.injEq,and_true] at hv'
   obtain ⟨⟨rfl,rfl⟩,rfl,rfl⟩:=hv'
   rw [hv] at h1
   refine ⟨lt_of_block hh,?_⟩
   have hc:=World.ownsRow.cellAt h1 (k * 9 + 8) (place_lt hk (by omega))
   rw [h3 k 8 hk (by omega)] at hc
   simp only [idxH_at ho hk]
   rw [← hc]
   congr 2
   omega
 ·intro i hi
  simp only [idxH_at ho hi]
  exact h4 i 8 hi (by omega)
 ·intro i b hi hb
  simp only [idxH_at ho hi] at hb
  exact h5 i 8 b hi (by omega) hb
 ·intro i j b hi hj hb hb'
  simp only [idxH_at ho hi] at hb
  simp only [idxH_at ho hj] at hb'
  exact (h6 i 8 j 8 b hi (by omega) hj (by omega) hb hb').1
end
section
open Go.Maps
def climb (f : Hd → Option Nd) : Nat → Hd → Bool
  | 0,_ => false
  | k + 1,h => if h = rootH then true else climb f k ((f h).getD nd0).par
theorem zeroNd (w : World) : (zeroValue 77).run Tryz.prog w = .ok (ndV nd0 (.n0)) w:=by kernel_rfl

theorem wpList_lookN (w : World) {ops : Array Oper} {rest : List Oper} {o : Oper} {a : Act} {Q : Exit → Act → World → Prop}
    (hg : o.guard = none) (m x : Operand) (hop : o.op = Op.lookup 148 m x false) (b s : Nat) (f : Hd → Option Nd)
    (hm : a.eval m = .map (some b)) (M : MapH ndP w b s f) (h : Hd) (hh : HIn h) (hx : a.eval x = h.v)
    (hK : ∀ ya yn yc,wpList Tryz.prog ops Q rest (a.put o.dst (ndV ((f h).getD nd0) (.slice ya yn yc))) w) :
    wpList Tryz.prog ops Q (o :: rest) a w:=by
  refine wpList_plain hg fun K' hK' => ?_
  obtain ⟨v,hrun,r1,r2⟩:=M.look Tryz.underlying148 (zeroNd w) hh
  obtain ⟨ya,yn,yc,rfl⟩ : ∃ ya yn yc,v = ndV ((f h).getD nd0) (.slice ya yn yc):=by
    cases hf : f h with
    | none => exact ⟨none,0,0,r1 hf⟩
    | some c => exact r2 c hf
  unfold Oper.wp
  simp [execOp,hop,hm,hx,hrun,Result.andThen]
  exact hK' _ _ (hK ya yn yc)

theorem parN_run (h g : Hd) (lk vl : Int) (y : Value) (w : World) : (Instr.field 77 (.agg #[.i h.sh,.i h.ino,.bool h.dir,.i g.sh,.i g.ino,.bool g.dir,.i lk,.i vl,y]) 1).run Tryz.prog w = .ok (.agg #[.i g.sh,.i g.ino,.bool g.dir]) w:=by kernel_rfl
theorem wpList_parN (w : World) {ops : Array Oper} {rest : List Oper} {o : Oper} {a : Act} {Q : Exit → Act → World → Prop}
    (hg : o.guard = none) (x : Operand) (hop : o.op = Op.field 77 x 1) (n : Nd) (y : Value) (hx : a.eval x = ndV n y)
    (hK : wpList Tryz.prog ops Q rest (a.put o.dst n.par.v) w) : wpList Tryz.prog ops Q (o :: rest) a w:=by
  refine wpList_plain hg fun K' hK' => ?_
  have hrun:=parN_run n.h n.par n.links n.val y w
  unfold Oper.wp
  simp [execOp,hop,hx,hrun,Result.andThen]
  exact hK' _ _ hK

theorem VarA.set3 {w : World} {b : Nat} {T : TypeId} {x0 x1 x2 y0 y1 y2 : Value} (h : VarA w b T #[x0,x1,x2]) : VarA (((w.setCell ⟨b,0,none⟩ y0).setCell ⟨b,1,none⟩ y1).setCell ⟨b,2,none⟩ y2) b T #[y0,y1,y2]:=by
  have h2:=(((h.set 0 y0).set 1 y1).set 2 y2)
  simpa using h2
theorem Below.set3 {B : Nat} {a w : World} {c : Nat} {y0 y1 y2 : Value} (h : Below B a w) (hc : B ≤ c) : Below B a (((w.setCell ⟨c,0,none⟩ y0).setCell ⟨c,1,none⟩ y1).setCell ⟨c,2,none⟩ y2):=(((h.setCell (p:=⟨c,0,none⟩) hc y0).setCell (p:=⟨c,1,none⟩) hc y1).setCell (p:=⟨c,2,none⟩) hc y2)

set_option maxRecDepth 100000 in
set_option maxHeartbeats 1000000 in
theorem comesToRoot_any (b s : Nat) (f : Hd → Option Nd) (h : Hd) (w : World) (M : MapH ndP w b s f) (hs : s ≤ 2097152) (hh : HIn h) (hp : ∀ g n,f g = some n → HIn n.par) :
    Calls Tryz.prog 115 #[.map (some b),h.v] w fun e w' => e = .returned (.bool (climb f s h)) ∧ Below w.heap.size w w':=by
  have hbs:=M.lt
  have HM : Hid (∀ W,Below w.heap.size w W → MapH ndP W b s f):=fun W hW => M.blk (hW.block b hbs)
  have HP : Hid (∀ g,HIn ((f g).getD nd0).par):=fun g => by
    cases hf : f g with
    | none => exact hd0_in
    | some n => exact hp g n hf
  have HRT : Hid (∀ W,_):=fun W => implRootH_any W
  obtain ⟨res,hres⟩ : ∃ res,climb f s h = res:=⟨_,rfl⟩
  have HC : Hid (climb f (s - 0) h = res):=hres
  have HH : Hid (HIn h):=hh
  rw [hres]
  obtain ⟨p0,q0,d0⟩:=h
  have hlen:=M.len (w:=w) Tryz.underlying148
  have hlen2:=(HM.out _ (Below.newH (w:=w) (.cells #[.i p0,.i q0,.bool d0] 48))).len Tryz.underlying148
  clear M hp hres hh
  go_enter Tryz.func115,Tryz.ntmps115
  go_wp2
  clear hlen hlen2
  go_loopw [7] (fun i wr => ∃ k : Nat,k ≤ s ∧ i = .i k ∧ Below w.heap.size w wr ∧ ∃ g : Hd,VarA wr w.heap.size 48 #[.i g.sh,.i g.ino,.bool g.dir] ∧ Hid (HIn g) ∧ Hid (climb f (s - k) g = res)) (fun i _ => s - (intOf i).toNat)
  case atStart => exact ⟨0,Nat.zero_le _,rfl,Below.newH _,(p0,q0,d0),VarA.new w _ _,HH.out,HC.out⟩
  case round =>
    clear HH HC
    obtain ⟨k,hk,rfl,hbel,⟨p,q,d⟩,v0,HG,HC⟩:=hrel
    replace v0 : VarA wr w.heap.size 48 #[.i p,.i q,.bool d]:=v0
    by_cases hlt : k < s
    case neg =>
      have HF : Hid (false = res):=by rw [← HC.out]; show _ = _; rw [show s - k = 0 by omega]; rfl
      clear v0
      go_wp2
      go_ret
      exact ⟨by rw [← HF.out]; rfl,hbel⟩
    have HC2 : Hid ((if ((p,q,d) : Hd) = rootH then true else climb f (s - (k + 1)) ((f (p,q,d)).getD nd0).par) = res):=by
      rw [← HC.out]; show _ = _; rw [show s - k = (s - (k + 1)) + 1 by omega]; rfl
    clear HC
    obtain ⟨b0,b1,b2⟩:=v0.l3
    have hl0:=v0.lt
    haveI : Nonempty (Cls wr):=Cls.ne wr
    have k0:=Cls.cell hl0 b0
    have k1:=Cls.cell hl0 b1
    have k2:=Cls.cell hl0 b2
    clear b0 b1 b2
    by_cases hr : ((p,q,d) : Hd) = rootH
    · have HF : Hid (true = res):=by rw [← HC2.out,if_pos hr]; rfl
      have heq : ∀ W : World,(binOp .eql 48 (.agg #[.i p,.i q,.bool d]) (.agg #[.i 0,.i 1,.bool true])).run Tryz.prog W = .ok (.bool true) W:=fun W => by rw [eqH_run,decH_true hr]
      clear HC2 hr
      go_wp2
      refine wp_region_cls (by kernel_rfl) (by kernel_rfl) ?_
      repeat (go_big_quiet_step (first | (go_at_call 65; exact Calls.cls_new (HRT.out _))))
      refine wpQuiet_nil ?_
      rintro w' ⟨⟨w',hb'⟩,rfl⟩
      go_wp2
      go_ret
      exact ⟨by rw [← HF.out]; rfl,hbel.trans (hb'.mono hbel.size)⟩
    have HF : Hid (climb f (s - (k + 1)) ((f (p,q,d)).getD nd0).par = res):=by rw [← HC2.out,if_neg hr]; rfl
    have heq : ∀ W : World,(binOp .eql 48 (.agg #[.i p,.i q,.bool d]) (.agg #[.i 0,.i 1,.bool true])).run Tryz.prog W = .ok (.bool false) W:=fun W => by rw [eqH_run,decH_false hr]
    clear HC2 hr
    go_wp2
    refine wp_region_cls (by kernel_rfl) (by kernel_rfl) ?_
    repeat (go_big_quiet_step (first | (go_at_call 65; exact Calls.cls_new (HRT.out _))))
    refine wpQuiet_nil ?_
    rintro w' ⟨⟨w',hb'⟩,rfl⟩
    have v1:=v0.step hb'
    have hb3:=hbel.trans (hb'.mono hbel.size)
    clear k0 k1 k2 v0 hbel hb' heq hl0
    obtain ⟨b0,b1,b2⟩:=v1.l3
    have fz:=v1.fz
    have HP2:=HP.out (p,q,d)
    obtain ⟨nd,hnd⟩ : ∃ nd,(f (p,q,d)).getD nd0 = nd:=⟨_,rfl⟩
    rw [hnd] at HP2 HF
    have HND : Hid _:=hnd
    have HPP : Hid (HIn nd.par):=HP2
    clear hnd HP2
    obtain ⟨hh9,⟨p2,q2,d2⟩,lk,vl,es⟩:=nd
    have V1 : Hid (VarA w' w.heap.size 48 _):=v1
    clear v1
    go_wp2_with (first | (at_lookup; refine wpList_lookN _ rfl _ _ rfl b s f rfl (HM.out _ hb3) (p,q,d) HG.out rfl ?_; intro la ln lc; rw [HND.out]) | (refine wpList_parN _ rfl (.tmp 14) rfl (Nd.mk hh9 (p2,q2,d2) lk vl es) _ rfl ?_))
    first
    | exact ⟨⟨k + 1,by omega,by go_num,Below.set3 hb3 (Nat.le_refl _),(p2,q2,d2),VarA.set3 V1.out,HPP.out,HF.out⟩,by simp [intOf]; omega⟩
    | (go_roundw
       case rel => exact ⟨k + 1,by omega,by go_num,Below.set3 hb3 (Nat.le_refl _),(p2,q2,d2),VarA.set3 V1.out,HPP.out,HF.out⟩
       case measure => simp [intOf]; omega)
end
section
open Go.Maps
def climbAt (f : Hd → Option Nd) (s : Nat) (l : List Nd) (i : Nat) : Bool:=!(l[i]?.getD nd0).h.dir || climb f s (l[i]?.getD nd0).h

set_option maxRecDepth 100000 in
set_option maxHeartbeats 1000000 in
theorem allCome_any (x : Value) (l : List Nd) (S : Nat → Prop) (b0 s : Nat) (f : Hd → Option Nd) (w : World) (r : RdV w S x (ndsDt l)) (hl : l.length ≤ 2097152) (M : MapH ndP w b0 s f) (hs : s ≤ 2097152) (hin : ∀ i,i < l.length → HIn (l[i]?.getD nd0).h) (hp : ∀ g n,f g = some n → HIn n.par) :
    Calls Tryz.prog 93 #[.map (some b0),x] w fun e w' => e = .returned (.bool ((List.range l.length).all (climbAt f s l))) ∧ Below w.heap.size w w':=by
  obtain ⟨a,cap,rfl,_⟩:=RdV.sliced r
  have HR : Hid (∀ W,Below w.heap.size w W → RdV W S (.slice a l.length cap) (.rows 77 9 l.length (fun i j => ndCell (l[i]?.getD nd0) j))):=RdV.old r
  have hbs:=M.lt
  have HC : Hid (∀ W,Below w.heap.size w W → ∀ h,HIn h → Calls Tryz.prog 115 #[.map (some b0),h.v] W fun e w' => e = .returned (.bool (climb f s h)) ∧ Below W.heap.size W w'):=fun W hW h hh => comesToRoot_any b0 s f h W (M.blk (hW.block b0 hbs)) hs hh hp
  obtain ⟨n,hn⟩ : ∃ n,l.length = n:=⟨_,rfl⟩
  have HIN : Hid (∀ i,i < l.length → HIn (l[i]?.getD nd0).h):=hin
  rw [hn] at hl HR HIN ⊢
  clear r hn hin hp M hs hbs
  go_enter Tryz.func93,Tryz.ntmps93
  go_wp2
  go_loopw [9] (fun i wr => ∃ k : Nat,k ≤ n ∧ i = .i k ∧ Below w.heap.size w wr ∧ Hid ((List.range k).all (climbAt f s l) = true)) (fun i _ => n - (intOf i).toNat)
  case atStart => exact ⟨0,Nat.zero_le _,rfl,Below.refl _ _,by show _ = _; simp⟩
  case round =>
    obtain ⟨k,hk,rfl,hbel,HA⟩:=hrel
    by_cases hlt : k < n
    case neg =>
      have he : k = n:=by omega
      subst he
      go_wp2
      go_ret
      exact ⟨by rw [HA.out]; rfl,hbel⟩
    obtain ⟨b,off,rfl,hbl,_,hx⟩:=RdV.at (HR.out wr hbel) hlt
    obtain ⟨x0,g0,s0⟩:=hx 0 (by omega)
    obtain ⟨x1,g1,s1⟩:=hx 1 (by omega)
    obtain ⟨x2,g2,s2⟩:=hx 2 (by omega)
    obtain ⟨x3,g3,s3⟩:=hx 3 (by omega)
    obtain ⟨x4,g4,s4⟩:=hx 4 (by omega)
    obtain ⟨x5,g5,s5⟩:=hx 5 (by omega)
    obtain ⟨x6,g6,s6⟩:=hx 6 (by omega)
    obtain ⟨x7,g7,s7⟩:=hx 7 (by omega)
    obtain ⟨x8,g8,s8⟩:=hx 8 (by omega)
    have HIK:=HIN.out k hlt
    have HAT : Hid (climbAt f s l k = (!(l[k]?.getD nd0).h.dir || climb f s (l[k]?.getD nd0).h)):=by show _ = _; rfl
    generalize l[k]?.getD nd0 = e at *
    obtain ⟨⟨p,q,d⟩,⟨p2,q2,d2⟩,lk,vl,es⟩:=e
    obtain rfl : x0 = .i p:=s0
    obtain rfl : x1 = .i q:=s1
    obtain rfl : x2 = .bool d:=s2
    obtain rfl : x3 = .i p2:=s3
    obtain rfl : x4 = .i q2:=s4
    obtain rfl : x5 = .bool d2:=s5
    obtain rfl : x6 = .i lk:=s6
    obtain rfl : x7 = .i vl:=s7
    obtain ⟨xa,xc,rfl,_⟩:=RdV.sliced s8
    simp only [Nat.add_zero] at g0
    generalize es.length = xn at *
    have HI : Hid (HIn (p,q,d)):=HIK
    clear HIK hx s8 HIN
    cases d with
    | false =>
      have HF : Hid ((List.range (k + 1)).all (climbAt f s l) = true):=range_all_next _ _ HA.out (by rw [HAT.out]; rfl)
      clear HAT HA HC
      go_wp2
      first
      | exact ⟨⟨k + 1,by omega,by go_num,hbel.alloc hbel.size _,HF.out⟩,by simp [intOf]; omega⟩
      | (go_roundw
         case rel => exact ⟨k + 1,by omega,by go_num,hbel.alloc hbel.size _,HF.out⟩
         case measure => simp [intOf]; omega)
    | true =>
      have HX : Hid (∀ W,Below w.heap.size w W → _):=fun W hW => HC.out W hW (p,q,true) HI.out
      obtain ⟨bc,hbc⟩ : ∃ bc,climb f s (p,q,true) = bc:=⟨_,rfl⟩
      have HAT2 : Hid (climbAt f s l k = bc):=by rw [HAT.out]; show _ = _; rw [← hbc]; rfl
      rw [hbc] at HX
      clear hbc HAT HC
      have HB : Hid (Below w.heap.size w (wr.alloc (.cells #[.i p,.i q,.bool true,.i p2,.i q2,.bool d2,.i lk,.i vl,.slice xa xn xc] 77))):=hbel.alloc hbel.size _
      go_wp2_with fail
      refine Calls.mono (HX.out _ HB.out) ?_
      rintro e w3 ⟨rfl,b_⟩
      have hb4:=HB.out.trans (b_.mono HB.out.size)
      clear HX HB b_ g0 g1 g2 g3 g4 g5 g6 g7 g8
      cases bc with
      | false =>
        have HF : Hid ((List.range n).all (climbAt f s l) = false):=range_all_false _ _ k hlt HAT2.out
        clear HAT2 HA
        go_wp2
        go_ret
        exact ⟨by rw [HF.out]; rfl,hb4⟩
      | true =>
        have HF : Hid ((List.range (k + 1)).all (climbAt f s l) = true):=range_all_next _ _ HA.out HAT2.out
        clear HAT2 HA
        go_wp2
        first
        | exact ⟨⟨k + 1,by omega,by go_num,hb4,HF.out⟩,by simp [intOf]; omega⟩
        | (go_roundw
           case rel => exact ⟨k + 1,by omega,by go_num,hb4,HF.out⟩
           case measure => simp [intOf]; omega)
end
section
open Go.Maps Go.ChangeMaps Go.MapKept
theorem lawHd0 : WideMaps.KeyLaw Tryz.prog 48:=deep_law_laid laidHd (m:=3) (by omega) rowHd (by kernel_rfl) wideHd
theorem setBlock_twice (w : World) (b : Nat) (x y : Obj) : setBlock (setBlock w b x) b y = setBlock w b y:=by
 unfold setBlock; simp

section
variable {α : Type} {V : α → Value → Prop} {w : World} {b s : Nat} {f : Hd → Option α}
theorem MapH.entry {t e : TypeId} (m : MapH V w b s f) (ht : Tryz.prog.underlying t = some (.map 48 e)) {z : Value} (hz : ∀ u : World,(zeroValue e).run Tryz.prog u = .ok z u) (hn : s < maxLen) {h : Hd} (hh : HIn h) :
  ∃ (v0 : Value) (st : Nat) (w1 : World),(Instr.mapEntry t (.map (some b)) h.v).run Tryz.prog w = .ok (.tuple #[v0,.int .i64 st]) w1 ∧ w.grownBy w1 (some b) ∧
   ∀ a v,V a v → ∃ w2,(Instr.entryStore t (.map (some b)) (.int .i64 st) v).run Tryz.prog w1 = .ok () w2 ∧ MapH V w2 b (if (f h).isSome then s else s + 1) (fun g => if g = h then some a else f g) ∧ w.grownBy w2 (some b):=by
 have m0:=m
 obtain ⟨D,⟨es,clock,hb,F,hs,hD⟩,h1,h2⟩:=m
 obtain ⟨v0,st,es1,clock1,hE,_,hS⟩:=WideElems.entry_then_store lawHd0 ht hz hb F (keyHd hh)
 refine ⟨v0,st,_,hE,⟨rfl,rfl,rfl,by simp [setBlock],fun i _ hi => heap_setBlock_other hb _ (fun e => hi (by rw [e]))⟩,fun a v hv => ?_⟩
 obtain ⟨es',clock',hE2,hU⟩:=hS _ v (heap_setBlock_same hb _)
 obtain ⟨w2,hrun,r1,r2⟩:=m0.put ht hn hh hv
 rw [hU] at hrun
 have he : setBlock w b (.map es' clock') = w2:=(Result.ok.inj hrun).2
 rw [setBlock_twice,he] at hE2
 exact ⟨w2,hE2,r1,r2⟩
theorem setBlock_self {w : World} {b : Nat} {o : Obj} (hb : w.heap[b]? = some o) : setBlock w b o = w:=by
 unfold setBlock
 have h1 : w.heap.setIfInBounds b o = w.heap:=by
  apply Array.ext_getElem?
  intro i
  rw [Array.getElem?_setIfInBounds]
  split
  ·rename_i h; subst h; split
   ·exact hb.symm
   ·rename_i h2; rw [Array.getElem?_eq_none (by omega)]
  ·rfl
 rw [h1]
theorem MapH.entryLook {t e : TypeId} (m : MapH V w b s f) (ht : Tryz.prog.underlying t = some (.map 48 e)) {z : Value} (hz : ∀ u : World,(zeroValue e).run Tryz.prog u = .ok z u) (hn : s < maxLen) {h : Hd} (hh : HIn h) {v0 v : Value} {w1 : World}
  (hE : (Instr.mapEntry t (.map (some b)) h.v).run Tryz.prog w = .ok v0 w1) (hL : (Instr.lookup t (.map (some b)) h.v false).run Tryz.prog w = .ok v w) : (Instr.lookup t (.map (some b)) h.v false).run Tryz.prog w1 = .ok v w1:=by
 obtain ⟨D,hD0,h1,h2⟩:=m
 have hD:=hD0
 obtain ⟨es,clock,hb,F,hs,hDe⟩:=hD
 rcases lawHd0.find w (keyHd hh) es.toList F.keys with ⟨f1,f2⟩ | ⟨j,e0,f1,f2,f3⟩
 ·have hU : (Instr.mapUpdate t (.map (some b)) h.v z).run Tryz.prog w = .ok () w1:=by
   simp [Instr.mapEntry,run_underlying ht,MapKept.run_getObj_map hb,lawHd0.check w false (keyHd hh),f1,hz,MapKept.run_setObj_map _ hb,Result.andThen] at hE
   simp [Instr.mapUpdate,run_underlying ht,MapKept.run_getObj_map hb,lawHd0.check w false (keyHd hh),f1,MapKept.run_setObj_map _ hb,Result.andThen,hE.2]
  have hv : v = z:=by
   simp [Instr.lookup,run_underlying ht,MapKept.run_getObj_map hb,lawHd0.check w es.isEmpty (keyHd hh),f1,hz,Result.andThen] at hL
   exact hL.symm
  obtain ⟨w',hrun,ho,_⟩:=hD0.update lawHd ht hn (keyHd hh) (d:=.held z) (ps:=[]) rfl
  rw [hU] at hrun
  have he : w1 = w':=(Result.ok.inj hrun).2
  subst he
  obtain ⟨u,ps,hr,hR⟩:=ho.lookup lawHd ht (hz _) (zd:=.held z) (zp:=[]) rfl (keyHd hh)
  have hty:=hD0.tidy lawHd
  rw [Maps.atKey_put_same hty.isMap (lawHd.key (keyHd hh))] at hR
  simp only [tokR,Option.some.injEq,Prod.mk.injEq] at hR
  rw [hr,hv,DataW.held.inj hR.1]
 ·have hj : es[j]? = some e0:=by simpa using f2
  have hsame : es.modify j (fun e => { e with key:=h.v }) = es:=by
   apply Array.ext'
   rw [Array.toList_modify,modify_eq_set _ _ _ _ f2]
   have : ({ e0 with key:=h.v } : MapEntry) = e0:=by rw [← f3]
   rw [this]
   exact WideElems.set_self _ _ _ f2
  have hw : w1 = setBlock w b (.map es clock):=by
   simp [Instr.mapEntry,run_underlying ht,MapKept.run_getObj_map hb,lawHd0.check w false (keyHd hh),f1,hj,f3,lawHd0.stays w (keyHd hh),hsame,MapKept.run_setObj_map _ hb,Result.andThen] at hE
   exact hE.2.symm
  rw [setBlock_self hb] at hw
  rw [hw]; exact hL
end
end
section
open Go.Maps
def intP (n : Nat) (v : Value) : Prop:=v = .i n
def cmap (es : List En) (h : Hd) : Option Nat:=if cntE es h = 0 then none else some (cntE es h)
def seen (l : List Nd) (k m : Nat) : List En:=(l.take k).flatMap (·.es) ++ ((l[k]?.getD nd0).es.take m)
def leadE (f : Hd → Option Nd) (n : Nd) (e : En) : Bool:=match f e.h with | none => false | some a => !e.h.dir || decide (a.par = n.h)
def leadN (f : Hd → Option Nd) (l : List Nd) (i : Nat) : Bool:=(l[i]?.getD nd0).es.all (leadE f (l[i]?.getD nd0))
def wantN (n : Nd) : Int:=if n.h = rootH then 0 else n.links
def ledN (l : List Nd) (i : Nat) : Bool:=decide ((cntE (l.flatMap (·.es)) (l[i]?.getD nd0).h : Int) = wantN (l[i]?.getD nd0))
def leadR (f : Hd → Option Nd) (l : List Nd) : Bool:=(List.range l.length).all (leadN f l) && (List.range l.length).all (ledN l)

theorem cmap_next (es : List En) (e : En) : (fun g => if g = e.h then some (cntE es e.h + 1) else cmap es g) = cmap (es ++ [e]):=by
 funext g
 unfold cmap cntE
 by_cases h : g = e.h
 ·subst h; simp [List.countP_append]
 ·have h2 : ¬ e.h = g:=fun x => h x.symm
  simp [List.countP_append,h,h2]
theorem zeroI (w : World) : (zeroValue 3).run Tryz.prog w = .ok (.i 0) w:=by kernel_rfl
theorem MapH.lookI {w : World} {b s : Nat} {es : List En} (m : MapH intP w b s (cmap es)) {t : TypeId} (ht : Tryz.prog.underlying t = some (.map 48 3)) {h : Hd} (hh : HIn h) : (Instr.lookup t (.map (some b)) h.v false).run Tryz.prog w = .ok (.i (cntE es h)) w:=by
 obtain ⟨v,hrun,r1,r2⟩:=m.look ht (zeroI w) hh
 have hv : v = .i (cntE es h):=by
  by_cases hc : cntE es h = 0
  ·rw [r1 (by unfold cmap; rw [if_pos hc]),hc]; rfl
  ·exact r2 _ (by unfold cmap; rw [if_neg hc])
 rw [hrun,hv]
theorem seen_next (l : List Nd) (k m : Nat) (hm : m < (l[k]?.getD nd0).es.length) : seen l k (m + 1) = seen l k m ++ [(l[k]?.getD nd0).es[m]?.getD en0]:=by
 unfold seen
 rw [List.append_assoc,← List.take_append_getElem hm,List.getElem?_eq_getElem hm]; rfl
theorem seen_row (l : List Nd) (k : Nat) (hk : k < l.length) : seen l k (l[k]?.getD nd0).es.length = seen l (k + 1) 0:=by
 unfold seen
 rw [List.take_length,List.take_zero,List.append_nil,← List.take_append_getElem hk,List.flatMap_append,List.getElem?_eq_getElem hk]; simp
theorem seen_all (l : List Nd) : seen l l.length 0 = l.flatMap (·.es):=by unfold seen; simp
theorem cmap_nil (l : List Nd) : cmap (seen l 0 0) = fun _ => none:=by funext g; simp [seen,cmap,cntE]
theorem flat_len (l : List Nd) (h : ∀ i,i < l.length → (l[i]?.getD nd0).es.length ≤ 12) : ∀ k,k ≤ l.length → ((l.take k).flatMap (·.es)).length ≤ 12 * k
 | 0,_ => by simp
 | k + 1,hk => by
  have ih:=flat_len l h k (by omega)
  have h1:=h k (by omega)
  rw [List.getElem?_eq_getElem (by omega)] at h1
  have h2 : l.take (k + 1) = l.take k ++ [l[k]]:=(List.take_append_getElem (by omega)).symm
  rw [h2,List.flatMap_append,List.length_append]
  have h3 : ([l[k]].flatMap (·.es)).length ≤ 12:=by simpa using h1
  omega
theorem cnt_seen (l : List Nd) (h : ∀ i,i < l.length → (l[i]?.getD nd0).es.length ≤ 12) (k m : Nat) (hk : k < l.length) (g : Hd) : cntE (seen l k m) g ≤ 12 * k + 12:=by
 have h1:=flat_len l h k (by omega)
 have h2 : cntE (seen l k m) g ≤ (seen l k m).length:=List.countP_le_length
 have h3 : (seen l k m).length ≤ 12 * k + 12:=by
  unfold seen
  rw [List.length_append,List.length_take]
  have:=h k hk
  omega
 omega
end
section
open Go.RowKit Go.Deep Go.ChangeShapes Go.WideShapes
section
variable {H : Type} {enc : TypeId × Value → H} {w : World} {held : Bool}
set_option maxRecDepth 100000 in
theorem open_handleWT {fuel : Nat} {cs : List Value} {x : DataW H × List MemPlace} (h : DataW.trod enc Tryz.prog w 0 (fun _ => true) held fuel 38 cs = some x) : ∃ h : Hd,HIn h ∧ cs = [.i h.sh,.i h.ino,.bool h.dir]:=by
 obtain ⟨y0,y1,y2,n,_,hl,h0,h1,h2⟩:=trod_struct3 Tryz.underlying38 h
 have k0 : Tryz.prog.cellsOf 3 = 1:=by kernel_rfl
 have k1 : Tryz.prog.cellsOf 4 = 1:=by kernel_rfl
 have k2 : Tryz.prog.cellsOf 38 = 3:=by kernel_rfl
 rw [k2] at hl
 match cs,hl with
 | [c0,c1,c2],_ =>
  simp only [k0,k1,List.drop_zero,List.take_succ_cons,List.take_zero,List.drop_succ_cons] at h0 h1 h2
  obtain ⟨p,e0,_,w0⟩:=DataW.trod_int Tryz.underlying3 h0
  obtain ⟨q,e1,_,w1⟩:=DataW.trod_int Tryz.underlying3 h1
  obtain ⟨b,e2,_⟩:=DataW.trod_bool Tryz.underlying4 h2
  simp only [List.cons.injEq,and_true] at e0 e1 e2
  subst e0
  subst e1
  subst e2
  exact ⟨⟨p,q,b⟩,⟨w0,w1⟩,rfl⟩
end
end
section
open Go.RowKit Go.Deep Go.ChangeShapes Go.WideShapes
section
variable {H : Type} {enc : TypeId × Value → H} {w : World} {held : Bool}

set_option maxRecDepth 100000 in
theorem open_ddT (fuel : Nat) (cs : List Value) (x : DataW H × List MemPlace) (h : DataW.trod enc Tryz.prog w 0 (fun _ => true) held fuel 46 cs = some x) : ∃ e : { e : DdD // HIn e.rp.h ∧ HIn e.op.to },∀ j,j < 19 → RdV w (Old w) (cs[j]?.getD undef) (ddCell e.1 j):=by
 obtain ⟨hl,n,⟨y0,h0⟩,⟨y1,h1⟩,⟨y2,h2⟩,⟨y3,h3⟩,⟨y4,h4⟩⟩:=trod_fields5 Tryz.underlying46 h
 have k0 : Tryz.prog.cellsOf 3 = 1:=by kernel_rfl
 have k1 : Tryz.prog.cellsOf 41 = 10:=by kernel_rfl
 have k2 : Tryz.prog.cellsOf 44 = 6:=by kernel_rfl
 have kk : Tryz.prog.cellsOf 46 = 19:=by kernel_rfl
 rw [kk] at hl
 match cs,hl with
 | [c0,c1,c2,c3,c4,c5,c6,c7,c8,c9,c10,c11,c12,c13,c14,c15,c16,c17,c18],_ =>
  simp only [k0,k1,k2,List.drop_zero,List.take_succ_cons,List.take_zero,List.drop_succ_cons] at h0 h1 h2 h3 h4
  obtain ⟨a,e0,_,_⟩:=DataW.trod_int Tryz.underlying3 h0
  simp only [List.cons.injEq,and_true] at e0
  subst e0
  obtain ⟨b,e1,_,_⟩:=DataW.trod_int Tryz.underlying3 h1
  simp only [List.cons.injEq,and_true] at e1
  subst e1
  obtain ⟨c,e2,_,_⟩:=DataW.trod_int Tryz.underlying3 h2
  simp only [List.cons.injEq,and_true] at e2
  subst e2
  obtain ⟨o,u3,u4,e3,r3,r4⟩:=open_opT h3
  simp only [List.cons.injEq,and_true] at e3
  obtain ⟨rfl,rfl,rfl,rfl,rfl,rfl,rfl,rfl,rfl,rfl⟩:=e3
  obtain ⟨p,u5,e4,r5⟩:=open_replyT h4
  simp only [List.cons.injEq,and_true] at e4
  obtain ⟨rfl,rfl,rfl,rfl,rfl,rfl⟩:=e4
  have k3 : Tryz.prog.cellsOf 38 = 3:=by kernel_rfl
  have k4 : Tryz.prog.cellsOf 39 = 1:=by kernel_rfl
  obtain ⟨_,n3,_,_,_,⟨z3,t3⟩,_,_⟩:=trod_fields6 Tryz.underlying41 h3
  simp only [k0,k3,k4,List.drop_zero,List.take_succ_cons,List.take_zero,List.drop_succ_cons] at t3
  obtain ⟨g3,hg3,eg3⟩:=open_handleWT t3
  simp only [List.cons.injEq,Value.int.injEq,Value.bool.injEq,true_and,and_true] at eg3
  obtain ⟨_,n4,_,⟨z4,t4⟩,_,_⟩:=trod_fieldsW4 Tryz.underlying44 h4
  simp only [k0,k3,k4,List.drop_zero,List.take_succ_cons,List.take_zero,List.drop_succ_cons] at t4
  obtain ⟨g4,hg4,eg4⟩:=open_handleWT t4
  simp only [List.cons.injEq,Value.int.injEq,Value.bool.injEq,true_and,and_true] at eg4
  refine ⟨⟨⟨a,b,c,o,p⟩,⟨by rw [eg4.1]; exact hg4.1,by rw [eg4.2.1]; exact hg4.2⟩,⟨by rw [eg3.1]; exact hg3.1,by rw [eg3.2.1]; exact hg3.2⟩⟩,fun j hj => ?_⟩
  match j,hj with
  | 0,_ => exact rfl
  | 1,_ => exact rfl
  | 2,_ => exact rfl
  | 3,_ => exact rfl
  | 4,_ => exact rfl
  | 5,_ => exact rfl
  | 6,_ => exact rfl
  | 7,_ => exact r3
  | 8,_ => exact rfl
  | 9,_ => exact rfl
  | 10,_ => exact rfl
  | 11,_ => exact r4
  | 12,_ => exact rfl
  | 13,_ => exact rfl
  | 14,_ => exact rfl
  | 15,_ => exact rfl
  | 16,_ => exact rfl
  | 17,_ => exact rfl
  | 18,_ => exact r5
  | n + 19,h => omega
theorem dd_vals (a0 : { e : DdD // HIn e.rp.h ∧ HIn e.op.to }) (h0 : a0.1 = dd0) (l : List { e : DdD // HIn e.rp.h ∧ HIn e.op.to }) (i : Nat) : (l[i]?.getD a0).1 = (l.map (·.1))[i]?.getD dd0:=by
 rw [List.getElem?_map]
 cases l[i]? with
 | none => exact h0
 | some a => rfl
theorem open_ddsT {fuel : Nat} {v : Value} {x : DataW H × List MemPlace} (h : DataW.trod enc Tryz.prog w 0 (fun _ => true) held fuel 22 [v] = some x) : ∃ l : List DdD,(∀ e ∈ l,HIn e.rp.h ∧ HIn e.op.to) ∧ RdV w (Old w) v (ddsDt l):=by
 obtain ⟨l,r⟩:=open_rowsT (α:={ e : DdD // HIn e.rp.h ∧ HIn e.op.to }) (t:=55) (k:=19) ⟨dd0,hd0_in,hd0_in⟩ Tryz.underlying22 (by kernel_rfl) (by omega) (fun e => ddCell e.1) open_ddT h
 refine ⟨l.map (·.1),fun e he => ?_,?_⟩
 ·obtain ⟨a,_,rfl⟩:=List.mem_map.1 he
  exact a.2
 ·unfold ddsDt
  simp only [dd_vals ⟨dd0,hd0_in,hd0_in⟩ rfl] at r
  rw [List.length_map]
  exact r
theorem open_ddsA {b0 : Nat} {r : Reach} {v : Value} {x : DataW H} {p : List MemPlace} (hv : Value.okWide Tryz.prog w r b0 22 v) (h : DataW.Trod enc Tryz.prog w 0 (fun _ => true) held 22 v x p) : ∃ l : List DdD,(∀ e ∈ l,HIn e.rp.h ∧ HIn e.op.to) ∧ RdV w (Old w) v (ddsDt l):=by
 obtain ⟨a,n,c,rfl⟩:=okWide_slice Tryz.underlying22 hv
 obtain ⟨fuel,hf⟩:=h
 exact open_ddsT hf
end
end
end Go.Proofs.YtblahkhniabhiaaGreatDoor
