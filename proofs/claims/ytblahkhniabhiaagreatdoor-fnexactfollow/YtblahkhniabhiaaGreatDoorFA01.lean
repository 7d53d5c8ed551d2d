/- Joined: Tks Bytes Own Mem Dt RegZ Tkz Nums Puts PutNum Steps Texts Pure Hands Ents Wires WBy0 PRead PRead2 GetTexts VarL RdC Ents2 RdE SpecD1 Nodes2 SpecD2 SpecD3 Roots Szs Same Strs3 Cls EqH Names4 WOk WOk2 RowL Dd0 DdF IC1 IC2 IF1 RangeSt RangeSt2 Ops2 WSz DdSz OpenT OpenT2 OpenW. -/
import Derived.Test.YtblahkhniabhiaaGreatDoorFBase
import Derived.Deep.RegionHeld3
import Derived.Deep.Draws
import Derived.Deep.QuietTactic
import Derived.BigQuiet
import Derived.Laws.CopyOwn
import Derived.WalkSpells
import Derived.Laws.AppendOwnNone
import Derived.Deep.MidRow
import Derived.Laws.CopyRow
import Derived.Deep.AppendLies
import Derived.Laws.BytesArg
import Derived.Lib.Bytes
import Derived.RangeFuncNested
import Derived.RangeFuncBound
import Derived.RangeFuncCalls
import Derived.RangeFuncLeaves
import Derived.RangeFuncRecord
import Derived.Shelf.Abstract
import Derived.WalkKit
import Derived.OwnWalkIn
import Derived.TacticsInMore
import Derived.LoopNIn
import Derived.LoopIn
import Derived.ProofKit
import Derived.OpenShut
import Derived.Lib.SmallJoins
import Derived.Deep.Slices
import Derived.Deep.Strs

namespace Go.Proofs.YtblahkhniabhiaaGreatDoor
open Go.RowKit
set_option linter.unusedVariables false
set_option linter.unusedSimpArgs false
set_option maxRecDepth 100000
section
theorem tkh {P : Program} {md : Region.Mode} {ops : Array Oper} {Q : Exit → Act → World → Prop} {S : World → Prop} {oi : Oper} {fuel : Nat} {listed : Array Bool} {a : Act} {w : World} (i : Nat) (v : Value) (hi : ops[i]? = some oi)
    (hb : (Region.noSelect ops && (Region.free md ops listed i && (Region.ready md ops listed).contains i)) = true) (hw : Region.wanted oi (yielded ops a.tmps) = true) (hS : S w) (hy : ∀ w,S w → (execOp a.eval oi).run P w = .ok (.value v) w)
    (h : wpAnyH P md ops (NoPanic Q) S fuel (listed.setIfInBounds i true) (a.put oi.dst v) w) : wpAnyH P md ops (NoPanic Q) S (fuel + 1) listed a w:=by
  simp only [Bool.and_eq_true] at hb
  exact wpAnyH_take hi hb.1 hb.2.1 hb.2.2 (fun _ _ _ h => h) (Or.inl ⟨hw,hy⟩) hS h
theorem doH {P : Program} {md : Region.Mode} {ops : Array Oper} {Q : Exit → Act → World → Prop} {S : World → Prop} {fuel : Nat} {listed : Array Bool} {a : Act} {w : World} {o : Oper} (i : Nat) (hr : Region.ready md ops listed = [i]) (ho : ops[i]? = some o)
    (h : ∀ K' : Act → World → Prop,Shut (∀ a w,S w → (S w → wpAnyH P md ops Q S fuel (listed.setIfInBounds i true) a w) → K' a w) → if Region.wanted o (yielded ops a.tmps) = true then Oper.wp P o a w K' Q else K' (a.put o.dst undef) w) : wpAnyH P md ops Q S (fuel + 1) listed a w:=
  wpAnyH_ready hr (by simp) (AllReadyH.cons ho h AllReadyH.nil)
theorem bpR {P : Program} {fn : Func} {R : Ending → World → Prop} {a : Act} {w : World} {p : Tmp} {ty : TypeId} {g : Nat} {t : TypeId} {cs : Array Value} {fr : Nat × Nat} {d : TypeDesc} (h : fn.results = #[.cell p ty]) (hg : w.heap[g]? = some (.cells cs t fr)) (hu : P.underlying ty = some d)
    (hp : a.tmps.getD p undef = .pointer (some ⟨g,0,none⟩)) (hd : (match d with | .struct _ | .array _ _ => true | _ => false) = true) (hi : (P.info? ty).map (·.size) = some cs.size) (hf : a.defers = []) (hR : R (.returned (.agg cs)) w) : bodyPost P fn R .ret a w:=
  bodyPost_ret (results_cell_row h _ _ _ _ _ _ _ hp hg hu hd hi) hf hR
end
section
set_option maxHeartbeats 400000 in
theorem toByteS_any (a : Option Addr) (zs : List Int) (cap : Nat) (w : World) (h : Reads w a zs) (hl : zs.length ≤ 2097152) :
  Calls Tryz.prog 63 #[.slice a zs.length cap] w fun e w' => e = .returned (.slice (some ⟨w.heap.size,0,none⟩) zs.length zs.length) ∧
   Owns w' w.heap.size (.slice (some ⟨w.heap.size,0,none⟩) zs.length zs.length) zs ∧ Below w.heap.size w w' ∧ w.heap.size < w'.heap.size:=by
 obtain ⟨hb,hc⟩:=h
 obtain ⟨i0,hi,hz0,hz1,hz2⟩:=info_parts Tryz.infoB
 go_enter Tryz.func63,Tryz.ntmps63
 go_wp2_with (at_make; refine wpList_make_full _ rfl _ _ 39 rfl w.heap.size 5 i0 (.int .u8 0) 1 Tryz.underlying39 hi hz0 hz1 .i64 .i64 _ _ zs.length rfl rfl rfl rfl (by rw [hz2]; omega) (by unfold maxLen; omega) (Nat.le_refl _) ?_; intro w1 hown hgrow)
 have hb1 : Below w.heap.size w w1:=(Below.refl _ _).grown hgrow (Nat.le_refl _) (fun k h => by cases h)
 have hs1 : w.heap.size < w1.heap.size:=(hown.lt _ rfl).2
 rw [madeCells_bytes,← laid_none] at hown
 clear hgrow
 go_loopw [4] (fun i wr => ∃ k : Nat,k ≤ zs.length ∧ i = .i k ∧ wr.ownsRow w.heap.size 5 1 (.slice (some ⟨w.heap.size,0,none⟩) zs.length zs.length) zs.length (bcells (laid zs k)) ∧ Below w.heap.size w wr ∧ w.heap.size < wr.heap.size)
  (fun i _ => zs.length - (intOf i).toNat)
 case atStart => exact ⟨0,Nat.zero_le _,rfl,hown,hb1,hs1⟩
 case round =>
  clear hown hb1 hs1
  obtain ⟨k,hk,rfl,hown,hbel,hsz⟩:=hrel
  by_cases hlt : k < zs.length
  ·rcases hc with rfl | ⟨b,off,rfl,hbl,hcell⟩
   ·simp at hlt
   have hls:=laid_set zs k hlt
   have hc1 : wr.cell? ⟨b,off + k,none⟩ = some (.int .u8 (zs[k]?.getD 0)):=(hbel.cell (p:=⟨b,off + k,none⟩) hbl).trans (hcell k hlt)
   generalize zs[k]?.getD 0 = c at hc1 hls
   have hfz:=hown.frozenAt k
   have hold : ∃ v,wr.cell? ⟨w.heap.size,k,none⟩ = some v:=by
    rw [hown.cellAt k (by omega)]; exact ⟨_,List.getElem?_eq_getElem (by rw [bcells_length,laid_length _ _ hk]; exact hlt)⟩
   obtain ⟨v0,hv0⟩:=hold
   have hst:=(hown.stored k (.int .u8 c)).1
   rw [show (bcells (laid zs k)).set k (.int .u8 c) = bcells (laid zs (k + 1)) by rw [← hls,bcells,bcells,List.map_set]] at hst
   have HS : Hid _:=hst
   clear hst hown hls hcell
   go_wp2
   go_roundw
   case rel => exact ⟨k + 1,by omega,by go_num,HS.out,hbel.setCell (Nat.le_refl _) _,by simpa using hsz⟩
   case measure => simp [intOf]; omega
  ·have he : k = zs.length:=by omega
   subst he
   rw [laid_all] at hown
   go_wp2
   go_ret
   exact ⟨rfl,hown,hbel,hsz⟩

theorem below_drewN2 {B : Nat} {a w : World} (h : Below B a w) (n : Nat) : Below B a (w.drewN n):=⟨h.os,h.tape,h.output,h.size,h.block⟩
theorem take_eq_step (xs ys : List Int) (k : Nat) (hx : k < xs.length) (hy : k < ys.length) (h : xs.take k = ys.take k) :
  (xs[k]?.getD 0 = ys[k]?.getD 0 → xs.take (k + 1) = ys.take (k + 1)) ∧ (xs[k]?.getD 0 ≠ ys[k]?.getD 0 → (xs == ys) = false):=by
 constructor
 ·intro e
  rw [List.take_succ_eq_append_getElem hx,List.take_succ_eq_append_getElem hy,h]
  simp [hx,hy] at e
  rw [e]
 ·intro e
  apply beq_eq_false_iff_ne.2
  rintro rfl
  exact e rfl
set_option maxHeartbeats 400000 in
theorem eqByteS_any (a b : Option Addr) (xs ys : List Int) (ca cb : Nat) (w : World) (hx : Reads w a xs) (hy : Reads w b ys) (hl : xs.length ≤ 2097152) (hm : ys.length ≤ 2097152) :
  Calls Tryz.prog 75 #[.slice a xs.length ca,.slice b ys.length cb] w fun e w' => e = .returned (.bool (xs == ys)) ∧ ∃ n,w' = w.drewN n:=by
 obtain ⟨bx,cx⟩:=hx
 obtain ⟨by_,cy⟩:=hy
 by_cases hne : xs.length = ys.length
 ·obtain ⟨N,hN⟩ : ∃ N,xs.length = N:=⟨_,rfl⟩
  have hN' : ys.length = N:=by omega
  rw [hN,hN']
  rw [hN] at hl
  rw [hN'] at hm
  have HX : Hid (xs.length = N):=hN
  have HY : Hid (ys.length = N):=hN'
  clear hne hN hN'
  go_enter Tryz.func75,Tryz.ntmps75
  go_wp2
  go_loopw [5] (fun i wr => ∃ k m : Nat,k ≤ N ∧ i = .i k ∧ wr = w.drewN m ∧ Hid (xs.take k = ys.take k)) (fun i _ => N - (intOf i).toNat)
  case atStart => exact ⟨0,0,Nat.zero_le _,rfl,rfl,by show _ = _; simp⟩
  case round =>
   obtain ⟨k,m,hk,rfl,rfl,hE⟩:=hrel
   by_cases hlt : k < N
   ·rcases cx with rfl | ⟨bx',ox,rfl,hbx,hcx⟩
    ·have:=HX.out; simp at this; omega
    rcases cy with rfl | ⟨by',oy,rfl,hby,hcy⟩
    ·have:=HY.out; simp at this; omega
    have h1:=hcx k (by rw [HX.out]; exact hlt)
    have h2:=hcy k (by rw [HY.out]; exact hlt)
    have hstep:=take_eq_step xs ys k (by rw [HX.out]; exact hlt) (by rw [HY.out]; exact hlt) hE.out
    have HST : Hid _:=hstep
    clear hstep
    clear bx by_ hcx hcy
    generalize xs[k]?.getD 0 = c at h1 HST
    generalize ys[k]?.getD 0 = d at h2 HST
    go_wp2
    go_quiet (fail)
    all_goals go_wp2
    ·have hne : c ≠ d:=by
      have hh : (c != d) = true:=by assumption
      simpa using hh
     go_ret
     exact ⟨by rw [HST.out.2 hne]; rfl,_,World.drewN_drewN _ _ _⟩
    ·have heq : c = d:=by
      have hh : (c != d) = false:=by assumption
      simpa using hh
     go_roundw
     case rel => exact ⟨k + 1,_,by omega,by go_num,rfl,HST.out.1 heq⟩
     case measure => simp [intOf]; omega
   ·have he : k = N:=by omega
    subst he
    have ht : xs = ys:=by
     have:=hE.out
     rwa [List.take_of_length_le (by rw [HX.out]; exact Nat.le_refl _),List.take_of_length_le (by rw [HY.out]; exact Nat.le_refl _)] at this
    go_wp2
    go_ret
    exact ⟨by rw [ht]; simp,m,rfl⟩
 ·have : (xs == ys) = false:=by
   apply beq_eq_false_iff_ne.2; intro h; exact hne (by rw [h])
  rw [this]
  clear this
  have hd : ((xs.length : Int) == (ys.length : Int)) = false:=by simp; omega
  go_enter Tryz.func75,Tryz.ntmps75
  go_wp2
  go_ret
  exact ⟨rfl,(0 : Nat),rfl⟩

def marks (n : Nat) (k : Nat) : List Int:=(List.range n).map (fun i => ((k + i : Nat) : Int) % 256)
@[simp] theorem marks_length (n k : Nat) : (marks n k).length = n:=by simp [marks]
theorem marks_isBytes (n k : Nat) : isBytes (marks n k):=by
 intro j
 by_cases h : j < n
 ·simp [marks,h]; omega
 ·simp [marks,h]
theorem marks_at (n k j : Nat) (h : j < n) : (marks n k)[j]?.getD 0 = ((k + j : Nat) : Int) % 256:=by simp [marks,h]
def marked (zs : List Int) (k j : Nat) : List Int:=marks j k ++ zs.drop j
theorem marked_length (zs : List Int) (k j : Nat) (h : j ≤ zs.length) : (marked zs k j).length = zs.length:=by simp [marked]; omega
theorem marked_none (zs : List Int) (k : Nat) : marked zs k 0 = zs:=by simp [marked,marks]
theorem marked_all (zs : List Int) (k : Nat) : marked zs k zs.length = marks zs.length k:=by simp [marked]
theorem marked_set (zs : List Int) (k j : Nat) (h : j < zs.length) : (marked zs k j).set j (((k : Int) + (j : Int)) % 256) = marked zs k (j + 1):=by
 have e : marks (j + 1) k = marks j k ++ [((k : Int) + (j : Int)) % 256]:=by simp [marks,List.range_succ]
 unfold marked
 rw [e,List.set_append,if_neg (by simp),marks_length,Nat.sub_self,List.drop_eq_getElem_cons h,List.set_cons_zero,List.append_assoc]
 rfl

set_option maxHeartbeats 400000 in
theorem mark_any (v : Value) (zs : List Int) (k base : Nat) (w : World) (h : Owns w base v zs) (hl : zs.length ≤ 2097152) (hk : k ≤ 1099511627776) :
  Calls Tryz.prog 22 #[v,.i k] w fun e w' => e = .returned (.i ((k + zs.length : Nat) : Int)) ∧ Owns w' base v (marks zs.length k) ∧ w.grownBy w' v.ownBlock:=by
 rcases h.2 with ⟨rfl,h0⟩ | ⟨g,cap,cur,rfl,hg,hh,r⟩
 ·have : zs = []:=List.eq_nil_of_length_eq_zero h0
  subst this
  go_enter Tryz.func22,Tryz.ntmps22
  go_wp2
  refine wp_loop_rounds 1 ?_
  rw [rounds_succ]
  go_wp2
  go_ret
  exact ⟨by simp,h,⟨rfl,rfl,rfl,Nat.le_refl _,fun _ _ _ => rfl⟩⟩
 ·clear hg hh r
  go_enter Tryz.func22,Tryz.ntmps22
  go_wp2
  go_loopw [1,5] (fun q i wr => ∃ j : Nat,j ≤ zs.length ∧ i = .i j ∧ q = .i ((k : Int) + (j : Int)) ∧ Hid (wr.ownsRow base 5 1 (.slice (some ⟨g,0,none⟩) zs.length cap) zs.length (bcells (marked zs k j))) ∧ w.grownBy wr (some g))
   (fun _ i _ => zs.length - (intOf i).toNat)
  case atStart => exact ⟨0,Nat.zero_le _,rfl,by simp,by rw [marked_none]; exact h,⟨rfl,rfl,rfl,Nat.le_refl _,fun _ _ _ => rfl⟩⟩
  case round =>
   clear h
   obtain ⟨j,hj,rfl,rfl,HO,hgr⟩:=hrel
   have hown:=HO.out
   by_cases hlt : j < zs.length
   ·have hfz:=hown.frozenAt j
    have hold : ∃ v,wr.cell? ⟨g,j,none⟩ = some v:=by
     rw [hown.cellAt j (by omega)]; exact ⟨_,List.getElem?_eq_getElem (by rw [bcells_length,marked_length _ _ _ hj]; exact hlt)⟩
    obtain ⟨v0,hv0⟩:=hold
    have hst:=(hown.stored j (.int .u8 (((k : Int) + (j : Int)) % 256))).1
    have hgg:=(hown.stored j (.int .u8 (((k : Int) + (j : Int)) % 256))).2
    rw [show (bcells (marked zs k j)).set j (.int .u8 (((k : Int) + (j : Int)) % 256)) = bcells (marked zs k (j + 1)) by rw [← marked_set _ _ _ hlt,bcells,bcells,List.map_set]] at hst
    have HS : Hid _:=hst
    have HG : Hid _:=grown_trans hgr hgg
    clear hst hgg hown HO hgr
    go_wp2
    go_roundw
    case rel => exact ⟨j + 1,by omega,by go_num,by first | go_num | (congr 1; omega),HS.out,HG.out⟩
    case measure => simp [intOf]; omega
   ·have he : j = zs.length:=by omega
    subst he
    rw [marked_all] at hown
    have HO2 : Hid _:=hown
    have HG : Hid _:=hgr
    clear hown HO hgr
    go_wp2
    go_ret
    refine ⟨by simp,?_,HG.out⟩
    have:=HO2.out
    unfold Owns
    rw [marks_length]
    exact this

set_option maxHeartbeats 400000 in
theorem held_any (a : Option Addr) (n k cap : Nat) (w : World) (h : Reads w a (marks n k)) (hl : n ≤ 2097152) (hk : k ≤ 1099511627776) :
  Calls Tryz.prog 76 #[.slice a n cap,.i k] w fun e w' => e = .returned (.i ((k + n : Nat) : Int)) ∧ w' = w:=by
 obtain ⟨hb,hc⟩:=h
 go_enter Tryz.func76,Tryz.ntmps76
 go_wp2
 go_loop [1,5] (fun q i => ∃ j : Nat,j ≤ n ∧ i = .i j ∧ q = .i ((k : Int) + (j : Int))) (fun _ i => n - (intOf i).toNat)
 case atStart => exact ⟨0,Nat.zero_le _,rfl,by simp⟩
 case round =>
  obtain ⟨j,hj,rfl,rfl⟩:=hrel
  by_cases hlt : j < n
  ·rcases hc with hc | ⟨b,off,rfl,hbl,hcell⟩
   ·have:=congrArg List.length hc; simp at this; omega
   have hc1:=hcell j (by simpa using hlt)
   rw [marks_at _ _ _ hlt] at hc1
   clear hcell hb
   have hc2 : w.cell? ⟨b,off + j,none⟩ = some (.int .u8 (((k : Int) + (j : Int)) % 256)):=by rw [hc1]; simp
   clear hc1
   have hq : ((((k : Int) + (j : Int)) % 256) != (((k : Int) + (j : Int)) % 256)) = false:=by simp
   go_wp2
   go_round
   case rel => exact ⟨j + 1,by omega,by go_num,by first | go_num | (congr 1; omega)⟩
   case measure => simp [intOf]; omega
  ·have he : j = n:=by omega
   subst he
   clear hc hb
   go_wp2
   go_ret
   exact ⟨by simp,rfl⟩
end
section
theorem Tryz.sizeB : (Tryz.prog.info? 5).map (·.size) = some 1:=by kernel_rfl

theorem full_heap {w : World} {base : Nat} {e : TypeId} {g n : Nat} {xs : List Value} (h : w.ownsRow base e 1 (.slice (some ⟨g,0,none⟩) n n) n xs) : w.heap[g]? = some (.cells xs.toArray e (0,0)):=by
 rcases h.2 with ⟨hv,_⟩ | ⟨g',c,cur,hv,hg,hh,hnc,hm,hs,ht⟩
 ·cases hv
 ·simp only [Value.slice.injEq,Option.some.injEq,Addr.mk.injEq,and_true,true_and] at hv
  obtain ⟨rfl,rfl⟩:=hv
  rw [hh,← ht,List.take_of_length_le (by simp; omega)]

theorem full_owns {w : World} {base g : Nat} {zs : List Int} {n : Nat} (hn : n = zs.length) (hg : base ≤ g) (hl : zs.length ≤ 4194304) (h : w.heap[g]? = some (.cells (bcells zs).toArray 5 (0,0))) : Owns w base (.slice (some ⟨g,0,none⟩) n n) zs:=by
 subst hn
 exact ⟨by simp,.inr ⟨g,zs.length,_,rfl,hg,h,Nat.le_refl _,by unfold maxLen; omega,by simp,by simp [List.take_of_length_le]⟩⟩

theorem Reads.src {w : World} {a : Option Addr} {xs : List Int} (h : Reads w a xs) : 0 < (bcells xs).length → ∃ ad,a = some ad ∧ ∀ j v,(bcells xs)[j]? = some v → w.cell? (ad.add j) = some v:=by
 intro h0
 rcases h.2 with rfl | ⟨b,off,rfl,hb,hc⟩
 ·simp at h0
 ·refine ⟨_,rfl,fun j v hv => ?_⟩
  have hj : j < xs.length:=by
   rcases Nat.lt_or_ge j xs.length with h1 | h1
   ·exact h1
   ·rw [List.getElem?_eq_none (by simpa using h1)] at hv; cases hv
  have:=hc j hj
  have e : ((⟨b,off,none⟩ : Addr).add j) = ⟨b,off + j,none⟩:=by
   by_cases h0 : j = 0
   ·subst h0; simp [Addr.add]
   ·simp [Addr.add,h0]
  rw [e,this,← hv]
  simp [bcells,hj]

theorem bcells_one (xs : List Int) : ∀ v ∈ bcells xs,v.oneCell' = true:=by
 intro v hv
 simp only [bcells,List.mem_map] at hv
 obtain ⟨x,_,rfl⟩:=hv
 rfl

theorem splice_two {α : Type} (Z X Y : List α) (k : Nat) (hk : X.length = k) (hZ : Z.length = k + Y.length) : splice (splice Z 0 X) k Y = X ++ Y:=by
 subst hk
 unfold splice
 simp only [List.take_zero,List.nil_append,Nat.zero_add,List.take_left]
 rw [List.drop_append,List.drop_drop]
 have e1 : List.drop (X.length + Y.length) X = []:=List.drop_eq_nil_of_le (by omega)
 have e2 : List.drop (X.length + (X.length + Y.length - X.length)) Z = []:=List.drop_eq_nil_of_le (by omega)
 rw [e1,e2]; simp

theorem Owns.base {w : World} {base b' : Nat} {v : Value} {zs : List Int} (h : Owns w base v zs) (hb : b' ≤ base) : Owns w b' v zs:=by
 obtain ⟨h1,h2⟩:=h
 refine ⟨h1,?_⟩
 rcases h2 with h2 | ⟨g,c,cur,hv,hg,r⟩
 ·exact .inl h2
 ·exact .inr ⟨g,c,cur,hv,by omega,r⟩

theorem reads_none (w : World) (a : Option Addr) : Reads w a []:=⟨isBytes_nil,.inl rfl⟩

theorem Owns.shape {w : World} {base : Nat} {v : Value} {zs : List Int} (h : Owns w base v zs) : ∃ a cap,v = .slice a zs.length cap ∧ zs.length ≤ cap ∧ cap ≤ maxLen:=by
 rcases h.2 with ⟨rfl,h0⟩ | ⟨g,c,cur,hv,hg,hh,hnc,hm,r⟩
 ·exact ⟨none,0,by rw [h0],by omega,Nat.zero_le _⟩
 ·exact ⟨_,c,hv,hnc,hm⟩

theorem Reads.srcAt {w : World} {ad : Addr} {xs : List Int} (h : Reads w (some ad) xs) : ∀ j v,(bcells xs)[j]? = some v → w.cell? (ad.add j) = some v:=by
 by_cases h0 : 0 < (bcells xs).length
 ·obtain ⟨ad',ha,hc⟩:=h.src h0
  simp only [Option.some.injEq] at ha
  subst ha
  exact hc
 ·intro j v hv
  rw [List.getElem?_eq_none (by omega)] at hv; cases hv

theorem Owns.lt {w : World} {base : Nat} {v : Value} {zs : List Int} (h : Owns w base v zs) : ∀ k,v.ownBlock = some k → base ≤ k ∧ k < w.heap.size:=World.ownsRow.lt h

theorem owns_empty (w : World) : Owns (w.alloc (.cells #[] 5)) w.heap.size (.slice (some ⟨w.heap.size,0,none⟩) 0 0) []:=World.ownsRow_lit w #[] 0 (Nat.le_refl _) (Nat.zero_le _) rfl

def Before (v : Value) (b : Nat) : Prop:=∀ k,v.ownBlock = some k → k < b

def From (v : Value) (b : Nat) : Prop:=∀ k,v.ownBlock = some k → b ≤ k

theorem apart {v u : Value} {b : Nat} (h : Before v b) (g : From u b) : ∀ k,v.ownBlock = some k → u.ownBlock ≠ some k:=fun k hk e => by have:=h k hk; have:=g k e; omega

theorem toByteS_v (a : Option Addr) (zs : List Int) (len cap : Nat) (w : World) (h : Reads w a zs) (hlen : len = zs.length) (hl : zs.length ≤ 2097152) :
  Calls Tryz.prog 63 #[.slice a len cap] w fun e w' => ∃ v,e = .returned v ∧ Owns w' w.heap.size v zs ∧ Below w.heap.size w w':=by
 subst hlen
 exact (toByteS_any a zs cap w h hl).mono fun e w' ⟨he,ho,hb,_⟩ => ⟨_,he,ho,hb⟩
end
section
structure Turns (lo hi : Nat) (w w' : World) : Prop where
 os : w'.os = w.os
 tape : w'.tape = w.tape
 output : w'.output = w.output
 size : w.heap.size ≤ w'.heap.size
 block : ∀ k,k < w.heap.size → (k < lo ∨ hi ≤ k) → w'.heap[k]? = w.heap[k]?
def SameIn (l h : Nat) (w w' : World) : Prop:=w.heap.size ≤ w'.heap.size ∧ ∀ k,l ≤ k → k < h → w'.heap[k]? = w.heap[k]?
def Headed (a : Option Addr) (len cap : Nat) : Prop:=len ≤ cap ∧ cap ≤ maxLen ∧ (a = none → len = 0 ∧ cap = 0)

def RdB (w : World) (l h : Nat) (v : Value) (zs : List Int) : Prop:=
 isBytes zs ∧ ∃ a len cap,v = .slice a len cap ∧ len = zs.length ∧ Headed a len cap ∧
  (zs = [] ∨ ∃ b off,a = some ⟨b,off,none⟩ ∧ l ≤ b ∧ b < h ∧ ∀ i,i < zs.length → w.cell? ⟨b,off + i,none⟩ = some (.int .u8 (zs[i]?.getD 0)))
def OwB (w : World) (l h : Nat) (v : Value) (zs : List Int) : Prop:=isBytes zs ∧ Owns w l v zs ∧ Before v h
def RdBB (w : World) (l h : Nat) (v : Value) (zss : List (List Int)) : Prop:=
 ∃ a len cap,∃ vs : Nat → Value,v = .slice a len cap ∧ len = zss.length ∧ Headed a len cap ∧
  (len = 0 ∨ ∃ b off,a = some ⟨b,off,none⟩ ∧ l ≤ b ∧ b < h ∧ ∀ i,i < len → w.cell? ⟨b,off + i,none⟩ = some (vs i)) ∧ ∀ i,i < len → RdB w l h (vs i) (zss[i]?.getD [])
def OwBB (w : World) (l h : Nat) (v : Value) (zss : List (List Int)) : Prop:=
 ∃ vs : List Value,vs.length = zss.length ∧ w.ownsRow l 39 1 v vs.length vs ∧ Before v h ∧ (∀ i,i < vs.length → OwB w l h (vs[i]?.getD undef) (zss[i]?.getD [])) ∧
  ∀ i j k,i < j → j < vs.length → (vs[i]?.getD undef).ownBlock = some k → (vs[j]?.getD undef).ownBlock ≠ some k
end
section
def Keeps (S : Nat → Prop) (w w' : World) : Prop:=w.heap.size ≤ w'.heap.size ∧ ∀ b,S b → b < w.heap.size → w'.heap[b]? = w.heap[b]?
structure Turned (S : Nat → Prop) (w w' : World) : Prop where
 os : w'.os = w.os
 tape : w'.tape = w.tape
 output : w'.output = w.output
 size : w.heap.size ≤ w'.heap.size
 block : ∀ k,k < w.heap.size → ¬ S k → w'.heap[k]? = w.heap[k]?
theorem Turned.refl (S : Nat → Prop) (w : World) : Turned S w w:=⟨rfl,rfl,rfl,Nat.le_refl _,fun _ _ _ => rfl⟩
theorem Turned.trans {S : Nat → Prop} {a b c : World} (h : Turned S a b) (k : Turned S b c) : Turned S a c:=
 ⟨k.os.trans h.os,k.tape.trans h.tape,k.output.trans h.output,Nat.le_trans h.size k.size,fun i hi hr => (k.block i (Nat.lt_of_lt_of_le hi h.size) hr).trans (h.block i hi hr)⟩
theorem Turned.wide {S S' : Nat → Prop} {a b : World} (h : Turned S a b) (hs : ∀ k,S k → S' k) : Turned S' a b:=⟨h.os,h.tape,h.output,h.size,fun i hi hr => h.block i hi (fun e => hr (hs i e))⟩
theorem Turned.ofBelow {S : Nat → Prop} {a b : World} (h : Below a.heap.size a b) : Turned S a b:=⟨h.os,h.tape,h.output,h.size,fun i hi _ => h.block i hi⟩
theorem Turned.ofGrown {S : Nat → Prop} {a b : World} {r : Option Nat} (h : a.grownBy b r) (hr : ∀ k,r = some k → S k) : Turned S a b:=⟨h.os,h.tape,h.output,h.size,fun i hi ho => h.block i hi (fun e => ho (hr i e.symm))⟩
theorem Turned.set {S : Nat → Prop} {a b : World} (h : Turned S a b) (p : Addr) (u : Value) (hp : S p.block) : Turned S a (b.setCell p u):=
 h.trans ⟨rfl,rfl,rfl,by simp,fun k _ hr => heap_setCell_other b p k u (fun e => hr (e ▸ hp))⟩
theorem Turned.alloc {S : Nat → Prop} {a b : World} (h : Turned S a b) (o : Obj) : Turned S a (b.alloc o):=h.trans (Turned.ofBelow ((Below.refl _ _).alloc (Nat.le_refl _) _))
theorem Turned.andThen {S : Nat → Prop} {a b c : World} (h : Turned S a b) (hb : Below b.heap.size b c) : Turned S a c:=h.trans (Turned.ofBelow hb)
theorem Turned.below {S : Nat → Prop} {B : Nat} {a b c : World} (h : Below B a b) (k : Turned S b c) (hB : B ≤ b.heap.size) (hl : ∀ i,S i → B ≤ i) : Below B a c:=
 h.trans ⟨k.os,k.tape,k.output,k.size,fun i hi => k.block i (by omega) (fun e => by have:=hl i e; omega)⟩
theorem Turned.keeps {S T : Nat → Prop} {a b : World} (h : Turned S a b) (hd : ∀ k,T k → ¬ S k) : Keeps T a b:=⟨h.size,fun k hk hlt => h.block k hlt (hd k hk)⟩
theorem Keeps.ofBelow {S : Nat → Prop} {a b : World} (h : Below a.heap.size a b) : Keeps S a b:=⟨h.size,fun k _ hlt => h.block k hlt⟩
theorem Keeps.mono {S T : Nat → Prop} {a b : World} (h : Keeps S a b) (hs : ∀ k,T k → S k) : Keeps T a b:=⟨h.1,fun k hk hlt => h.2 k (hs k hk) hlt⟩

def RdS (w : World) (S : Nat → Prop) (v : Value) (zs : List Int) : Prop:=
 isBytes zs ∧ ∃ a len cap,v = .slice a len cap ∧ len = zs.length ∧ Headed a len cap ∧
  (zs = [] ∨ ∃ b off,a = some ⟨b,off,none⟩ ∧ S b ∧ b < w.heap.size ∧ ∀ i,i < zs.length → w.cell? ⟨b,off + i,none⟩ = some (.int .u8 (zs[i]?.getD 0)))
theorem RdS.keep {w w' : World} {S : Nat → Prop} {v : Value} {zs : List Int} (r : RdS w S v zs) (t : Keeps S w w') : RdS w' S v zs:=by
 obtain ⟨hb,a,len,cap,hv,hl,hh,hc⟩:=r
 refine ⟨hb,a,len,cap,hv,hl,hh,?_⟩
 rcases hc with h0 | ⟨b,off,ha,h1,h2,hc⟩
 ·exact .inl h0
 ·exact .inr ⟨b,off,ha,h1,Nat.lt_of_lt_of_le h2 t.1,fun i hi => by rw [World.cell?_of_block (w:=w) (t.2 b h1 h2)]; exact hc i hi⟩
theorem RdS.mono {w : World} {S S' : Nat → Prop} {v : Value} {zs : List Int} (r : RdS w S v zs) (t : ∀ b,S b → S' b) : RdS w S' v zs:=by
 obtain ⟨hb,a,len,cap,hv,hl,hh,hc⟩:=r
 refine ⟨hb,a,len,cap,hv,hl,hh,?_⟩
 rcases hc with h0 | ⟨b,off,ha,h1,h2,hc⟩
 ·exact .inl h0
 ·exact .inr ⟨b,off,ha,t b h1,h2,hc⟩
theorem RdS.reads {w : World} {S : Nat → Prop} {v : Value} {zs : List Int} (r : RdS w S v zs) : ∃ a cap,v = .slice a zs.length cap ∧ Headed a zs.length cap ∧ Reads w a zs:=by
 obtain ⟨hb,a,len,cap,hv,hl,hh,hc⟩:=r
 subst hl
 refine ⟨a,cap,hv,hh,hb,?_⟩
 rcases hc with h0 | ⟨b,off,ha,h3,h4,hc⟩
 ·exact .inl h0
 ·exact .inr ⟨b,off,ha,h4,hc⟩
theorem ownsRow_base {w : World} {l : Nat} {e : TypeId} {size : Nat} {v : Value} {n : Nat} {xs : List Value} (o : w.ownsRow l e size v n xs) : w.ownsRow 0 e size v n xs:=
 ⟨o.1,o.2.imp id (fun ⟨g,c,cur,hv,_,r⟩ => ⟨g,c,cur,hv,Nat.zero_le _,r⟩)⟩
theorem ownsRow_keep {w w' : World} {l : Nat} {S : Nat → Prop} {e : TypeId} {size : Nat} {v : Value} {n : Nat} {xs : List Value} (o : w.ownsRow l e size v n xs) (hb : ∀ b,v.ownBlock = some b → S b) (t : Keeps S w w') : w'.ownsRow l e size v n xs:=by
 obtain ⟨h1,h2⟩:=o
 refine ⟨h1,?_⟩
 rcases h2 with h2 | ⟨g,c,cur,hv,hg,hh,r⟩
 ·exact .inl h2
 ·exact .inr ⟨g,c,cur,hv,hg,by rw [t.2 g (hb g (by rw [hv]; rfl)) (lt_of_block hh)]; exact hh,r⟩
theorem rdS_of_owns {w : World} {S : Nat → Prop} {v : Value} {zs : List Int} (hz : isBytes zs) (ho : Owns w 0 v zs) (hs : ∀ b,v.ownBlock = some b → S b) : RdS w S v zs:=by
 obtain ⟨a,cap,rfl,h1,h2⟩:=ho.shape
 refine ⟨hz,a,_,cap,rfl,rfl,⟨h1,h2,?_⟩,?_⟩
 ·rintro rfl
  rcases ho.2 with ⟨hv,h0⟩ | ⟨g,c,cur,hv,_⟩
  ·simp only [Value.slice.injEq,true_and] at hv; omega
  ·cases hv
 ·rcases (ho.reads hz).2.2 with h0 | ⟨b,off,ha,hb,hc⟩
  ·exact .inl h0
  ·subst ha
   exact .inr ⟨b,off,rfl,hs b rfl,hb,hc⟩
theorem place_inj {k i j i' j' : Nat} (hj : j < k) (hj' : j' < k) (h : i * k + j = i' * k + j') : i = i' ∧ j = j':=by
 have h1 : (i * k + j) / k = i:=by rw [Nat.add_comm,Nat.mul_comm,Nat.add_mul_div_left _ _ (by omega),Nat.div_eq_of_lt hj]; omega
 have h2 : (i' * k + j') / k = i':=by rw [Nat.add_comm,Nat.mul_comm,Nat.add_mul_div_left _ _ (by omega),Nat.div_eq_of_lt hj']; omega
 have h3 : i = i':=by rw [← h1,← h2,h]
 subst h3
 exact ⟨rfl,by omega⟩
theorem place_lt {k n i j : Nat} (hi : i < n) (hj : j < k) : i * k + j < n * k:=by
 have : (i + 1) * k ≤ n * k:=Nat.mul_le_mul_right k hi
 rw [Nat.add_mul,Nat.one_mul] at this
 omega

structure Dt where
 rd : World → (Nat → Prop) → Value → Prop
 ow : World → (Nat → Prop) → Value → Prop
 rdKeep : ∀ (w w' : World) (S : Nat → Prop) (v : Value),Keeps S w w' → rd w S v → rd w' S v
 rdMono : ∀ (w : World) (S S' : Nat → Prop) (v : Value),(∀ b,S b → S' b) → rd w S v → rd w S' v
 owKeep : ∀ (w w' : World) (S : Nat → Prop) (v : Value),Keeps S w w' → ow w S v → ow w' S v
 owMono : ∀ (w : World) (S S' : Nat → Prop) (v : Value),(∀ b,S b → S' b) → ow w S v → ow w S' v
 owRd : ∀ (w : World) (S : Nat → Prop) (v : Value),ow w S v → rd w S v
def RdV (w : World) (S : Nat → Prop) (v : Value) (d : Dt) : Prop:=d.rd w S v
def OwV (w : World) (S : Nat → Prop) (v : Value) (d : Dt) : Prop:=d.ow w S v
def Dt.int (n : Int) : Dt:=⟨fun _ _ v => v = .i n,fun _ _ v => v = .i n,fun _ _ _ _ _ h => h,fun _ _ _ _ _ h => h,fun _ _ _ _ _ h => h,fun _ _ _ _ _ h => h,fun _ _ _ h => h⟩
def Dt.bool (b : Bool) : Dt:=⟨fun _ _ v => v = .bool b,fun _ _ v => v = .bool b,fun _ _ _ _ _ h => h,fun _ _ _ _ _ h => h,fun _ _ _ _ _ h => h,fun _ _ _ _ _ h => h,fun _ _ _ h => h⟩
def Dt.bytes (zs : List Int) : Dt:=⟨fun w S v => RdS w S v zs,fun w S v => isBytes zs ∧ Owns w 0 v zs ∧ ∀ b,v.ownBlock = some b → S b,
 fun _ _ _ _ t h => h.keep t,fun _ _ _ _ t h => h.mono t,fun _ _ _ _ t h => ⟨h.1,ownsRow_keep h.2.1 h.2.2 t,h.2.2⟩,fun _ _ _ _ t h => ⟨h.1,h.2.1,fun b hb => t b (h.2.2 b hb)⟩,fun _ _ _ h => rdS_of_owns h.1 h.2.1 h.2.2⟩
def RowsRd (k n : Nat) (f : Nat → Nat → Dt) (w : World) (S : Nat → Prop) (v : Value) : Prop:=
 ∃ a cap,∃ V : Nat → Nat → Value,v = .slice a n cap ∧ Headed a n cap ∧
  (n = 0 ∨ ∃ b off,a = some ⟨b,off,none⟩ ∧ S b ∧ b < w.heap.size ∧ ∀ i j,i < n → j < k → w.cell? ⟨b,off + (i * k + j),none⟩ = some (V i j)) ∧ ∀ i j,i < n → j < k → RdV w S (V i j) (f i j)
def RowsOw (t : TypeId) (k n : Nat) (f : Nat → Nat → Dt) (w : World) (S : Nat → Prop) (v : Value) : Prop:=
 ∃ (V : Nat → Nat → Value) (C : List Value) (Q : Nat → Nat → Nat → Prop),w.ownsRow 0 t k v n C ∧ (∀ b,v.ownBlock = some b → S b) ∧
   (∀ i j,i < n → j < k → C[i * k + j]? = some (V i j)) ∧ (∀ i j,i < n → j < k → OwV w (Q i j) (V i j) (f i j)) ∧ (∀ i j b,i < n → j < k → Q i j b → S b ∧ v.ownBlock ≠ some b) ∧
   (∀ i j i' j' b,i < n → j < k → i' < n → j' < k → Q i j b → Q i' j' b → i = i' ∧ j = j')
theorem RowsRd.keep {k n : Nat} {f : Nat → Nat → Dt} (w w' : World) (S : Nat → Prop) (v : Value) (t : Keeps S w w') (r : RowsRd k n f w S v) : RowsRd k n f w' S v:=by
 obtain ⟨a,cap,V,hv,hh,hc,he⟩:=r
 refine ⟨a,cap,V,hv,hh,?_,fun i j hi hj => (f i j).rdKeep w w' S _ t (he i j hi hj)⟩
 rcases hc with h0 | ⟨b,off,ha,h1,h2,hc⟩
 ·exact .inl h0
 ·exact .inr ⟨b,off,ha,h1,Nat.lt_of_lt_of_le h2 t.1,fun i j hi hj => by rw [World.cell?_of_block (w:=w) (t.2 b h1 h2)]; exact hc i j hi hj⟩
theorem RowsRd.mono {k n : Nat} {f : Nat → Nat → Dt} (w : World) (S S' : Nat → Prop) (v : Value) (t : ∀ b,S b → S' b) (r : RowsRd k n f w S v) : RowsRd k n f w S' v:=by
 obtain ⟨a,cap,V,hv,hh,hc,he⟩:=r
 refine ⟨a,cap,V,hv,hh,?_,fun i j hi hj => (f i j).rdMono w S S' _ t (he i j hi hj)⟩
 rcases hc with h0 | ⟨b,off,ha,h1,h2,hc⟩
 ·exact .inl h0
 ·exact .inr ⟨b,off,ha,t b h1,h2,hc⟩
theorem RowsOw.keep {t : TypeId} {k n : Nat} {f : Nat → Nat → Dt} (w w' : World) (S : Nat → Prop) (v : Value) (hk : Keeps S w w') (r : RowsOw t k n f w S v) : RowsOw t k n f w' S v:=by
 obtain ⟨V,C,Q,h1,h2,h3,h4,h5,h6⟩:=r
 exact ⟨V,C,Q,ownsRow_keep h1 h2 hk,h2,h3,fun i j hi hj => (f i j).owKeep w w' _ _ (hk.mono (fun b hb => (h5 i j b hi hj hb).1)) (h4 i j hi hj),h5,h6⟩
theorem RowsOw.mono {t : TypeId} {k n : Nat} {f : Nat → Nat → Dt} (w : World) (S S' : Nat → Prop) (v : Value) (hs : ∀ b,S b → S' b) (r : RowsOw t k n f w S v) : RowsOw t k n f w S' v:=by
 obtain ⟨V,C,Q,h1,h2,h3,h4,h5,h6⟩:=r
 exact ⟨V,C,Q,h1,fun b hb => hs b (h2 b hb),h3,h4,fun i j b hi hj hq => ⟨hs b (h5 i j b hi hj hq).1,(h5 i j b hi hj hq).2⟩,h6⟩
theorem RowsOw.rd {t : TypeId} {k n : Nat} {f : Nat → Nat → Dt} (w : World) (S : Nat → Prop) (v : Value) (r : RowsOw t k n f w S v) : RowsRd k n f w S v:=by
 obtain ⟨V,C,Q,h1,h2,h3,h4,h5,h6⟩:=r
 rcases h1.2 with ⟨hv,h0⟩ | ⟨g,c,cur,hv,hg,hh,hnc,hm,_⟩
 ·subst hv
  subst h0
  exact ⟨none,0,V,rfl,⟨Nat.le_refl _,Nat.zero_le _,fun _ => ⟨rfl,rfl⟩⟩,.inl rfl,fun i j hi => absurd hi (Nat.not_lt_zero _)⟩
 ·subst hv
  refine ⟨_,c,V,rfl,⟨hnc,hm,fun e => by cases e⟩,.inr ⟨g,0,rfl,h2 g rfl,lt_of_block hh,fun i j hi hj => ?_⟩,fun i j hi hj => (f i j).rdMono w _ S _ (fun b hb => (h5 i j b hi hj hb).1) ((f i j).owRd w _ _ (h4 i j hi hj))⟩
  rw [Nat.zero_add,World.ownsRow.cellAt h1 (i * k + j) (place_lt hi hj)]
  exact h3 i j hi hj
def Dt.rows (t : TypeId) (k n : Nat) (f : Nat → Nat → Dt) : Dt:=⟨RowsRd k n f,RowsOw t k n f,RowsRd.keep,RowsRd.mono,RowsOw.keep,RowsOw.mono,RowsOw.rd⟩
theorem RdV.keep {w w' : World} {S : Nat → Prop} {v : Value} {d : Dt} (t : Keeps S w w') (r : RdV w S v d) : RdV w' S v d:=d.rdKeep w w' S v t r
theorem RdV.mono {w : World} {S S' : Nat → Prop} {v : Value} {d : Dt} (t : ∀ b,S b → S' b) (r : RdV w S v d) : RdV w S' v d:=d.rdMono w S S' v t r
theorem RdV.step {w w' : World} {S : Nat → Prop} {v : Value} {d : Dt} (r : RdV w S v d) (hb : Below w.heap.size w w') : RdV w' S v d:=r.keep (Keeps.ofBelow hb)
theorem RdV.b {w : World} {S : Nat → Prop} {v : Value} {zs : List Int} (r : RdV w S v (.bytes zs)) : RdS w S v zs:=r
theorem RdV.sliceB {w : World} {S : Nat → Prop} {v : Value} {zs : List Int} (r : RdV w S v (.bytes zs)) : ∃ a cap,v = .slice a zs.length cap:=by obtain ⟨a,cap,h,_⟩:=r.b.reads; exact ⟨a,cap,h⟩
theorem RdV.inv {w : World} {S : Nat → Prop} {v : Value} {t : TypeId} {k n : Nat} {f : Nat → Nat → Dt} (r : RdV w S v (.rows t k n f)) : RowsRd k n f w S v:=r
theorem RdV.mkRows {w : World} {S : Nat → Prop} {v : Value} {k n : Nat} {f : Nat → Nat → Dt} (t : TypeId) (r : RowsRd k n f w S v) : RdV w S v (.rows t k n f):=r
theorem RdV.at {w : World} {S : Nat → Prop} {a : Option Addr} {n cap : Nat} {t : TypeId} {k : Nat} {f : Nat → Nat → Dt} (r : RdV w S (.slice a n cap) (.rows t k n f)) {i : Nat} (hi : i < n) :
  ∃ b off,a = some ⟨b,off,none⟩ ∧ b < w.heap.size ∧ S b ∧ ∀ j,j < k → ∃ x,w.cell? ⟨b,off + i * k + j,none⟩ = some x ∧ RdV w S x (f i j):=by
 obtain ⟨a',cap',V,hv,hh,hc,he⟩:=r.inv
 simp only [Value.slice.injEq] at hv
 obtain ⟨rfl,_,rfl⟩:=hv
 rcases hc with h0 | ⟨b,off,ha,h1,h2,hc⟩
 ·omega
 ·exact ⟨b,off,ha,h2,h1,fun j hj => ⟨V i j,by rw [Nat.add_assoc]; exact hc i j hi hj,he i j hi hj⟩⟩
theorem RdV.sliced {w : World} {S : Nat → Prop} {v : Value} {t : TypeId} {k n : Nat} {f : Nat → Nat → Dt} (r : RdV w S v (.rows t k n f)) : ∃ a cap,v = .slice a n cap ∧ n ≤ maxLen:=by
 obtain ⟨a,cap,V,hv,hh,_⟩:=r.inv
 exact ⟨a,cap,hv,Nat.le_trans hh.1 hh.2.1⟩
theorem RdV.congr {w : World} {S : Nat → Prop} {v : Value} {t t' : TypeId} {k n : Nat} {f g : Nat → Nat → Dt} (r : RdV w S v (.rows t k n f)) (h : ∀ i j,i < n → j < k → f i j = g i j) : RdV w S v (.rows t' k n g):=by
 obtain ⟨a,cap,V,rfl,hh,hc,he⟩:=r.inv
 exact ⟨a,cap,V,rfl,hh,hc,fun i j hi hj => h i j hi hj ▸ he i j hi hj⟩
theorem OwV.inv {w : World} {S : Nat → Prop} {v : Value} {t : TypeId} {k n : Nat} {f : Nat → Nat → Dt} (r : OwV w S v (.rows t k n f)) : RowsOw t k n f w S v:=r
theorem OwV.mkRows {w : World} {S : Nat → Prop} {v : Value} {t : TypeId} {k n : Nat} {f : Nat → Nat → Dt} (r : RowsOw t k n f w S v) : OwV w S v (.rows t k n f):=r
theorem OwV.mono {w : World} {S S' : Nat → Prop} {v : Value} {d : Dt} (t : ∀ b,S b → S' b) (r : OwV w S v d) : OwV w S' v d:=d.owMono w S S' v t r
theorem OwV.rd {w : World} {S : Nat → Prop} {v : Value} {d : Dt} (r : OwV w S v d) : RdV w S v d:=d.owRd w S v r
theorem OwV.keep {w w' : World} {S : Nat → Prop} {v : Value} {d : Dt} (t : Keeps S w w') (r : OwV w S v d) : OwV w' S v d:=d.owKeep w w' S v t r
theorem OwV.step {w w' : World} {S : Nat → Prop} {v : Value} {d : Dt} (r : OwV w S v d) (hb : Below w.heap.size w w') : OwV w' S v d:=r.keep (Keeps.ofBelow hb)
theorem OwV.congr {w : World} {S : Nat → Prop} {v : Value} {t : TypeId} {k n : Nat} {f g : Nat → Nat → Dt} (r : OwV w S v (.rows t k n f)) (h : ∀ i j,i < n → j < k → f i j = g i j) : OwV w S v (.rows t k n g):=by
 obtain ⟨V,C,Q,h1,h2,h3,h4,h5,h6⟩:=r.inv
 exact ⟨V,C,Q,h1,h2,h3,fun i j hi hj => h i j hi hj ▸ h4 i j hi hj,h5,h6⟩
theorem OwV.b {w : World} {S : Nat → Prop} {v : Value} {zs : List Int} (r : OwV w S v (.bytes zs)) : isBytes zs ∧ Owns w 0 v zs ∧ ∀ b,v.ownBlock = some b → S b:=r
theorem OwV.nilB (w : World) (S : Nat → Prop) : OwV w S (.n0) (.bytes []):=⟨isBytes_nil,World.ownsRow_nil _ _ _ _,fun b hb => by cases hb⟩
theorem OwV.nilR (w : World) (S : Nat → Prop) (t : TypeId) (k : Nat) (f : Nat → Nat → Dt) : OwV w S (.n0) (.rows t k 0 f):=
 ⟨fun _ _ => undef,[],fun _ _ _ => False,World.ownsRow_nil _ _ _ _,fun b hb => (by cases hb),fun i j hi => absurd hi (Nat.not_lt_zero _),fun i j hi => absurd hi (Nat.not_lt_zero _),fun i j b hi => absurd hi (Nat.not_lt_zero _),fun i j i' j' b hi => absurd hi (Nat.not_lt_zero _)⟩
theorem OwV.ofOwns {w : World} {B : Nat} {v : Value} {zs : List Int} (hz : isBytes zs) (h : Owns w B v zs) : OwV w (fun b => B ≤ b ∧ b < w.heap.size) v (.bytes zs):=⟨hz,h.base (Nat.zero_le _),fun b hb => h.lt b hb⟩

def upd (f : Nat → Nat → Dt) (i j : Nat) (d : Dt) : Nat → Nat → Dt:=fun i' j' => if i' = i ∧ j' = j then d else f i' j'
theorem OwV.put {w : World} {S R : Nat → Prop} {g cap : Nat} {t : TypeId} {k n : Nat} {f : Nat → Nat → Dt} (r : OwV w S (.slice (some ⟨g,0,none⟩) n cap) (.rows t k n f)) {i j : Nat} (hi : i < n) (hj : j < k) {u : Value} {d : Dt} (hu : OwV w R u d) (hd : ∀ b,R b → ¬ S b) :
  OwV (w.setCell ⟨g,i * k + j,none⟩ u) (fun b => S b ∨ R b) (.slice (some ⟨g,0,none⟩) n cap) (.rows t k n (upd f i j d)):=by
 obtain ⟨V,C,Q,h1,h2,h3,h4,h5,h6⟩:=r.inv
 have hst:=h1.stored (i * k + j) u
 have hCl : C.length = n * k:=h1.1
 have hg : S g:=h2 g rfl
 have kp : ∀ (T : Nat → Prop),(∀ b,T b → b ≠ g) → Keeps T w (w.setCell ⟨g,i * k + j,none⟩ u):=fun T hT => ⟨by simp,fun b hb _ => heap_setCell_other w _ b u (hT b hb)⟩
 refine OwV.mkRows ⟨fun i' j' => if i' = i ∧ j' = j then u else V i' j',C.set (i * k + j) u,fun i' j' => if i' = i ∧ j' = j then R else Q i' j',hst.1,fun b hb => .inl (h2 b hb),fun i' j' hi' hj' => ?_,fun i' j' hi' hj' => ?_,fun i' j' b hi' hj' hq => ?_,fun i1 j1 i2 j2 b hi1 hj1 hi2 hj2 hq1 hq2 => ?_⟩
 ·dsimp only
  rw [List.getElem?_set]
  by_cases he : i' = i ∧ j' = j
  ·obtain ⟨rfl,rfl⟩:=he
   rw [if_pos rfl,if_pos (by rw [hCl]; exact place_lt hi hj)]; simp
  ·rw [if_neg (fun e => he (by have:=place_inj hj hj' e; omega)),if_neg he]; exact h3 i' j' hi' hj'
 ·dsimp only
  unfold upd
  by_cases he : i' = i ∧ j' = j
  ·simp only [he,and_self,if_true]
   exact hu.keep (kp R (fun b hb e => hd b hb (e ▸ hg)))
  ·rw [if_neg he,if_neg he,if_neg he]
   exact (h4 i' j' hi' hj').keep (kp _ (fun b hb e => by subst e; exact (h5 i' j' _ hi' hj' hb).2 rfl))
 ·dsimp only at hq
  by_cases he : i' = i ∧ j' = j
  ·rw [if_pos he] at hq
   exact ⟨.inr hq,fun e => hd b hq (h2 b e)⟩
  ·rw [if_neg he] at hq
   exact ⟨.inl (h5 i' j' b hi' hj' hq).1,(h5 i' j' b hi' hj' hq).2⟩
 ·dsimp only at hq1 hq2
  by_cases he1 : i1 = i ∧ j1 = j
  ·by_cases he2 : i2 = i ∧ j2 = j
   ·omega
   ·rw [if_pos he1] at hq1; rw [if_neg he2] at hq2
    exact absurd (h5 i2 j2 b hi2 hj2 hq2).1 (hd b hq1)
  ·by_cases he2 : i2 = i ∧ j2 = j
   ·rw [if_neg he1] at hq1; rw [if_pos he2] at hq2
    exact absurd (h5 i1 j1 b hi1 hj1 hq1).1 (hd b hq2)
   ·rw [if_neg he1] at hq1; rw [if_neg he2] at hq2
    exact h6 i1 j1 i2 j2 b hi1 hj1 hi2 hj2 hq1 hq2
theorem OwV.put0 {w : World} {S : Nat → Prop} {g cap : Nat} {t : TypeId} {k n : Nat} {f : Nat → Nat → Dt} (r : OwV w S (.slice (some ⟨g,0,none⟩) n cap) (.rows t k n f)) {i j : Nat} (hi : i < n) (hj : j < k) {u : Value} {d : Dt} (hu : OwV w (fun _ => False) u d) :
  OwV (w.setCell ⟨g,i * k + j,none⟩ u) S (.slice (some ⟨g,0,none⟩) n cap) (.rows t k n (upd f i j d)):=
 (r.put hi hj hu (fun b hb => hb.elim)).mono (fun b hb => hb.elim id False.elim)
theorem OwV.sub {w : World} {S : Nat → Prop} {v : Value} {t : TypeId} {k n : Nat} {f : Nat → Nat → Dt} (r : OwV w S v (.rows t k n f)) {i j : Nat} (hi : i < n) (hj : j < k) :
  ∃ (Q : Nat → Prop) (x : Value) (g cap : Nat),v = .slice (some ⟨g,0,none⟩) n cap ∧ w.cell? ⟨g,i * k + j,none⟩ = some x ∧ OwV w Q x (f i j) ∧ (∀ b,Q b → S b ∧ b ≠ g) ∧
   ∀ w' d,Turned Q w w' → OwV w' Q x d → OwV w' S v (.rows t k n (upd f i j d)):=by
 obtain ⟨V,C,Q,h1,h2,h3,h4,h5,h6⟩:=r.inv
 rcases h1.2 with ⟨hv,h0⟩ | ⟨g,c,cur,hv,hg,hh,hnc,hm,_⟩
 ·omega
 ·subst hv
  refine ⟨Q i j,V i j,g,c,rfl,?_,h4 i j hi hj,fun b hb => ⟨(h5 i j b hi hj hb).1,fun e => (h5 i j b hi hj hb).2 (by rw [e]; rfl)⟩,fun w' d ht hd => ?_⟩
  ·rw [World.ownsRow.cellAt h1 (i * k + j) (place_lt hi hj)]; exact h3 i j hi hj
  ·refine OwV.mkRows ⟨V,C,Q,ownsRow_keep (S:=fun b => b = g) h1 (fun b hb => by cases hb; rfl) (ht.keeps (fun b hb hq => by subst hb; exact (h5 i j _ hi hj hq).2 rfl)),h2,h3,fun i' j' hi' hj' => ?_,h5,h6⟩
   unfold upd
   by_cases he : i' = i ∧ j' = j
   ·obtain ⟨rfl,rfl⟩:=he
    rw [if_pos ⟨rfl,rfl⟩]; exact hd
   ·rw [if_neg he]
    exact (h4 i' j' hi' hj').keep (ht.keeps (fun b hb hq => he (h6 i' j' i j b hi' hj' hi hj hb hq)))
theorem OwV.head {w : World} {S : Nat → Prop} {v : Value} {t : TypeId} {k n : Nat} {f : Nat → Nat → Dt} (r : OwV w S v (.rows t k n f)) : (v = .n0 ∧ n = 0) ∨ ∃ g cap,v = .slice (some ⟨g,0,none⟩) n cap ∧ S g ∧ g < w.heap.size ∧ (∀ j,w.frozen? ⟨g,j,none⟩ = false) ∧ ∀ j,j < n * k → ∃ u,w.cell? ⟨g,j,none⟩ = some u:=by
 obtain ⟨V,C,Q,h1,h2,h3,h4,h5,h6⟩:=r.inv
 rcases h1.2 with ⟨hv,h0⟩ | ⟨g,c,cur,hv,hg,hh,hnc,hm,_⟩
 ·exact .inl ⟨hv,h0⟩
 ·subst hv
  exact .inr ⟨g,c,rfl,h2 g rfl,lt_of_block hh,fun j => h1.frozenAt j,fun j hj => by rw [h1.cellAt j hj]; exact ⟨_,List.getElem?_eq_getElem (by rw [h1.1]; exact hj)⟩⟩

def VarA (w : World) (b : Nat) (T : TypeId) (cs : Array Value) : Prop:=w.heap[b]? = some (.cells cs T (0,0))
section
variable {w w' : World} {b : Nat} {T : TypeId} {cs : Array Value}
theorem VarA.c (h : VarA w b T cs) (j : Nat) {u : Value} (hu : cs[j]? = some u) : w.cell? ⟨b,j,none⟩ = some u:=by rw [cell_of_row _ _ _ _ _ _ h]; exact hu
theorem VarA.f (h : VarA w b T cs) (j : Nat) : w.frozen? ⟨b,j,none⟩ = false:=frozen_of_row _ _ _ _ _ h
theorem VarA.lt (h : VarA w b T cs) : b < w.heap.size:=lt_of_block h
theorem VarA.step (h : VarA w b T cs) (hb : Below w.heap.size w w') : VarA w' b T cs:=(hb.block b h.lt).trans h
theorem VarA.turn {S : Nat → Prop} (h : VarA w b T cs) (t : Turned S w w') (ho : ¬ S b) : VarA w' b T cs:=(t.block b h.lt ho).trans h
theorem VarA.new (w : World) (T : TypeId) (cs : Array Value) : VarA (w.alloc (.cells cs T)) w.heap.size T cs:=heap_alloc_new w _
theorem VarA.set (h : VarA w b T cs) (j : Nat) (u : Value) : VarA (w.setCell ⟨b,j,none⟩ u) b T (cs.setIfInBounds j u):=heap_setCell_same w b j cs T u h
theorem VarA.aside (h : VarA w b T cs) {p : Addr} (hp : b ≠ p.block) (u : Value) : VarA (w.setCell p u) b T cs:=(heap_setCell_other w p b u hp).trans h
theorem VarA.l1 {x0 : Value} (h : VarA w b T #[x0]) : w.cell? ⟨b,0,none⟩ = some x0:=h.c 0 rfl
theorem VarA.l3 {x0 x1 x2 : Value} (h : VarA w b T #[x0,x1,x2]) : w.cell? ⟨b,0,none⟩ = some x0 ∧ w.cell? ⟨b,1,none⟩ = some x1 ∧ w.cell? ⟨b,2,none⟩ = some x2:=⟨h.c 0 rfl,h.c 1 rfl,h.c 2 rfl⟩
theorem VarA.l4 {x0 x1 x2 x3 : Value} (h : VarA w b T #[x0,x1,x2,x3]) : w.cell? ⟨b,0,none⟩ = some x0 ∧ w.cell? ⟨b,1,none⟩ = some x1 ∧ w.cell? ⟨b,2,none⟩ = some x2 ∧ w.cell? ⟨b,3,none⟩ = some x3:=⟨h.c 0 rfl,h.c 1 rfl,h.c 2 rfl,h.c 3 rfl⟩
theorem VarA.l9 {x0 x1 x2 x3 x4 x5 x6 x7 x8 : Value} (h : VarA w b T #[x0,x1,x2,x3,x4,x5,x6,x7,x8]) : w.cell? ⟨b,0,none⟩ = some x0 ∧ w.cell? ⟨b,1,none⟩ = some x1 ∧ w.cell? ⟨b,2,none⟩ = some x2 ∧ w.cell? ⟨b,3,none⟩ = some x3 ∧ w.cell? ⟨b,4,none⟩ = some x4 ∧ w.cell? ⟨b,5,none⟩ = some x5 ∧ w.cell? ⟨b,6,none⟩ = some x6 ∧ w.cell? ⟨b,7,none⟩ = some x7 ∧ w.cell? ⟨b,8,none⟩ = some x8:=⟨h.c 0 rfl,h.c 1 rfl,h.c 2 rfl,h.c 3 rfl,h.c 4 rfl,h.c 5 rfl,h.c 6 rfl,h.c 7 rfl,h.c 8 rfl⟩
theorem VarA.l10 {x0 x1 x2 x3 x4 x5 x6 x7 x8 x9 : Value} (h : VarA w b T #[x0,x1,x2,x3,x4,x5,x6,x7,x8,x9]) : w.cell? ⟨b,0,none⟩ = some x0 ∧ w.cell? ⟨b,1,none⟩ = some x1 ∧ w.cell? ⟨b,2,none⟩ = some x2 ∧ w.cell? ⟨b,3,none⟩ = some x3 ∧ w.cell? ⟨b,4,none⟩ = some x4 ∧ w.cell? ⟨b,5,none⟩ = some x5 ∧ w.cell? ⟨b,6,none⟩ = some x6 ∧ w.cell? ⟨b,7,none⟩ = some x7 ∧ w.cell? ⟨b,8,none⟩ = some x8 ∧ w.cell? ⟨b,9,none⟩ = some x9:=⟨h.c 0 rfl,h.c 1 rfl,h.c 2 rfl,h.c 3 rfl,h.c 4 rfl,h.c 5 rfl,h.c 6 rfl,h.c 7 rfl,h.c 8 rfl,h.c 9 rfl⟩
theorem VarA.fz (h : VarA w b T cs) : ∀ j,w.frozen? ⟨b,j,none⟩ = false:=fun j => h.f j
theorem VarA.alloc (h : VarA w b T cs) (o : Obj) : VarA (w.alloc o) b T cs:=((World.grownBy_alloc w o none).block b h.lt (by simp)).trans h
end

theorem OwV.lt0 {w : World} {S : Nat → Prop} {g n cap : Nat} {t : TypeId} {k : Nat} {f : Nat → Nat → Dt} (r : OwV w S (.slice (some ⟨g,0,none⟩) n cap) (.rows t k n f)) {i : Nat} (hi : i < n) : g < w.heap.size:=by
 obtain ⟨V,C,Q,h1,_⟩:=r.inv
 exact (h1.lt g rfl).2
theorem made_at (z : Array Value) (n k i j : Nat) (hz : z.size = k) (hi : i < n) (hj : j < k) : (madeCells z (n * k)).toList[i * k + j]? = z[j]?:=by
 have h1:=place_lt hi hj
 have h2 : (i * k + j) % k = j:=by rw [Nat.add_comm,Nat.mul_comm,Nat.add_mul_mod_self_left,Nat.mod_eq_of_lt hj]
 simp [madeCells,h1,hz,h2,hj]
theorem OwV.made {w : World} {B g n cap : Nat} {t : TypeId} {k : Nat} {z : Array Value} (hz : z.size = k) (h : w.ownsRow B t k (.slice (some ⟨g,0,none⟩) n cap) n (madeCells z (n * k)).toList) (f : Nat → Dt) (hf : ∀ j,j < k → OwV w (fun _ => False) (z[j]?.getD undef) (f j)) :
  OwV w (fun b => B ≤ b ∧ b < w.heap.size) (.slice (some ⟨g,0,none⟩) n cap) (.rows t k n (fun _ j => f j)):=by
 refine OwV.mkRows ⟨fun _ j => z[j]?.getD undef,_,fun _ _ _ => False,ownsRow_base h,fun b hb => World.ownsRow.lt h b hb,fun i j hi hj => ?_,fun i j hi hj => hf j hj,fun i j b _ _ hq => hq.elim,fun i j i' j' b _ _ _ _ hq => hq.elim⟩
 rw [made_at z n k i j hz hi hj]
 simp [hz,hj]
theorem OwV.close {w w2 w' : World} {N : Nat} {v : Value} {d : Dt} (B : Below w.heap.size w w2) (o : OwV w2 (fun b => N ≤ b ∧ b < w2.heap.size) v d) (hN : w.heap.size ≤ N) (t : Turned (fun b => w.heap.size ≤ b ∧ b < N) w2 w') :
  OwV w' (fun b => w.heap.size ≤ b ∧ b < w'.heap.size) v d ∧ Below w.heap.size w w':=
 ⟨(o.keep (t.keeps (fun b hb hs => by omega))).mono (fun b hb => ⟨by omega,Nat.lt_of_lt_of_le hb.2 t.size⟩),Turned.below B t B.size (fun i hi => hi.1)⟩
theorem OwV.close2 {w w2 w' : World} {N M L : Nat} {v v2 : Value} {d d2 : Dt} (B : Below w.heap.size w w2) (o : OwV w2 (fun b => N ≤ b ∧ b < M) v d) (o2 : OwV w2 (fun b => L ≤ b ∧ b < w2.heap.size) v2 d2) (hM : M ≤ L) (hN : w.heap.size ≤ N) (hL : N ≤ L) (t : Turned (fun b => w.heap.size ≤ b ∧ b < N) w2 w') :
  OwV w' (fun b => w.heap.size ≤ b ∧ b < M) v d ∧ OwV w' (fun b => M ≤ b ∧ b < w'.heap.size) v2 d2 ∧ Below w.heap.size w w':=
 ⟨(o.keep (t.keeps (fun b hb hs => by omega))).mono (fun b hb => ⟨by omega,hb.2⟩),(o2.keep (t.keeps (fun b hb hs => by omega))).mono (fun b hb => ⟨by omega,Nat.lt_of_lt_of_le hb.2 t.size⟩),Turned.below B t B.size (fun i hi => hi.1)⟩
theorem RdV.old {w : World} {S : Nat → Prop} {v : Value} {d : Dt} (r : RdV w S v d) : ∀ W,Below w.heap.size w W → RdV W S v d:=fun W hW => r.step hW
end
section
section
variable {P : Program} {ops : Array Oper} {Q : Exit → Act → World → Prop} {md : Region.Mode} {S : World → Prop} {z : Nat}

def wpAnyZ (P : Program) (md : Region.Mode) (ops : Array Oper) (Q : Exit → Act → World → Prop) (S : World → Prop) (z : Nat) : Nat → Array Bool → Act → World → Prop
 | 0,listed,a,w => Region.ready md ops listed = [] ∧ Q .normal a w
 | fuel + 1,listed,a,w =>
  (Region.ready md ops listed = [] → Q .normal a w) ∧
  ∀ i ∈ Region.ready md ops listed,wpOp P ops Q i (fun a' w' => (i ≠ z → S w') ∧ wpAnyZ P md ops Q S z fuel (listed.setIfInBounds i true) a' w') a w
theorem wpAny_of_Z : ∀ (fuel : Nat) (listed : Array Bool) (a : Act) (w : World),wpAnyZ P md ops Q S z fuel listed a w → wpAny P md ops Q fuel listed a w
 | 0,_,_,_,h => h
 | fuel + 1,_,_,_,h => ⟨h.1,fun i hi => wpOp_mono (fun a' w' h' => wpAny_of_Z fuel _ a' w' h'.2) (h.2 i hi)⟩
theorem wpAnyZ_first {i : Nat} {oi : Oper} {v : Value} (hi : ops[i]? = some oi) (hsel : ∀ (j : Nat) (o : Oper) cs b,ops[j]? = some o → o.op ≠ .select cs b) (hzi : ∀ oz,ops[z]? = some oz → ∃ e ∈ oz.after,Region.binds md e = true ∧ e.on = i)
  (hQ : ∀ c a w,Q (.panic c) (a.put oi.dst v) w → Q (.panic c) a w) :
  ∀ (fuel : Nat) (listed : Array Bool) (a : Act) (w : World),
   (∀ j oj,ops[j]? = some oj → j ≠ i → listed.getD j true = false → (∀ e ∈ oj.after,Region.binds md e = true → e.on ≠ i) → oi.apart ops oj = true) →
   i ∈ Region.ready md ops listed → YieldsIf P ops S oi v a → S w →
   wpAnyZ P md ops Q S z fuel (listed.setIfInBounds i true) (a.put oi.dst v) w → wpAnyZ P md ops Q S z (fuel + 1) listed a w:=by
 intro fuel
 induction fuel with
 | zero =>
  intro listed a w _ hr hy hS H
  refine ⟨fun h => (by rw [h] at hr; cases hr),fun j hj => ?_⟩
  by_cases hji : j = i
  ·subst hji; exact hy.wpOp hi hS ⟨fun _ => hS,H⟩
  ·have:=ready_mono hj hji
   rw [H.1] at this
   cases this
 | succ fuel ih =>
  intro listed a w hfree hr hy hS H
  refine ⟨fun h => (by rw [h] at hr; cases hr),fun j hj => ?_⟩
  by_cases hji : j = i
  ·subst hji; exact hy.wpOp hi hS ⟨fun _ => hS,H⟩
  ·have h1:=H.2 j (ready_mono hj hji)
   obtain ⟨hjun,oj,hoj,hall⟩:=mem_ready.1 hj
   have hnot : ∀ e ∈ oj.after,Region.binds md e = true → e.on ≠ i:=fun e he hb heq => by
    have h1:=hall e he hb
    have h0:=(mem_ready.1 hr).1
    rw [heq] at h1
    rcases Nat.lt_or_ge i listed.size with h' | h'
    ·simp [h'] at h0 h1; rw [h0] at h1; cases h1
    ·simp [Array.getElem?_eq_none h'] at h1
   have hjz : j ≠ z:=fun e => by
    subst e
    obtain ⟨e,he,hb,ho⟩:=hzi oj hoj
    exact hnot e he hb ho
   have h2:=wpOp_putIf hoj (hfree j oj hoj hji hjun hnot) (fun cs b => hsel i oi cs b hi) (fun cs b => hsel j oj cs b hoj) hQ hy h1
   have hfree' : ∀ k ok,ops[k]? = some ok → k ≠ i → (listed.setIfInBounds j true).getD k true = false →
     (∀ e ∈ ok.after,Region.binds md e = true → e.on ≠ i) → oi.apart ops ok = true:=fun k ok hk hki hun hno => by
    refine hfree k ok hk hki ?_ hno
    by_cases hjk : j = k
    ·subst hjk; exact hjun
    ·rw [getD_set_ne true hjk] at hun; exact hun
   refine wpOp_mono (fun a' w' h3 => ⟨h3.2.1,ih (listed.setIfInBounds j true) a' w' hfree' (ready_mono hr (Ne.symm hji)) h3.1 (h3.2.1 hjz) ?_⟩) h2
   rw [Array.setIfInBounds_comm _ _ hji]
   exact h3.2.2
theorem wpAnyZ_take {i : Nat} {oi : Oper} {v : Value} {fuel : Nat} {listed : Array Bool} {a : Act} {w : World} (hi : ops[i]? = some oi)
  (hs : Region.noSelect ops = true) (hf : Region.free md ops listed i = true) (hr : (Region.ready md ops listed).contains i = true) (hz : (ops[z]?.map (fun o => o.after.any (fun e => Region.binds md e && e.on == i))) = some true)
  (hQ : ∀ c a w,Q (.panic c) (a.put oi.dst v) w → Q (.panic c) a w) (hy : YieldsIf P ops S oi v a) (hS : S w)
  (h : wpAnyZ P md ops Q S z fuel (listed.setIfInBounds i true) (a.put oi.dst v) w) : wpAnyZ P md ops Q S z (fuel + 1) listed a w:=
 wpAnyZ_first hi (Region.noSelect_spec hs) (fun oz ho => by
  rw [ho,Option.map_some,Option.some.injEq,Array.any_eq_true] at hz
  obtain ⟨k,hk,h3⟩:=hz
  rw [Bool.and_eq_true,beq_iff_eq] at h3
  exact ⟨_,Array.getElem_mem hk,h3.1,h3.2⟩) hQ fuel listed a w (Region.free_spec hi hf) (by simpa using hr) hy hS h
theorem wpAnyZ_done {listed : Array Bool} {a : Act} {w : World} (hr : Region.ready md ops listed = []) (h : Q .normal a w) :
  ∀ fuel,wpAnyZ P md ops Q S z fuel listed a w
 | 0 => ⟨hr,h⟩
 | _ + 1 => ⟨fun _ => h,by rw [hr]; simp⟩
theorem wpAnyZ_one {i : Nat} {o : Oper} {fuel : Nat} {listed : Array Bool} {a : Act} {w : World} (hr : Region.ready md ops listed = [i]) (ho : ops[i]? = some o)
  (h : ∀ K' : Act → World → Prop,Shut (∀ a w,S w → (S w → wpAnyZ P md ops Q S z fuel (listed.setIfInBounds i true) a w) → K' a w) → if Region.wanted o (yielded ops a.tmps) = true then Oper.wp P o a w K' Q else K' (a.put o.dst undef) w) : wpAnyZ P md ops Q S z (fuel + 1) listed a w:=
 ⟨fun h0 => (by rw [hr] at h0; cases h0),fun j hj => by
  rw [hr] at hj
  simp only [List.mem_cons,List.not_mem_nil,or_false] at hj
  subst hj
  exact wpOp_step ho (fun K' hK => h K' (fun a w hS hW => hK a w ⟨fun _ => hS,hW hS⟩))⟩
theorem wpAnyZ_last {o : Oper} {fuel : Nat} {listed : Array Bool} {a : Act} {w : World} (hr : Region.ready md ops listed = [z]) (ho : ops[z]? = some o)
  (h : ∀ K' : Act → World → Prop,Shut (∀ a w,wpAnyZ P md ops Q S z fuel (listed.setIfInBounds z true) a w → K' a w) → if Region.wanted o (yielded ops a.tmps) = true then Oper.wp P o a w K' Q else K' (a.put o.dst undef) w) : wpAnyZ P md ops Q S z (fuel + 1) listed a w:=
 ⟨fun h0 => (by rw [hr] at h0; cases h0),fun j hj => by
  rw [hr] at hj
  simp only [List.mem_cons,List.not_mem_nil,or_false] at hj
  subst hj
  exact wpOp_step ho (fun K' hK => h K' (fun a w hW => hK a w ⟨fun h => absurd rfl h,hW⟩))⟩
theorem wp_region_Z {id : Nat} {a : Act} {w : World} (S : World → Prop) (z : Nat) (hm : P.follows .mixedOrders = true) (hS : S w.drew)
  (h : S w.drew → wpAnyZ P .any ops Q S z ops.size (Array.replicate ops.size false) a w.drew) : (Code.region id ops true).wp P Q a w:=
 wp_region_any hm (wpAny_of_Z _ _ _ _ (h hS))
end
end
section
theorem tkz {P : Program} {md : Region.Mode} {ops : Array Oper} {Q : Exit → Act → World → Prop} {S : World → Prop} {z : Nat} {oi : Oper} {fuel : Nat} {listed : Array Bool} {a : Act} {w : World} (i : Nat) (v : Value) (hi : ops[i]? = some oi)
    (hb : (Region.noSelect ops && (Region.free md ops listed i && ((Region.ready md ops listed).contains i && ((ops[z]?.map (fun o => o.after.any (fun e => Region.binds md e && e.on == i))) == some true)))) = true) (hw : Region.wanted oi (yielded ops a.tmps) = true) (hS : S w) (hy : ∀ w,S w → (execOp a.eval oi).run P w = .ok (.value v) w)
    (h : wpAnyZ P md ops (NoPanic Q) S z fuel (listed.setIfInBounds i true) (a.put oi.dst v) w) : wpAnyZ P md ops (NoPanic Q) S z (fuel + 1) listed a w:=by
  simp only [Bool.and_eq_true,beq_iff_eq] at hb
  exact wpAnyZ_take hi hb.1 hb.2.1 hb.2.2.1 hb.2.2.2 (fun _ _ _ h => h) (Or.inl ⟨hw,hy⟩) hS h
end
section
def getLoop : Nat → List Int → Nat → Int → Int → Option (Int × Nat)
 | 0,_,_,_,_ => none
 | _ + 1,[],_,_,_ => none
 | f + 1,x :: r,i,n,sc =>
  if 128 ≤ x then getLoop f r (i + 1) (n + (x - 128) * sc) (sc * 128)
  else if (0 < i ∧ x = 0) ∨ 2147483647 < n + x * sc then none else some (n + x * sc,i + 1)

def getNum (zs : List Int) (p : Int) : Int × Int:=
 if p < 0 then (0,-1) else match getLoop 5 (zs.drop p.toNat) 0 0 1 with
  | none => (0,-1)
  | some (n,c) => (n,p + c)

def wt : Nat → Int
 | 0 => 1
 | 1 => 128
 | 2 => 16384
 | 3 => 2097152
 | 4 => 268435456
 | _ => 34359738368
def At (zs : List Int) (p k : Nat) (n : Int) : Prop:=0 ≤ n ∧ n ≤ wt k ∧ getLoop 5 (zs.drop p) 0 0 1 = getLoop (5 - k) (zs.drop (p + k)) k n (wt k)
def GRel (zs : List Int) (L p : Nat) (q s i : Value) : Prop:=
 ∃ (k : Nat) (n sc : Int),k ≤ 5 ∧ p + k ≤ L ∧ i = .i k ∧ q = .i n ∧ s = .i sc ∧ Hid (sc = wt k) ∧ Hid (At zs p k n)
end
section
set_option maxHeartbeats 1000000 in
theorem joined_any (a b : Option Addr) (xs ys : List Int) (ca cb : Nat) (w : World) (hx : Reads w a xs) (hy : Reads w b ys) (hl : xs.length ≤ 2097152) (hm : ys.length ≤ 2097152) :
  Calls Tryz.prog 118 #[.slice a xs.length ca,.slice b ys.length cb] w fun e w' => e = .returned (.slice (some ⟨w.heap.size,0,none⟩) (xs ++ ys).length (xs ++ ys).length) ∧
   Owns w' w.heap.size (.slice (some ⟨w.heap.size,0,none⟩) (xs ++ ys).length (xs ++ ys).length) (xs ++ ys) ∧ Below w.heap.size w w' ∧ w.heap.size < w'.heap.size:=by
 obtain ⟨i0,hi,hz0,hz1,hz2⟩:=info_parts Tryz.infoB
 obtain ⟨m,hm'⟩ : ∃ m,xs.length = m:=⟨_,rfl⟩
 obtain ⟨n,hn'⟩ : ∃ n,ys.length = n:=⟨_,rfl⟩
 have HM : Hid (xs.length = m):=hm'
 have HN : Hid (ys.length = n):=hn'
 rw [List.length_append,hm',hn']
 rw [hm'] at hl
 rw [hn'] at hm
 obtain ⟨X,HX⟩ : ∃ X,Hid (X = bcells xs):=⟨_,rfl⟩
 obtain ⟨Y,HY⟩ : ∃ Y,Hid (Y = bcells ys):=⟨_,rfl⟩
 have hXl : X.length = m:=by rw [HX.out,bcells_length]; exact hm'
 have hYl : Y.length = n:=by rw [HY.out,bcells_length]; exact hn'
 obtain ⟨Z,HZ⟩ : ∃ Z,Hid (Z = bcells (List.replicate (m + n) 0)):=⟨_,rfl⟩
 have hZl : Z.length = m + n:=by rw [HZ.out]; simp
 have hsl : (splice Z 0 X).length = m + n:=by rw [length_splice _ _ _ (by omega),hZl]
 have HFIN : Hid (splice (splice Z 0 X) m Y = bcells (xs ++ ys)):=by
  show _ = _
  rw [splice_two Z X Y m hXl (by omega),HX.out,HY.out]; simp [bcells]
 have HX1 : Hid (∀ v ∈ X,v.oneCell' = true):=by show ∀ v ∈ X,v.oneCell' = true; rw [HX.out]; exact bcells_one xs
 have HY1 : Hid (∀ v ∈ Y,v.oneCell' = true):=by show ∀ v ∈ Y,v.oneCell' = true; rw [HY.out]; exact bcells_one ys
 have hXm : X.length = Nat.min m (m + n):=by rw [hXl]; exact (Nat.min_eq_left (by omega)).symm
 have hYm : Y.length = Nat.min n n:=by rw [hYl]; exact (Nat.min_self n).symm
 clear hm' hn'
 go_enter Tryz.func118,Tryz.ntmps118
 go_wp2_with (first
  | (at_make; refine wpList_make_full _ rfl _ _ 39 rfl w.heap.size 5 i0 (.int .u8 0) 1 Tryz.underlying39 hi hz0 hz1 .i64 .i64 _ _ (m + n) rfl rfl (by omega) (by omega) (by rw [hz2]; omega) (by unfold maxLen; omega) (Nat.le_refl _) ?_; intro w1 hown hgrow; have hb1 : Below w.heap.size w w1:=(Below.refl _ _).grown hgrow (Nat.le_refl _) (fun k h => by cases h); have hs1 : w.heap.size < w1.heap.size:=(hown.lt _ rfl).2; rw [madeCells_bytes,← HZ.out] at hown; have HG1 : Hid _:=full_heap hown; clear hown hgrow)
  | (refine wpList_copy_splice rfl (.tmp 12) (.tmp 13) 39 39 rfl 5 Tryz.underlying39 Tryz.sizeB _ _ _ _ _ _ rfl rfl w.heap.size 0 Z 5 HG1.out X hXm (fun h0 => ⟨rfl,by rw [HX.out] at h0 ⊢; exact (hx.below hb1).src h0⟩) (by omega) HX1.out w.heap.size w hb1 (Nat.le_refl _) ?_; intro w2 HG2 hb2)
  | (refine wpList_copy_splice rfl (.tmp 18) (.tmp 19) 39 39 rfl 5 Tryz.underlying39 Tryz.sizeB _ _ _ _ _ _ rfl rfl w.heap.size m (splice Z 0 X) 5 HG2.out Y (by rw [hYl]; simp <;> omega) (fun h0 => ⟨by simp <;> omega,by rw [HY.out] at h0 ⊢; exact (hy.below hb2).src h0⟩) (by omega) HY1.out w.heap.size w hb2 (Nat.le_refl _) ?_; intro w3 HG3 hb3))
 all_goals
  go_ret
  have hg3:=HG3.out
  rw [HFIN.out] at hg3
  exact ⟨rfl,full_owns (by have:=HM.out; have:=HN.out; rw [List.length_append]; omega) (Nat.le_refl _) (by rw [List.length_append,HM.out,HN.out]; omega) hg3,hb3,lt_of_block hg3⟩

def numB : Nat → Int → List Int
 | 0,n => [n]
 | f + 1,n => if n < 128 then [n] else (n % 128 + 128) :: numB f (n / 128)

def putB (n : Int) : List Int:=if n < 0 ∨ 2147483647 < n then [] else numB 4 n
end
section
def SRel (xs : List Int) (n : Int) (w : World) (o q : Value) (wr : World) : Prop:=
 ∃ (f : Nat) (m : Int) (pre : List Int),f ≤ 4 ∧ 0 ≤ m ∧ m < wt (f + 1) ∧ q = .i m ∧ pre.length + f = 4 ∧ numB 4 n = pre ++ numB f m ∧ Owns wr w.heap.size o (xs ++ pre) ∧ Below w.heap.size w wr
end
section
set_option maxRecDepth 100000
end
section
def textB (t : List Int) : List Int:=if 40 < t.length then [] else putB t.length ++ t
def getText (zs : List Int) (p : Int) : List Int × Int:=
 if (getNum zs p).2 < 0 ∨ 40 < (getNum zs p).1 ∨ (zs.length : Int) - (getNum zs p).2 < (getNum zs p).1 then ([],-1)
 else ((zs.drop (getNum zs p).2.toNat).take (getNum zs p).1.toNat,(getNum zs p).2 + (getNum zs p).1)
end
section
set_option linter.unusedVariables false
end
section
abbrev Hd:=Int × Int × Bool
abbrev Hd.sh (h : Hd) : Int:=h.1
abbrev Hd.ino (h : Hd) : Int:=h.2.1
abbrev Hd.dir (h : Hd) : Bool:=h.2.2
abbrev Hd.v (h : Hd) : Value:=.agg #[.i h.sh,.i h.ino,.bool h.dir]

theorem toHandle_any (h : Hd) (w : World) : Calls Tryz.prog 62 #[h.v] w fun e w' => e = .returned h.v ∧ Below w.heap.size w w':=by
 obtain ⟨s,i,d⟩:=h
 go_enter Tryz.func62,Tryz.ntmps62
 go_wp2
 refine bodyPost_ret (v:=.agg #[.i s,.i i,.bool d]) (by simp [results,Tryz.results62,go_sem]) rfl ⟨rfl,?_⟩
 exact ((((Below.refl _ _).alloc (Nat.le_refl _) _).alloc (by simp) _).alloc (by simp; omega) _)

theorem Below.newH {w : World} (o : Obj) : Below w.heap.size w (w.alloc o):=(Below.refl _ _).alloc (Nat.le_refl _) _
theorem Below.newH2 {w : World} (o o' : Obj) : Below w.heap.size w ((w.alloc o).alloc o'):=((Below.refl _ _).alloc (Nat.le_refl _) _).alloc (by simp) _
def HOk (h : Hd) : Bool:=decide (0 ≤ h.sh) && (decide (h.sh < 4) && (decide (1 ≤ h.ino) && decide (h.ino ≤ 2147483647)))

theorem specHandleOk_w (h : Hd) (w : World) : Calls Tryz.prog 32 #[h.v] w fun e w' => e = .returned (.bool (HOk h)) ∧ w' = w.alloc (.cells #[.i h.sh,.i h.ino,.bool h.dir] 48):=by
 obtain ⟨s,i,d⟩:=h
 go_enter Tryz.func32,Tryz.ntmps32
 go_wp2
 all_goals (go_ret; exact ⟨by first | rfl | (simp_all [HOk] <;> omega),rfl⟩)
theorem specHandleOk_any (h : Hd) (w : World) : Calls Tryz.prog 32 #[h.v] w fun e w' => e = .returned (.bool (HOk h)) ∧ Below w.heap.size w w':=
 (specHandleOk_w h w).mono fun e w' ⟨he,hw⟩ => ⟨he,by rw [hw]; exact Below.newH _⟩
theorem implHandleOk_w (h : Hd) (w : World) : Calls Tryz.prog 94 #[h.v] w fun e w' => e = .returned (.bool (HOk h)) ∧ w' = w.alloc (.cells #[.i h.sh,.i h.ino,.bool h.dir] 48):=by
 obtain ⟨s,i,d⟩:=h
 go_enter Tryz.func94,Tryz.ntmps94
 go_wp2
 all_goals (go_ret; exact ⟨by first | rfl | (simp_all [HOk] <;> omega),rfl⟩)
theorem implHandleOk_any (h : Hd) (w : World) : Calls Tryz.prog 94 #[h.v] w fun e w' => e = .returned (.bool (HOk h)) ∧ Below w.heap.size w w':=
 (implHandleOk_w h w).mono fun e w' ⟨he,hw⟩ => ⟨he,by rw [hw]; exact Below.newH _⟩
theorem eqHandle_same (h : Hd) (w : World) : Calls Tryz.prog 73 #[h.v,h.v] w fun e w' => e = .returned (.bool true) ∧ Below w.heap.size w w':=by
 obtain ⟨s,i,d⟩:=h
 go_enter Tryz.func73,Tryz.ntmps73
 go_wp2
 all_goals (go_ret; exact ⟨by first | rfl | (simp_all [HOk] <;> omega),by first | exact Below.refl _ _ | exact Below.newH _ | exact Below.newH2 _ _⟩)
end
section
theorem add_plainT (b off i : Nat) : (⟨b,off,none⟩ : Addr).add i = ⟨b,off + i,none⟩:=by
 unfold Addr.add
 by_cases hi : i = 0
 ·subst hi; simp
 ·simp [hi]

structure En where
 nm : List Int
 h : Hd
structure Nd where
 h : Hd
 par : Hd
 links : Int
 val : Int
 es : List En
structure OpD where
 kind : Int
 dir : Hd
 nm : List Int
 to : Hd
 asn : List Int
 val : Int

def hd0 : Hd:=(0,0,false)
def en0 : En:=⟨[],hd0⟩
def nd0 : Nd:=⟨hd0,hd0,0,0,[]⟩
def enCell (e : En) : Nat → Dt
 | 0 => .bytes e.nm
 | 1 => .int e.h.sh
 | 2 => .int e.h.ino
 | _ => .bool e.h.dir
def ensDt (l : List En) : Dt:=.rows 86 4 l.length (fun i j => enCell (l[i]?.getD en0) j)
def ndCell (n : Nd) : Nat → Dt
 | 0 => .int n.h.sh
 | 1 => .int n.h.ino
 | 2 => .bool n.h.dir
 | 3 => .int n.par.sh
 | 4 => .int n.par.ino
 | 5 => .bool n.par.dir
 | 6 => .int n.links
 | 7 => .int n.val
 | _ => ensDt n.es
def ndsDt (l : List Nd) : Dt:=.rows 77 9 l.length (fun i j => ndCell (l[i]?.getD nd0) j)

abbrev enV (nm : Value) (h : Hd) : Value:=.agg #[nm,.i h.sh,.i h.ino,.bool h.dir]
abbrev ndV (n : Nd) (es : Value) : Value:=.agg #[.i n.h.sh,.i n.h.ino,.bool n.h.dir,.i n.par.sh,.i n.par.ino,.bool n.par.dir,.i n.links,.i n.val,es]
abbrev opV (o : OpD) (x y : Value) : Value:=.agg #[.i o.kind,.i o.dir.sh,.i o.dir.ino,.bool o.dir.dir,x,.i o.to.sh,.i o.to.ino,.bool o.to.dir,y,.i o.val]

def szEns (l : List En) : Nat:=l.length + (l.map (fun e => e.nm.length)).sum
def szNds (l : List Nd) : Nat:=l.length + (l.map (fun n => szEns n.es)).sum
theorem sum_at {α : Type} (f : α → Nat) : ∀ (l : List α) (i : Nat) (a : α),l[i]? = some a → f a ≤ (l.map f).sum
 | [],i,a,h => by simp at h
 | x :: r,0,a,h => by simp at h; subst h; simp
 | x :: r,i + 1,a,h => by
  have:=sum_at f r i a (by simpa using h)
  simp; omega
theorem szEns_at (l : List En) (i : Nat) : (l[i]?.getD en0).nm.length ≤ szEns l:=by
 cases h : l[i]? with
 | none => simp [en0]
 | some a => have:=sum_at (fun e : En => e.nm.length) l i a h; simp [szEns]; omega
theorem szNds_at (l : List Nd) (i : Nat) : szEns (l[i]?.getD nd0).es ≤ szNds l:=by
 cases h : l[i]? with
 | none => simp [nd0,szEns]
 | some a => have:=sum_at (fun n : Nd => szEns n.es) l i a h; simp [szNds]; omega
end
section
abbrev TxD:=Int × Int × Int
structure PtD where
 kind : Int
 h : Hd
 asn : List Int
 to : Hd
structure RpD where
 code : Int
 h : Hd
 val : Int
 list : List En
structure MsD where
 kind : Int
 fr : Int
 to : Int
 req : Int
 op : OpD
 rp : RpD
 tx : TxD
 pt : PtD
 code : Int
 h : Hd
def tx0 : TxD:=(0,0,0)
def op0 : OpD:=⟨0,hd0,[],hd0,[],0⟩
def rp0 : RpD:=⟨0,hd0,0,[]⟩
def pt0 : PtD:=⟨0,hd0,[],hd0⟩
def ms0 : MsD:=⟨0,0,0,0,op0,rp0,tx0,pt0,0,hd0⟩
abbrev txV (t : TxD) : Value:=.agg #[.i t.1,.i t.2.1,.i t.2.2]
abbrev ptV (p : PtD) (u : Value) : Value:=.agg #[.i p.kind,.i p.h.sh,.i p.h.ino,.bool p.h.dir,u,.i p.to.sh,.i p.to.ino,.bool p.to.dir]
abbrev rpV (r : RpD) (z : Value) : Value:=.agg #[.i r.code,.i r.h.sh,.i r.h.ino,.bool r.h.dir,.i r.val,z]
abbrev msV (m : MsD) (x y z u : Value) : Value:=.agg #[.i m.kind,.i m.fr,.i m.to,.i m.req,.i m.op.kind,.i m.op.dir.sh,.i m.op.dir.ino,.bool m.op.dir.dir,x,.i m.op.to.sh,.i m.op.to.ino,.bool m.op.to.dir,y,.i m.op.val,.i m.rp.code,.i m.rp.h.sh,.i m.rp.h.ino,.bool m.rp.h.dir,.i m.rp.val,z,.i m.tx.1,.i m.tx.2.1,.i m.tx.2.2,.i m.pt.kind,.i m.pt.h.sh,.i m.pt.h.ino,.bool m.pt.h.dir,u,.i m.pt.to.sh,.i m.pt.to.ino,.bool m.pt.to.dir,.i m.code,.i m.h.sh,.i m.h.ino,.bool m.h.dir]
theorem VarA.l6 {w : World} {b : Nat} {T : TypeId} {x0 x1 x2 x3 x4 x5 : Value} (h : VarA w b T #[x0,x1,x2,x3,x4,x5]) : w.cell? ⟨b,0,none⟩ = some x0 ∧ w.cell? ⟨b,1,none⟩ = some x1 ∧ w.cell? ⟨b,2,none⟩ = some x2 ∧ w.cell? ⟨b,3,none⟩ = some x3 ∧ w.cell? ⟨b,4,none⟩ = some x4 ∧ w.cell? ⟨b,5,none⟩ = some x5:=⟨h.c 0 rfl,h.c 1 rfl,h.c 2 rfl,h.c 3 rfl,h.c 4 rfl,h.c 5 rfl⟩
def RdM (w : World) (S : Nat → Prop) (m : MsD) (x y z u : Value) : Prop:=RdV w S x (.bytes m.op.nm) ∧ RdV w S y (.bytes m.op.asn) ∧ RdV w S z (ensDt m.rp.list) ∧ RdV w S u (.bytes m.pt.asn)
def OwM (w : World) (S : Nat → Prop) (m : MsD) (x y z u : Value) : Prop:=
 ∃ Q1 Q2 Q3 Q4 : Nat → Prop,OwV w Q1 x (.bytes m.op.nm) ∧ OwV w Q2 y (.bytes m.op.asn) ∧ OwV w Q3 z (ensDt m.rp.list) ∧ OwV w Q4 u (.bytes m.pt.asn) ∧
  (∀ b,Q1 b ∨ Q2 b ∨ Q3 b ∨ Q4 b → S b) ∧ (∀ b,Q1 b → ¬ Q2 b ∧ ¬ Q3 b ∧ ¬ Q4 b) ∧ (∀ b,Q2 b → ¬ Q3 b ∧ ¬ Q4 b) ∧ (∀ b,Q3 b → ¬ Q4 b)
def szMs (m : MsD) : Nat:=m.op.nm.length + m.op.asn.length + szEns m.rp.list + m.pt.asn.length
end
section
def flagB (b : Bool) : List Int:=if b then [1] else [0]
def hdB (h : Hd) : List Int:=putB h.sh ++ (putB h.ino ++ flagB h.dir)
def opB (o : OpD) : List Int:=putB o.kind ++ (hdB o.dir ++ (textB o.nm ++ (hdB o.to ++ (textB o.asn ++ putB o.val))))
def enB (e : En) : List Int:=textB e.nm ++ hdB e.h
def ensB (l : List En) : List Int:=l.flatMap enB
def rpB (r : RpD) : List Int:=putB r.code ++ (hdB r.h ++ (putB r.val ++ (putB r.list.length ++ ensB r.list)))
def txB (t : TxD) : List Int:=putB t.1 ++ (putB t.2.1 ++ putB t.2.2)
def ptB (p : PtD) : List Int:=putB p.kind ++ (hdB p.h ++ (textB p.asn ++ hdB p.to))
def msRest (m : MsD) : List Int:=
 if m.kind = 0 then putB m.req ++ opB m.op
 else if m.kind = 1 then putB m.req ++ rpB m.rp
 else if m.kind = 2 then txB m.tx ++ ptB m.pt
 else if m.kind = 3 then txB m.tx ++ (ptB m.pt ++ (putB m.code ++ hdB m.h))
 else if m.kind = 5 then txB m.tx ++ putB m.code
 else if m.kind = 6 then txB m.tx ++ (putB m.req ++ hdB m.h)
 else if m.kind = 7 then txB m.tx ++ (putB m.req ++ (putB m.code ++ hdB m.h))
 else txB m.tx
def msB (m : MsD) : List Int:=putB m.kind ++ (putB m.fr ++ (putB m.to ++ msRest m))
theorem Below.al2 {a b : World} (h : Below a.heap.size a b) (o : Obj) : Below a.heap.size a (b.alloc o):=h.alloc h.size _
abbrev Ap (f : FuncId) (args : Array Value) (w : World) (zs : List Int) : Prop:=
 Calls Tryz.prog f args w fun e w' => ∃ v,e = .returned v ∧ isBytes zs ∧ Owns w' w.heap.size v zs ∧ Below w.heap.size w w'
theorem bl1 (B : Nat) (w : World) : Below B w w:=Below.refl B w
theorem bl2 {a b : World} (h : Below a.heap.size a b) (o : Obj) : Below a.heap.size a (b.alloc o):=Below.al2 h o
theorem bl3 {B : Nat} {a b : World} (h : Below B a b) : Below B a b.drew:=Below.drew h
theorem bl4 {B : Nat} {a b : World} (h : Below B a b) (n : Nat) : Below B a (b.drewN n):=below_drewN2 h n
end
section
def Took (zs : List Int) (p : Int) (B : List Int) (s : Int) : Prop:=0 ≤ p ∧ p ≤ s ∧ s ≤ zs.length ∧ zs.take p.toNat ++ B = zs.take s.toNat
def rdFlag (zs : List Int) (p : Int) : Bool × Int:=if p < 0 ∨ (zs.length : Int) ≤ p ∨ 1 < zs[p.toNat]?.getD 0 then (false,-1) else (zs[p.toNat]?.getD 0 == 1,p + 1)
def rdHd (zs : List Int) (p : Int) : Hd × Int:=let a:=getNum zs p; let b:=getNum zs a.2; let c:=rdFlag zs b.2; ((a.1,b.1,c.1),c.2)
def rdOp (zs : List Int) (p : Int) : OpD × Int:=let k:=getNum zs p; let d:=rdHd zs k.2; let n:=getText zs d.2; let t:=rdHd zs n.2; let s:=getText zs t.2; let v:=getNum zs s.2; (⟨k.1,d.1,n.1,t.1,s.1,v.1⟩,v.2)
def rdTx (zs : List Int) (p : Int) : TxD × Int:=let a:=getNum zs p; let b:=getNum zs a.2; let c:=getNum zs b.2; ((a.1,b.1,c.1),c.2)
def rdPt (zs : List Int) (p : Int) : PtD × Int:=let k:=getNum zs p; let d:=rdHd zs k.2; let n:=getText zs d.2; let t:=rdHd zs n.2; (⟨k.1,d.1,n.1,t.1⟩,t.2)
def rdEns (zs : List Int) : Nat → Int → List En × Int
 | 0,p => ([],p)
 | f + 1,p => if p < 0 then ([],p) else (⟨(getText zs p).1,(rdHd zs (getText zs p).2).1⟩ :: (rdEns zs f (rdHd zs (getText zs p).2).2).1,(rdEns zs f (rdHd zs (getText zs p).2).2).2)
def rdEnsP (zs : List Int) : Nat → Int → List En × Int
 | 0,p => ([],p)
 | f + 1,p => (⟨(getText zs p).1,(rdHd zs (getText zs p).2).1⟩ :: (rdEnsP zs f (rdHd zs (getText zs p).2).2).1,(rdEnsP zs f (rdHd zs (getText zs p).2).2).2)
end
section
def rdEnS (zs : List Int) (p : Int) : List En × Int:=rdEns zs (min (getNum zs p).1.toNat 13) (getNum zs p).2
def rdEnP (zs : List Int) (p : Int) : List En × Int:=if 12 < (getNum zs p).1 then ([],-1) else rdEnsP zs (getNum zs p).1.toNat (getNum zs p).2
def rdRp (e : Int → List En × Int) (zs : List Int) (p : Int) : RpD × Int:=let k:=getNum zs p; let h:=rdHd zs k.2; let v:=getNum zs h.2; let l:=e v.2; (⟨k.1,h.1,v.1,l.1⟩,l.2)
def rdMs (e : Int → List En × Int) (zs : List Int) : MsD × Int:=
 let k:=getNum zs 0; let f:=getNum zs k.2; let t:=getNum zs f.2
 if k.1 = 0 then let r:=getNum zs t.2; let o:=rdOp zs r.2; (⟨k.1,f.1,t.1,r.1,o.1,rp0,tx0,pt0,0,hd0⟩,o.2)
 else if k.1 = 1 then let r:=getNum zs t.2; let o:=rdRp e zs r.2; (⟨k.1,f.1,t.1,r.1,op0,o.1,tx0,pt0,0,hd0⟩,o.2)
 else let x:=rdTx zs t.2
  if k.1 = 2 then let o:=rdPt zs x.2; (⟨k.1,f.1,t.1,0,op0,rp0,x.1,o.1,0,hd0⟩,o.2)
  else if k.1 = 3 then let o:=rdPt zs x.2; let c:=getNum zs o.2; let h:=rdHd zs c.2; (⟨k.1,f.1,t.1,0,op0,rp0,x.1,o.1,c.1,h.1⟩,h.2)
  else if k.1 = 5 then let c:=getNum zs x.2; (⟨k.1,f.1,t.1,0,op0,rp0,x.1,pt0,c.1,hd0⟩,c.2)
  else if k.1 = 6 then let r:=getNum zs x.2; let h:=rdHd zs r.2; (⟨k.1,f.1,t.1,r.1,op0,rp0,x.1,pt0,0,h.1⟩,h.2)
  else if k.1 = 7 then let r:=getNum zs x.2; let c:=getNum zs r.2; let h:=rdHd zs c.2; (⟨k.1,f.1,t.1,r.1,op0,rp0,x.1,pt0,c.1,h.1⟩,h.2)
  else (⟨k.1,f.1,t.1,0,op0,rp0,x.1,pt0,0,hd0⟩,x.2)
end
section
set_option linter.unusedVariables false
end
section
theorem storeF_run {P : Program} {w : World} {g off : Nat} {T ty : TypeId} {old vs : Array Value} (hv : VarA w g T old) (hl : off + vs.size ≤ old.size) (hi : (P.info? ty).map (·.size) = some vs.size) (h1 : vs.toList.all (·.oneCell') = true) :
    (storeVar ty ⟨g,off,none⟩ (.agg vs)).run P w = .ok () (w.setRow g (old.toList.take off ++ vs.toList ++ old.toList.drop (off + vs.size)).toArray):=by
  have h:=run_storeCells_at (P:=P) g off T vs.toList 0 old w hv (by simpa using hl) (fun v hv => (List.all_eq_true.1 h1) v hv)
  cases hq : P.info? ty with
  | none => simp [hq] at hi
  | some i =>
    have hs : vs.size = i.size:=by simp [hq] at hi; omega
    simp only [Nat.add_zero,Array.length_toList] at h
    simp [storeVar,sizeOf,typeInfo,hq,Value.cells,hs,h]
theorem VarA.row {w : World} {g : Nat} {T : TypeId} {old new : Array Value} (hv : VarA w g T old) : VarA (w.setRow g new) g T new:=setRow_heap w g old new T _ hv
theorem turned_row (w : World) (g : Nat) (new : Array Value) : Turned (fun b => b = g) w (w.setRow g new):=⟨rfl,rfl,rfl,by simp [World.setRow],fun k _ hk => setRow_other w g k new (fun e => hk e)⟩
theorem wpList_storeF {ty t' : TypeId} {dst : Option Tmp} {x y : Operand} {pos : String} {af : Array Edge} {ops : Array Oper} {rest : List Oper} {a : Act} {Q : Exit → Act → World → Prop} {w : World} {g off : Nat} {T : TypeId} {old vs new : Array Value}
    (hv : VarA w g T old) (hx : a.eval x = .pointer (some ⟨g,off,none⟩)) (hy : a.eval y = .agg vs) (hi : (Tryz.prog.info? ty).map (·.size) = some vs.size) (h1 : vs.toList.all (·.oneCell') = true) (hl : off + vs.size ≤ old.size)
    (hnew : (old.toList.take off ++ vs.toList ++ old.toList.drop (off + vs.size)).toArray = new)
    (hK : ∀ w',VarA w' g T new → Turned (fun b => b = g) w w' → wpList Tryz.prog ops Q rest (a.put dst undef) w') :
    wpList Tryz.prog ops Q (⟨dst,.store ty x y,t',pos,af,none⟩ :: rest) a w:=by
  refine wpList_plain rfl fun K' hK' => ?_
  unfold Oper.wp execOp
  simp only [hx,hy,Instr.storeAt,Instr.sureAddr,Sem.run_bind,Sem.run_pure,Result.andThen_ok,storeF_run hv hl hi h1]
  rw [hnew]
  exact hK' _ _ (hK _ (VarA.row hv) (turned_row w g new))
theorem guardStore {ty t' : TypeId} {dst : Option Tmp} {x y : Operand} {pos : String} {af : Array Edge} {ops : Array Oper} {rest : List Oper} {a : Act} {Q : Exit → Act → World → Prop} {w : World}
    (h : wpList Tryz.prog ops Q (⟨dst,.store ty x y,t',pos,af,none⟩ :: rest) a w) : wpList Tryz.prog ops Q (⟨dst,.store ty x y,t',pos,af,none⟩ :: rest) a w:=h
theorem guardLoad {ty t' : TypeId} {dst : Option Tmp} {x : Operand} {pos : String} {af : Array Edge} {ops : Array Oper} {rest : List Oper} {a : Act} {Q : Exit → Act → World → Prop} {w : World}
    (h : wpList Tryz.prog ops Q (⟨dst,.load ty x,t',pos,af,none⟩ :: rest) a w) : wpList Tryz.prog ops Q (⟨dst,.load ty x,t',pos,af,none⟩ :: rest) a w:=h
theorem rangeA {w : World} {g : Nat} {T : TypeId} {cs : Array Value} {off : Nat} {vs : List Value} (hv : VarA w g T cs) (hvs : (cs.toList.drop off).take vs.length = vs) : w.rangeAt g off vs:=by
  intro j v hj
  rw [cell_of_row _ _ _ _ _ _ hv]
  rw [← hvs] at hj
  have hj' : j < vs.length:=by
    rw [List.getElem?_take] at hj
    split at hj
    · assumption
    · cases hj
  rw [List.getElem?_take,if_pos hj',List.getElem?_drop] at hj
  simpa using hj
theorem wpList_loadF {ty t' : TypeId} {dst : Option Tmp} {x : Operand} {pos : String} {af : Array Edge} {ops : Array Oper} {rest : List Oper} {a : Act} {Q : Exit → Act → World → Prop} {w : World} {g off : Nat} {T : TypeId} {cs : Array Value} {vs : List Value} {d : TypeDesc}
    (hv : VarA w g T cs) (hx : a.eval x = .pointer (some ⟨g,off,none⟩)) (hu : Tryz.prog.underlying ty = some d) (hd : d.isRow = true) (hi : (Tryz.prog.info? ty).map (·.size) = some vs.length)
    (hvs : (cs.toList.drop off).take vs.length = vs)
    (hK : wpList Tryz.prog ops Q rest (a.put dst (.agg vs.toArray)) w) :
    wpList Tryz.prog ops Q (⟨dst,.load ty x,t',pos,af,none⟩ :: rest) a w:=by
  refine wpList_plain rfl fun K' hK' => ?_
  unfold Oper.wp execOp
  simp only [hx,Sem.run_bind,run_loadAt_mid w g off ty vs d (rangeA hv hvs) hu hd hi,Sem.run_pure,Result.andThen_ok]
  exact hK' _ _ hK
theorem loadA_run {w : World} {g : Nat} {T ty : TypeId} {cs : Array Value} {d : TypeDesc} (hv : VarA w g T cs) (hu : Tryz.prog.underlying ty = some d) (hd : d.isRow = true) (hi : (Tryz.prog.info? ty).map (·.size) = some cs.size) : (loadVar ty ⟨g,0,none⟩).run Tryz.prog w = .ok (.agg cs) w:=by
  have h:=run_loadVar_mid (P:=Tryz.prog) w g 0 ty cs.toList d (rangeA hv (by rw [List.drop_zero,List.take_length])) hu hd (by simpa using hi)
  simpa using h
theorem loadAt_run {w : World} {g : Nat} {T ty : TypeId} {cs : Array Value} {d : TypeDesc} (hv : VarA w g T cs) (hu : Tryz.prog.underlying ty = some d) (hd : d.isRow = true) (hi : (Tryz.prog.info? ty).map (·.size) = some cs.size) : (Instr.loadAt ty (.pointer (some ⟨g,0,none⟩))).run Tryz.prog w = .ok (.agg cs) w:=by
  simp only [Instr.loadAt,Instr.sureAddr,Sem.run_bind,Sem.run_pure,Result.andThen_ok,loadA_run hv hu hd hi]
theorem wpList_loadA {ty t' : TypeId} {dst : Option Tmp} {x : Operand} {pos : String} {af : Array Edge} {ops : Array Oper} {rest : List Oper} {a : Act} {Q : Exit → Act → World → Prop} {w : World} {g : Nat} {T : TypeId} {cs : Array Value} {d : TypeDesc}
    (hv : VarA w g T cs) (hx : a.eval x = .pointer (some ⟨g,0,none⟩)) (hu : Tryz.prog.underlying ty = some d) (hd : d.isRow = true) (hi : (Tryz.prog.info? ty).map (·.size) = some cs.size)
    (hK : wpList Tryz.prog ops Q rest (a.put dst (.agg cs)) w) :
    wpList Tryz.prog ops Q (⟨dst,.load ty x,t',pos,af,none⟩ :: rest) a w:=by
  refine wpList_plain rfl fun K' hK' => ?_
  unfold Oper.wp execOp
  simp only [hx,Instr.loadAt,Instr.sureAddr,Sem.run_bind,Sem.run_pure,Result.andThen_ok,loadA_run hv hu hd hi]
  exact hK' _ _ hK
theorem loadOp_run {ty t' : TypeId} {dst : Option Tmp} {x : Operand} {pos : String} {af : Array Edge} {gd : Option (Nat × Bool)} {a : Act} {w : World} {g : Nat} {T : TypeId} {cs : Array Value} {d : TypeDesc}
    (hv : VarA w g T cs) (hx : a.eval x = .pointer (some ⟨g,0,none⟩)) (hu : Tryz.prog.underlying ty = some d) (hd : d.isRow = true) (hi : (Tryz.prog.info? ty).map (·.size) = some cs.size) :
    (execOp a.eval ⟨dst,.load ty x,t',pos,af,gd⟩).run Tryz.prog w = .ok (.value (.agg cs)) w:=by
  unfold execOp
  simp only [hx,Sem.run_bind,loadAt_run hv hu hd hi,Sem.run_pure,Result.andThen_ok]
theorem VarA.dr {w : World} {b : Nat} {T : TypeId} {cs : Array Value} (h : VarA w b T cs) : VarA w.drew b T cs:=h
theorem Turned.one {S : Nat → Prop} {g : Nat} {w w' : World} (t : Turned (fun b => b = g) w w') (h : S g) : Turned S w w':=t.wide (fun k e => by subst e; exact h)
theorem gS (ty : TypeId) {t' : TypeId} {dst : Option Tmp} {x y : Operand} {pos : String} {af : Array Edge} {ops : Array Oper} {rest : List Oper} {a : Act} {Q : Exit → Act → World → Prop} {w : World}
  (h : wpList Tryz.prog ops Q (⟨dst,.store ty x y,t',pos,af,none⟩ :: rest) a w) : wpList Tryz.prog ops Q (⟨dst,.store ty x y,t',pos,af,none⟩ :: rest) a w:=h
theorem sF {ty t' : TypeId} {dst : Option Tmp} {x y : Operand} {pos : String} {af : Array Edge} {ops : Array Oper} {rest : List Oper} {a : Act} {Q : Exit → Act → World → Prop} {w : World} {g off : Nat} {T : TypeId} {old vs new : Array Value}
  (hv : VarA w g T old) (hx : a.eval x = .pointer (some ⟨g,off,none⟩)) (hy : a.eval y = .agg vs) (hi : (Tryz.prog.info? ty).map (·.size) = some vs.size) (hb : (vs.toList.all (·.oneCell') && decide (off + vs.size ≤ old.size)) = true)
  (hnew : (old.toList.take off ++ vs.toList ++ old.toList.drop (off + vs.size)).toArray = new)
  (hK : ∀ w',VarA w' g T new → Turned (fun b => b = g) w w' → wpList Tryz.prog ops Q rest (a.put dst undef) w') : wpList Tryz.prog ops Q (⟨dst,.store ty x y,t',pos,af,none⟩ :: rest) a w:=by
 rw [Bool.and_eq_true,decide_eq_true_eq] at hb
 exact wpList_storeF hv hx hy hi hb.1 hb.2 hnew hK
theorem vaB {w w2 : World} {T : TypeId} {cs : Array Value} (h : Below (w.alloc (.cells cs T)).drew.heap.size (w.alloc (.cells cs T)).drew w2) : VarA w2 w.heap.size T cs:=VarA.step (VarA.dr (VarA.new w T cs)) h
theorem vaC {w w2 : World} {T : TypeId} {cs : Array Value} (h : Below (w.alloc (.cells cs T)).heap.size (w.alloc (.cells cs T)) w2) : VarA w2 w.heap.size T cs:=VarA.step (VarA.new w T cs) h
end
section
def CurV (T : TypeId) (pb : Nat) (zs : List Int) (v : Value) (p : Int) (w : World) : Prop:=VarA w pb T #[v,.i p] ∧ RdV w (fun b => b < pb) v (.bytes zs) ∧ -1 ≤ p ∧ p ≤ zs.length
section
variable {T : TypeId} {pb : Nat} {zs : List Int} {v : Value} {p : Int} {w w' : World}
end
theorem storeG_run {P : Program} {w : World} {g off : Nat} {T ty : TypeId} {old vs : Array Value} {u : Value} (hu : u.cells = vs) (hv : VarA w g T old) (hl : off + vs.size ≤ old.size) (hi : (P.info? ty).map (·.size) = some vs.size) (h1 : vs.toList.all (·.oneCell') = true) :
  (storeVar ty ⟨g,off,none⟩ u).run P w = .ok () (w.setRow g (old.toList.take off ++ vs.toList ++ old.toList.drop (off + vs.size)).toArray):=by
 have h:=run_storeCells_at (P:=P) g off T vs.toList 0 old w hv (by simpa using hl) (fun v hv => (List.all_eq_true.1 h1) v hv)
 cases hq : P.info? ty with
 | none => simp [hq] at hi
 | some i =>
  have hs : vs.size = i.size:=by simp [hq] at hi; omega
  simp only [Nat.add_zero,Array.length_toList] at h
  simp [storeVar,sizeOf,typeInfo,hq,hu,hs,h]
theorem wpList_storeG {ty t' : TypeId} {dst : Option Tmp} {x y : Operand} {pos : String} {af : Array Edge} {ops : Array Oper} {rest : List Oper} {a : Act} {Q : Exit → Act → World → Prop} {w : World} {g off : Nat} {T : TypeId} {old vs new : Array Value} {u : Value}
  (hv : VarA w g T old) (hx : a.eval x = .pointer (some ⟨g,off,none⟩)) (hy : a.eval y = u) (hu : u.cells = vs) (hi : (Tryz.prog.info? ty).map (·.size) = some vs.size) (h1 : vs.toList.all (·.oneCell') = true) (hl : off + vs.size ≤ old.size)
  (hnew : (old.toList.take off ++ vs.toList ++ old.toList.drop (off + vs.size)).toArray = new)
  (hK : ∀ w',VarA w' g T new → Turned (fun b => b = g) w w' → wpList Tryz.prog ops Q rest (a.put dst undef) w') :
  wpList Tryz.prog ops Q (⟨dst,.store ty x y,t',pos,af,none⟩ :: rest) a w:=by
 refine wpList_plain rfl fun K' hK' => ?_
 unfold Oper.wp execOp
 simp only [hx,hy,Instr.storeAt,Instr.sureAddr,Sem.run_bind,Sem.run_pure,Result.andThen_ok,storeG_run hu hv hl hi h1]
 rw [hnew]
 exact hK' _ _ (hK _ (VarA.row hv) (turned_row w g new))
abbrev Gone (T : TypeId) (pb : Nat) (zs : List Int) (v : Value) (q : Int) (w w' : World) : Prop:=CurV T pb zs v q w' ∧ Turned (fun b => b = pb) w w'
end
section
theorem toByteS_d (v : Value) (zs : List Int) (S : Nat → Prop) (w : World) (r : RdV w S v (.bytes zs)) (hl : zs.length ≤ 2097152) :
  Calls Tryz.prog 63 #[v] w fun e w' => ∃ a n c,e = .returned (.slice a n c) ∧ OwV w' (fun b => w.heap.size ≤ b ∧ b < w'.heap.size) (.slice a n c) (.bytes zs) ∧ Below w.heap.size w w':=by
 obtain ⟨a,cap,rfl,hh,hr⟩:=r.b.reads
 refine (toByteS_v a zs zs.length cap w hr rfl hl).mono ?_
 rintro e w' ⟨u,rfl,ho,hb⟩
 obtain ⟨a',c',rfl,_,_⟩:=ho.shape
 exact ⟨_,_,_,rfl,OwV.ofOwns hr.1 ho,hb⟩

set_option maxHeartbeats 1000000 in
theorem toEntry_any (x : Value) (e : En) (S : Nat → Prop) (w : World) (r : RdV w S x (.bytes e.nm)) (hl : e.nm.length ≤ 2097152) :
  Calls Tryz.prog 80 #[enV x e.h] w fun q w' => ∃ a n c,q = .returned (enV (.slice a n c) e.h) ∧ OwV w' (fun b => w.heap.size ≤ b ∧ b < w'.heap.size) (.slice a n c) (.bytes e.nm) ∧ Below w.heap.size w w':=by
 obtain ⟨a,cap,rfl⟩:=r.sliceB
 obtain ⟨nm,⟨p,q,d⟩⟩:=e
 have HR : Hid (∀ W,Below w.heap.size w W → _):=r.old
 have HH : Hid (∀ W,_):=fun W => toHandle_any (p,q,d) W
 have HL : Hid (nm.length ≤ 2097152):=hl
 clear r hl
 dsimp only at HR ⊢
 generalize nm.length = n0 at HR
 go_enter Tryz.func80,Tryz.ntmps80
 go_wp2_with fail
 refine Calls.mono (toByteS_d _ nm S _ (HR.out _ ?_) HL.out) ?_
 ·exact ((((Below.refl _ _).alloc (Nat.le_refl _) _).alloc (by simp) _).alloc (by simp; omega) _)
 rintro e w2 ⟨ua,un,uc,rfl,o_,b_⟩
 have hs2:=b_.size
 simp at hs2
 have vA : VarA w2 w.heap.size 143 #[.slice a n0 cap,.i p,.i q,.bool d]:=VarA.step (((VarA.new w _ _).alloc _).alloc _) b_
 have vR : VarA w2 (w.heap.size + 1) 86 #[.n0,.i 0,.i 0,.bool false]:=by
  have:=VarA.step ((VarA.new (w.alloc _) _ _).alloc _) b_
  simpa using this
 have vO : VarA w2 (w.heap.size + 1 + 1) 86 #[.n0,.i 0,.i 0,.bool false]:=by
  have:=VarA.step (VarA.new ((w.alloc _).alloc _) _ _) b_
  simpa using this
 have HB : Hid (Below w.heap.size w w2):=((((Below.refl _ _).alloc (Nat.le_refl _) _).alloc (by simp) _).alloc (by simp; omega) _).trans (b_.mono (by simp; omega))
 have HT : Hid (Turned (fun b => w.heap.size ≤ b ∧ b < w.heap.size + 3) w2 w2):=Turned.refl _ _
 have hz : w.heap.size + 3 ≤ w2.heap.size:=by omega
 have HO0 : Hid (OwV w2 (fun b => w.heap.size + 3 ≤ b ∧ b < w2.heap.size) (.slice ua un uc) (.bytes nm)):=o_.mono (fun b h => by simpa [Nat.add_assoc] using h)
 clear hs2 b_ o_
 obtain ⟨a0_,a1_,a2_,a3_⟩:=vA.l4
 obtain ⟨o0_,o1_,o2_,o3_⟩:=vO.l4
 have fo_:=vO.fz
 go_wp2_with fail
 refine Calls.mono (HH.out _) ?_
 rintro e w3 ⟨rfl,b_⟩
 clear a0_ a1_ a2_ a3_ o0_ o1_ o2_ o3_ fo_
 have vA_:=(vA |>.aside (p:=⟨w.heap.size + 1 + 1,0,none⟩) (by dsimp only; omega) _).step b_
 have vR_:=(vR |>.aside (p:=⟨w.heap.size + 1 + 1,0,none⟩) (by dsimp only; omega) _).step b_
 have vO_ : VarA w3 (w.heap.size + 1 + 1) 86 #[.slice ua un uc,.i 0,.i 0,.bool false]:=(vO |>.set 0 _).step b_
 have t_ : Turned (fun b => w.heap.size ≤ b ∧ b < w.heap.size + 3) w2 w3:=(HT.out |>.set _ _ (by simp <;> omega)).andThen b_
 have HB_ : Hid (Below w.heap.size w w3):=Turned.below HB.out t_ HB.out.size (fun i hi => hi.1)
 have zs_:=t_.size
 have HO0_ : Hid (OwV w3 (fun b => _ ∧ b < _) (.slice ua un uc) (.bytes nm)):=HO0.out.keep (t_.keeps (fun b hb hs => by omega))
 clear vA vR vO HT HB b_ t_ HO0
 have HT : Hid (Turned (fun b => w.heap.size ≤ b ∧ b < w.heap.size + 3) w3 w3):=Turned.refl _ _
 have vA:=vA_
 have vR:=vR_
 have vO:=vO_
 have HB:=HB_
 have HO0:=HO0_
 clear vA_ vR_ vO_ HB_ HO0_
 obtain ⟨a0_,a1_,a2_,a3_⟩:=vA.l4
 obtain ⟨o0_,o1_,o2_,o3_⟩:=vO.l4
 have fo_:=vO.fz
 obtain ⟨r0_,r1_,r2_,r3_⟩:=vR.l4
 have fr_:=vR.fz
 clear vA vR vO
 go_wp2
 refine bodyPost_ret (v:=.agg #[.slice ua un uc,.i p,.i q,.bool d]) (by simp [results,Tryz.results80,go_sem,r0_,r1_,r2_,r3_]) rfl ?_
 exact ⟨_,_,_,rfl,OwV.close HB.out (HO0.out.mono (fun b h => ⟨h.1,by omega⟩)) (by omega) (HT.out |>.set _ _ (by simp <;> omega) |>.set _ _ (by simp <;> omega) |>.set _ _ (by simp <;> omega) |>.set _ _ (by simp <;> omega) |>.set _ _ (by simp <;> omega) |>.set _ _ (by simp <;> omega) |>.set _ _ (by simp <;> omega))⟩
theorem Tryz.infoEn : (Tryz.prog.info? 86).map (fun i => (i.zero,i.size,i.bytes)) = some (some (.agg #[.n0,.i 0,.i 0,.bool false]),4,48):=by kernel_rfl
def PrtEn (l : List En) (B n k : Nat) (w : World) : Prop:=OwV w (fun b => B ≤ b ∧ b < w.heap.size) (.slice (some ⟨B,0,none⟩) n n) (.rows 86 4 n (fun i j => if i < k then enCell (l[i]?.getD en0) j else enCell en0 j))
theorem PrtEn.next {l : List En} {B n k : Nat} {w w2 : World} {u : Value} {e : En} (h : PrtEn l B n k w) (hk : k < n) (hB : B ≤ w.heap.size) (hb : Below w.heap.size w w2) (he : l[k]?.getD en0 = e)
  (o : OwV w2 (fun b => w.heap.size ≤ b ∧ b < w2.heap.size) u (.bytes e.nm)) : PrtEn l B n (k + 1) ((((w2.setCell ⟨B,k * 4,none⟩ u).setCell ⟨B,k * 4 + 1,none⟩ (.i e.h.sh)).setCell ⟨B,k * 4 + 2,none⟩ (.i e.h.ino)).setCell ⟨B,k * 4 + 3,none⟩ (.bool e.h.dir)):=by
 have hs:=hb.size
 have h2:=OwV.step h hb
 have p0:=OwV.put h2 hk (j:=0) (by omega) o (fun b hb hs => by omega)
 have p1:=OwV.put0 p0 hk (j:=1) (by omega) (u:=.i e.h.sh) (d:=.int e.h.sh) rfl
 have p2:=OwV.put0 p1 hk (j:=2) (by omega) (u:=.i e.h.ino) (d:=.int e.h.ino) rfl
 have p3:=OwV.put0 p2 hk (j:=3) (by omega) (u:=.bool e.h.dir) (d:=.bool e.h.dir) rfl
 refine OwV.mono (fun b hb => ?_) (OwV.congr p3 (fun i j hi hj => ?_))
 ·have hz : ((((w2.setCell ⟨B,k * 4,none⟩ u).setCell ⟨B,k * 4 + 1,none⟩ (.i e.h.sh)).setCell ⟨B,k * 4 + 2,none⟩ (.i e.h.ino)).setCell ⟨B,k * 4 + 3,none⟩ (.bool e.h.dir)).heap.size = w2.heap.size:=by simp
  show B ≤ b ∧ b < ((((w2.setCell ⟨B,k * 4,none⟩ u).setCell ⟨B,k * 4 + 1,none⟩ (.i e.h.sh)).setCell ⟨B,k * 4 + 2,none⟩ (.i e.h.ino)).setCell ⟨B,k * 4 + 3,none⟩ (.bool e.h.dir)).heap.size
  rw [hz]
  rcases hb with hb | hb <;> omega
 ·by_cases hik : i = k
  ·subst hik
   rw [if_pos (by omega),he]
   match j,hj with
   | 0,_ => simp [upd]; rfl
   | 1,_ => simp [upd]; rfl
   | 2,_ => simp [upd]; rfl
   | 3,_ => simp [upd]; rfl
  ·have e1 : (i < k + 1) = (i < k):=by simp; omega
   simp only [upd,hik,false_and,if_false,e1]

set_option maxHeartbeats 2000000 in
theorem toEntryS_any (v : Value) (l : List En) (S : Nat → Prop) (w : World) (r : RdV w S v (ensDt l)) (hl : szEns l ≤ 2097152) :
  Calls Tryz.prog 64 #[v] w fun e w' => ∃ a n c,e = .returned (.slice a n c) ∧ OwV w' (fun b => w.heap.size ≤ b ∧ b < w'.heap.size) (.slice a n c) (ensDt l) ∧ Below w.heap.size w w':=by
 obtain ⟨a,cap,rfl,_⟩:=RdV.sliced r
 have HR : Hid (∀ W,Below w.heap.size w W → RdV W S (.slice a l.length cap) (ensDt l)):=r.old
 have HD : Hid (ensDt l = .rows 86 4 l.length (fun i j => enCell (l[i]?.getD en0) j)):=rfl
 have hnn : l.length ≤ 2097152:=by unfold szEns at hl; omega
 have HL : Hid _:=hl
 clear r hl
 rw [HD.out] at HR ⊢
 clear HD
 generalize l.length = n at hnn HR ⊢
 obtain ⟨i0,hi,hz0,hz1,hz2⟩:=info_parts Tryz.infoEn
 go_enter Tryz.func64,Tryz.ntmps64
 go_wp2_with (at_make; refine wpList_make_full _ rfl _ _ 49 rfl w.heap.size 86 i0 (.agg #[.n0,.i 0,.i 0,.bool false]) 4 Tryz.underlying49 hi hz0 hz1 .i64 .i64 _ _ n rfl rfl rfl rfl (by rw [hz2]; omega) (by unfold maxLen; omega) (Nat.le_refl _) ?_; intro w1 hown hgrow)
 have hb1 : Below w.heap.size w w1:=(Below.refl _ _).grown hgrow (Nat.le_refl _) (fun k h => by cases h)
 have HP : Hid (PrtEn l w.heap.size n 0 w1):=(OwV.made rfl hown (fun j => enCell en0 j) (fun j hj => by
  match j,hj with
  | 0,_ => exact OwV.nilB _ _
  | 1,_ => rfl
  | 2,_ => rfl
  | 3,_ => rfl
  )).congr (fun i j _ _ => by simp)
 clear hgrow hown
 go_loopw [4] (fun i wr => ∃ k : Nat,k ≤ n ∧ i = .i k ∧ Hid (PrtEn l w.heap.size n k wr) ∧ Below w.heap.size w wr) (fun i _ => n - (intOf i).toNat)
 case atStart => exact ⟨0,Nat.zero_le _,rfl,HP,hb1⟩
 case round =>
  clear HP hb1
  obtain ⟨k,hk,rfl,HP,hbel⟩:=hrel
  by_cases hlt : k < n
  ·obtain ⟨b,off,rfl,hbl,_,hx⟩:=RdV.at (HR.out wr hbel) hlt
   obtain ⟨e,he⟩ : ∃ e,l[k]?.getD en0 = e:=⟨_,rfl⟩
   obtain ⟨x0,c0,r0⟩:=hx 0 (by omega)
   obtain ⟨x1,c1,r1⟩:=hx 1 (by omega)
   obtain ⟨x2,c2,r2⟩:=hx 2 (by omega)
   obtain ⟨x3,c3,r3⟩:=hx 3 (by omega)
   rw [he] at r0 r1 r2 r3
   have HE : Hid _:=he
   have HZ : Hid (e.nm.length ≤ 2097152):=by have h1:=szEns_at l k; rw [he] at h1; have h2:=HL.out; show _ ≤ _; omega
   clear hx he
   obtain ⟨nm,⟨p,q,d⟩⟩:=e
   obtain rfl : x1 = .i p:=r1
   obtain rfl : x2 = .i q:=r2
   obtain rfl : x3 = .bool d:=r3
   simp only [Nat.add_zero] at c0
   have RS : Hid (RdV wr S x0 (.bytes nm)):=r0
   clear r0
   obtain ⟨xa,xc,rfl⟩:=RdV.sliceB RS.out
   generalize nm.length = xn at RS c0
   go_wp2_with fail
   refine Calls.mono (toEntry_any _ ⟨nm,p,q,d⟩ S wr RS.out HZ.out) ?_
   rintro e w2 ⟨ua,un,uc,rfl,o2,b2⟩
   have hsz:=hbel.size
   have HN : Hid _:=PrtEn.next HP.out hlt hbel.size b2 HE.out o2
   obtain ⟨hbad,_⟩ | ⟨g,cp,hg,_,hgl,hfz,hcs⟩:=OwV.head (OwV.step HP.out b2)
   ·cases hbad
   simp only [Value.slice.injEq,Option.some.injEq,Addr.mk.injEq,and_true,true_and] at hg
   obtain ⟨rfl,rfl⟩:=hg
   obtain ⟨y0,k0⟩:=hcs (k * 4) (by omega)
   obtain ⟨y1,k1⟩:=hcs (k * 4 + 1) (by omega)
   obtain ⟨y2,k2⟩:=hcs (k * 4 + 2) (by omega)
   obtain ⟨y3,k3⟩:=hcs (k * 4 + 3) (by omega)
   have hbe2:=hbel.trans (b2.mono hbel.size)
   clear HP o2 RS hcs b2
   go_wp2
   go_roundw
   case rel => exact ⟨k + 1,by omega,by go_num,HN.out,((((hbe2.setCell (Nat.le_refl _) _).setCell (Nat.le_refl _) _).setCell (Nat.le_refl _) _).setCell (Nat.le_refl _) _)⟩
   case measure => simp [intOf]; omega
  ·have hkn : k = n:=by omega
   subst hkn
   go_wp2
   go_ret
   exact ⟨_,_,_,rfl,OwV.congr HP.out (fun i j hi hj => by rw [if_pos hi]),hbel⟩
end
section
def enVal (e : En) (u : Value) : Nat → Value
 | 0 => u
 | 1 => .i e.h.sh
 | 2 => .i e.h.ino
 | _ => .bool e.h.dir
theorem OwV.snocEn {w w' : World} {lo hi hi2 g cap : Nat} {v u : Value} {l : List En} {e : En} (hown : OwV w (fun b => lo ≤ b ∧ b < hi) v (ensDt l)) (hu : OwV w (fun b => hi ≤ b ∧ b < hi2) u (.bytes e.nm)) (h2 : hi2 ≤ w.heap.size) (hh2 : hi ≤ hi2) (hlh : lo ≤ hi)
  (C : List Value) (hC : w.ownsRow 0 86 4 v l.length C) (V : Nat → Nat → Value) (Q : Nat → Nat → Nat → Prop) (hS : ∀ b,v.ownBlock = some b → lo ≤ b ∧ b < hi) (hV : ∀ i j,i < l.length → j < 4 → C[i * 4 + j]? = some (V i j)) (hQ : ∀ i j,i < l.length → j < 4 → OwV w (Q i j) (V i j) (enCell (l[i]?.getD en0) j))
  (hq1 : ∀ i j b,i < l.length → j < 4 → Q i j b → (lo ≤ b ∧ b < hi) ∧ v.ownBlock ≠ some b) (hq2 : ∀ i j i' j' b,i < l.length → j < 4 → i' < l.length → j' < 4 → Q i j b → Q i' j' b → i = i' ∧ j = j')
  (ho : w'.ownsRow 0 86 4 (.slice (some ⟨g,0,none⟩) (l.length + 1) cap) (l.length + 1) (C ++ [u,.i e.h.sh,.i e.h.ino,.bool e.h.dir])) (hg : w.grownBy w' v.ownBlock) (hgg : v.ownBlock = some g ∨ g = w.heap.size) (hgl : g < w'.heap.size) :
  OwV w' (fun b => lo ≤ b ∧ b < w'.heap.size) (.slice (some ⟨g,0,none⟩) (l.length + 1) cap) (ensDt (l ++ [e])):=by
 have hsz:=hg.size
 have hCl : C.length = l.length * 4:=hC.1
 have hkeep : ∀ (R : Nat → Prop),(∀ b,R b → v.ownBlock ≠ some b) → Keeps R w w':=fun R hR => ⟨hsz,fun b hb hlt => hg.block b hlt (fun h => hR b hb h.symm)⟩
 have hln : (l ++ [e]).length = l.length + 1:=by simp
 unfold ensDt
 rw [hln]
 refine OwV.mkRows ⟨fun i j => if i < l.length then V i j else enVal e u j,_,fun i j => if i < l.length then Q i j else if j = 0 then (fun b => hi ≤ b ∧ b < hi2) else (fun _ => False),ho,?_,?_,?_,?_,?_⟩
 ·intro b hb
  obtain rfl : g = b:=by simpa [Value.ownBlock] using hb
  rcases hgg with h | h
  ·exact ⟨(hS _ h).1,hgl⟩
  ·exact ⟨by omega,hgl⟩
 ·intro i j hi' hj
  by_cases hlt : i < l.length
  ·simp only [hlt,if_true]
   rw [List.getElem?_append_left (by rw [hCl]; exact place_lt hlt hj)]
   exact hV i j hlt hj
  ·obtain rfl : i = l.length:=by omega
   simp only [Nat.lt_irrefl,if_false]
   rw [List.getElem?_append_right (by omega),hCl,show l.length * 4 + j - l.length * 4 = j by omega]
   match j,hj with
   | 0,_ => rfl
   | 1,_ => rfl
   | 2,_ => rfl
   | 3,_ => rfl
 ·intro i j hi' hj
  by_cases hlt : i < l.length
  ·simp only [hlt,if_true]
   rw [show (l ++ [e])[i]?.getD en0 = l[i]?.getD en0 by rw [List.getElem?_append_left hlt]]
   exact OwV.keep (hkeep _ (fun b hb => (hq1 i j b hlt hj hb).2)) (hQ i j hlt hj)
  ·obtain rfl : i = l.length:=by omega
   simp only [Nat.lt_irrefl,if_false]
   rw [show (l ++ [e])[l.length]?.getD en0 = e by simp]
   match j,hj with
   | 0,_ => exact OwV.keep (hkeep (fun b => hi ≤ b ∧ b < hi2) (fun b hb h => by have:=hS b h; omega)) hu
   | 1,_ => rfl
   | 2,_ => rfl
   | 3,_ => rfl
 ·intro i j b hi' hj hb
  by_cases hlt : i < l.length
  ·simp only [hlt,if_true] at hb
   have h1:=hq1 i j b hlt hj hb
   refine ⟨⟨h1.1.1,by omega⟩,?_⟩
   intro h
   obtain rfl : g = b:=by simpa [Value.ownBlock] using h
   rcases hgg with h3 | h3
   ·exact h1.2 h3
   ·omega
  ·simp only [hlt,if_false] at hb
   by_cases hj0 : j = 0
   ·simp only [hj0,if_true] at hb
    refine ⟨⟨by omega,by omega⟩,?_⟩
    intro h
    obtain rfl : g = b:=by simpa [Value.ownBlock] using h
    rcases hgg with h3 | h3
    ·have:=hS _ h3; omega
    ·omega
   ·simp only [hj0,if_false] at hb
 ·intro i j i' j' b hi' hj hi2' hj' hb hb'
  by_cases hlt : i < l.length <;> by_cases hlt' : i' < l.length
  ·simp only [hlt,hlt',if_true] at hb hb'
   exact hq2 i j i' j' b hlt hj hlt' hj' hb hb'
  ·simp only [hlt,hlt',if_true,if_false] at hb hb'
   have h1:=hq1 i j b hlt hj hb
   by_cases hj0 : j' = 0
   ·simp only [hj0,if_true] at hb'; omega
   ·simp only [hj0,if_false] at hb'
  ·simp only [hlt,hlt',if_true,if_false] at hb hb'
   have h1:=hq1 i' j' b hlt' hj' hb'
   by_cases hj0 : j = 0
   ·simp only [hj0,if_true] at hb; omega
   ·simp only [hj0,if_false] at hb
  ·simp only [hlt,hlt',if_false] at hb hb'
   by_cases hj0 : j = 0 <;> by_cases hj0' : j' = 0
   ·exact ⟨by omega,by omega⟩
   ·simp only [hj0',if_false] at hb'
   ·simp only [hj0,if_false] at hb
   ·simp only [hj0,if_false] at hb
end
section
theorem step_appS {ops : Array Oper} {o : Oper} {a : Act} {w : World} {K : Act → World → Prop} {Q : Exit → Act → World → Prop} {E : Prop} (hgd : o.guard = none) (s x : Operand)
  (ho : o.op = .call { callee:=.builtin .append,args:=#[s,x],argTypes:=#[39,39] })
  (base : Nat) (v : Value) (zs ys : List Int) (hs : a.eval s = v) (hown : Owns w base v zs) (ao : Option Addr) (m c : Nat) (hx : a.eval x = .slice ao m c) (hm : m = ys.length) (hr : Reads w ao ys)
  (hl : zs.length ≤ 4194304) (hl' : ys.length ≤ 4194304) (hbase : base ≤ w.heap.size) (hnil : ao = none → m = 0 ∧ c = 0)
  (h : ∀ v' w',Owns w' base v' (zs ++ ys) → w.grownBy w' v.ownBlock → K (a.put o.dst v') w') : if Region.wanted o (yielded ops a.tmps) = true then Oper.wp Tryz.prog o a w K Q else E:=by
 have hw : Region.wanted o (yielded ops a.tmps) = true:=by simp [Region.wanted,hgd]
 rw [if_pos hw]
 obtain ⟨i0,hi,hz0,hz1,hz2⟩:=info_parts Tryz.infoB
 cases ao with
 | none =>
  obtain ⟨h0,hc0⟩:=hnil rfl
  have : ys = []:=List.eq_nil_of_length_eq_zero (by omega)
  subst this
  subst hm
  subst hc0
  have hrun:=run_append_owned_none (P:=Tryz.prog) (w:=w) base 39 o.type 5 i0 1 Tryz.underlying39 hi v zs.length (bcells zs) hown
  unfold Oper.wp
  have hx' : a.eval x = .n0:=hx
  simp [execOp,ho,resolve,invoke,builtin,hs,hx',hrun,Result.andThen]
  exact h v w (by rw [List.append_nil]; exact hown) ⟨rfl,rfl,rfl,Nat.le_refl _,fun _ _ _ => rfl⟩
 | some ad =>
  refine wp_append_own w s x 39 ho base 5 i0 (.int .u8 0) 1 1 Tryz.underlying39 hi hz0 hz1 hz2 rfl (by decide) v zs.length (bcells zs) hs hown ad m c (bcells ys) hx (by simp [hm]) hr.srcAt (bcells_one ys) (by unfold maxLen; omega) (by omega) hbase ?_
  intro v' w' ho' hg _
  refine h v' w' ?_ hg
  unfold Owns
  rw [List.length_append,← hm]
  simpa [bcells] using ho'
theorem step_appEn {ops : Array Oper} {o : Oper} {a : Act} {K : Act → World → Prop} {Q : Exit → Act → World → Prop} {E : Prop} (w : World) (hgd : o.guard = none) (s x : Operand)
  (ho : o.op = .call { callee:=.builtin .append,args:=#[s,x],argTypes:=#[49,49] })
  (v : Value) (hs : a.eval s = v) (l : List En) (e : En) (u : Value) (lo hi hi2 q : Nat) (hx : a.eval x = .slice (some ⟨q,0,none⟩) 1 1) (hone : u.oneCell' = true) (fr : Nat × Nat) (hq : w.heap[q]? = some (.cells #[u,.i e.h.sh,.i e.h.ino,.bool e.h.dir] 86 fr))
  (hown : OwV w (fun b => lo ≤ b ∧ b < hi) v (ensDt l)) (hu : OwV w (fun b => hi ≤ b ∧ b < hi2) u (.bytes e.nm)) (h2 : hi2 ≤ w.heap.size) (hh2 : hi ≤ hi2) (hlh : lo ≤ hi) (hl : l.length ≤ 4000)
  (h : ∀ g n cap w',OwV w' (fun b => lo ≤ b ∧ b < w'.heap.size) (.slice g n cap) (ensDt (l ++ [e])) → Turned (fun b => lo ≤ b ∧ b < hi) w w' → K (a.put o.dst (.slice g n cap)) w') : if Region.wanted o (yielded ops a.tmps) = true then Oper.wp Tryz.prog o a w K Q else E:=by
 obtain ⟨i0,hi0,hz0,hz1,hz2⟩:=info_parts Tryz.infoEn
 have hown':=hown
 unfold ensDt at hown'
 obtain ⟨V,C,Qs,h1,hS,h3,h4,h5,h6⟩:=OwV.inv hown'
 refine step_append_lies w hgd s x 49 ho 0 86 i0 (.agg #[.n0,.i 0,.i 0,.bool false]) 4 48 Tryz.underlying49 hi0 hz0 hz1 hz2 rfl (by decide) v l.length C hs h1 ⟨q,0,none⟩ 1 1 [u,.i e.h.sh,.i e.h.ino,.bool e.h.dir] hx rfl (World.news_of_block hq) (fun y hy => ?_) (by decide) (by unfold maxLen; omega) (by omega) (Nat.zero_le _) w.heap.size rfl ?_
 ·simp only [List.mem_cons,List.not_mem_nil,or_false] at hy
  rcases hy with rfl | rfl | rfl | rfl
  ·exact hone
  ·rfl
  ·rfl
  ·rfl
 intro g cap w' ho' hg hgg hgl
 exact h _ _ _ w' (OwV.snocEn hown hu h2 hh2 hlh C h1 V Qs hS h3 h4 h5 h6 ho' hg hgg hgl) (Turned.ofGrown hg (fun k hk => hS k hk))

set_option maxHeartbeats 4000000 in
theorem specCopyEn_any (v : Value) (l : List En) (S : Nat → Prop) (w : World) (r : RdV w S v (ensDt l)) (hl : szEns l ≤ 2097152) (hn : l.length ≤ 4000) :
  Calls Tryz.prog 55 #[v] w fun e w' => ∃ a n c,e = .returned (.slice a n c) ∧ OwV w' (fun b => w.heap.size ≤ b ∧ b < w'.heap.size) (.slice a n c) (ensDt l) ∧ Below w.heap.size w w':=by
 obtain ⟨a,cap,rfl,_⟩:=RdV.sliced r
 have HR : Hid (∀ W,Below w.heap.size w W → RdV W S (.slice a l.length cap) (ensDt l)):=fun W hW => r.step hW
 have HLN : Hid (∀ k,k < l.length → (l[k]?.getD en0).nm.length ≤ 2097152):=fun k hk => Nat.le_trans (szEns_at l k) hl
 clear r hl
 go_enter Tryz.func55,Tryz.ntmps55
 go_wp2
 go_loopw [3,4] (fun o i wr => ∃ (k : Nat) (ga : Option Addr) (gn gc : Nat),k ≤ l.length ∧ i = .i k ∧ o = .slice ga gn gc ∧ Hid (OwV wr (fun b => w.heap.size ≤ b ∧ b < wr.heap.size) (.slice ga gn gc) (ensDt (l.take k))) ∧ Hid (Below w.heap.size w wr)) (fun _ i _ => l.length - (intOf i).toNat)
 case atStart => exact ⟨0,none,0,0,Nat.zero_le _,rfl,rfl,OwV.nilR _ _ _ _ _,Below.refl _ _⟩
 case round =>
  obtain ⟨k,ga,gn,gc,hk,rfl,rfl,HO,HB⟩:=hrel
  by_cases hlt : k < l.length
  ·obtain ⟨b,off,rfl,hbl,hSb,hc⟩:=(HR.out w (Below.refl _ _)).at hlt
   obtain ⟨x0,q0,r0⟩:=hc 0 (by omega)
   obtain ⟨x1,q1,r1⟩:=hc 1 (by omega)
   obtain ⟨x2,q2,r2⟩:=hc 2 (by omega)
   obtain ⟨x3,q3,r3⟩:=hc 3 (by omega)
   have htk : l.take (k + 1) = l.take k ++ [l[k]?.getD en0]:=by rw [List.take_succ_eq_append_getElem hlt]; simp [hlt]
   have hnm:=HLN.out k hlt
   generalize l[k]?.getD en0 = e at r0 r1 r2 r3 htk hnm
   obtain ⟨nm,⟨sh,ino,dr⟩⟩:=e
   obtain rfl : x1 = .i sh:=r1
   obtain rfl : x2 = .i ino:=r2
   obtain rfl : x3 = .bool dr:=r3
   have r0' : RdV w S x0 (.bytes nm):=r0
   obtain ⟨a0,c0,rfl⟩:=r0'.sliceB
   have HS : Hid (∀ W,Below w.heap.size w W → W.cell? ⟨b,off + k * 4,none⟩ = some (.slice a0 nm.length c0) ∧ W.cell? ⟨b,off + k * 4 + 1,none⟩ = some (.i sh) ∧ W.cell? ⟨b,off + k * 4 + 2,none⟩ = some (.i ino) ∧ W.cell? ⟨b,off + k * 4 + 3,none⟩ = some (.bool dr)):=fun W hW => ⟨(hW.cell (p:=⟨b,off + k * 4,none⟩) hbl).trans (by simpa using q0),(hW.cell (p:=⟨b,off + k * 4 + 1,none⟩) hbl).trans q1,(hW.cell (p:=⟨b,off + k * 4 + 2,none⟩) hbl).trans q2,(hW.cell (p:=⟨b,off + k * 4 + 3,none⟩) hbl).trans q3⟩
   have HRB : Hid (∀ W,Below w.heap.size w W → Reads W a0 nm ∧ Headed a0 nm.length c0):=fun W hW => by
    obtain ⟨a',cap',he,hh,hr⟩:=(r0'.step hW).b.reads
    simp only [Value.slice.injEq,true_and] at he
    obtain ⟨rfl,rfl⟩:=he
    exact ⟨hr,hh⟩
   have HZ : Hid (isBytes nm):=r0'.b.1
   have hix : (k : Int) < (l.length : Int):=by omega
   have HTK : Hid _:=htk
   have hsw:=HB.out.size
   clear r0 r0' hc htk
   go_wp2
   refine wp_region_noPanic ?_
   refine wp_region_held_drew (S:=fun w' => w'.cell? ⟨b,off + k * 4,none⟩ = some (.slice a0 nm.length c0) ∧ w'.cell? ⟨b,off + k * 4 + 1,none⟩ = some (.i sh) ∧ w'.cell? ⟨b,off + k * 4 + 2,none⟩ = some (.i ino) ∧ w'.cell? ⟨b,off + k * 4 + 3,none⟩ = some (.bool dr)) (by kernel_rfl) (HS.out _ (HB.out.trans ((Below.drew (Below.refl wr.heap.size wr)).mono HB.out.size))) (fun hHeld => ?_)
   apply tkh 0 _ rfl (by kernel_rfl) rfl (by assumption)
   ·(intro _ h; (try dsimp only at h); go_simp; try with_reducible rfl)
   try simp only [qz]
   apply tkh 2 _ rfl (by kernel_rfl) rfl (by assumption)
   ·(intro _ h; (try dsimp only at h); go_simp; try with_reducible rfl)
   try simp only [qz]
   apply tkh 3 _ rfl (by kernel_rfl) rfl (by assumption)
   ·(intro _ h; (try dsimp only at h); go_simp; try with_reducible rfl)
   try simp only [qz]
   apply tkh 4 _ rfl (by kernel_rfl) rfl (by assumption)
   ·(intro _ h; (try dsimp only at h); go_simp; try with_reducible rfl)
   try simp only [qz]
   apply tkh 5 _ rfl (by kernel_rfl) rfl (by assumption)
   ·(intro _ h; (try dsimp only at h); go_simp; try with_reducible rfl)
   try simp only [qz]
   apply tkh 6 _ rfl (by kernel_rfl) rfl (by assumption)
   ·(intro _ h; (try dsimp only at h); go_simp; try with_reducible rfl)
   try simp only [qz]
   apply tkh 8 _ rfl (by kernel_rfl) rfl (by assumption)
   ·(intro _ h; (try dsimp only at h); go_simp; try with_reducible rfl)
   try simp only [qz]
   apply tkh 9 _ rfl (by kernel_rfl) rfl (by assumption)
   ·(intro _ h; (try dsimp only at h); go_simp; try with_reducible rfl)
   try simp only [qz]
   apply tkh 10 _ rfl (by kernel_rfl) rfl (by assumption)
   ·(intro _ h; (try dsimp only at h); go_simp; try with_reducible rfl)
   try simp only [qz]
   apply tkh 11 _ rfl (by kernel_rfl) rfl (by assumption)
   ·(intro _ h; (try dsimp only at h); go_simp; try with_reducible rfl)
   try simp only [qz]
   apply tkh 12 _ rfl (by kernel_rfl) rfl (by assumption)
   ·(intro _ h; (try dsimp only at h); go_simp; try with_reducible rfl)
   try simp only [qz]
   refine doH 1 (by kernel_rfl) rfl fun K hK => ?_
   go_simp
   have b5 : Below wr.heap.size wr (wr.drew.alloc (.cells #[] 5)):=Below.alloc (Below.drew (Below.refl wr.heap.size wr)) (Nat.le_refl _) _
   refine hK.out _ _ (HS.out _ (HB.out.trans (b5.mono HB.out.size))) (fun hHeld => ?_)
   clear hK K
   try simp only [qz]
   refine doH 7 (by kernel_rfl) rfl fun K hK => ?_
   refine step_appS rfl (.tmp 12) (.tmp 17) (by rfl) wr.heap.size _ [] nm (by rfl) (owns_empty wr.drew) a0 nm.length c0 (by rfl) rfl (HRB.out _ (HB.out.trans (b5.mono HB.out.size))).1 (by simp) (by omega) (by simp) (fun h => (HRB.out _ (HB.out.trans (b5.mono HB.out.size))).2.2.2 h) ?_
   intro v6 w6 ho6 hg6
   rw [List.nil_append] at ho6
   obtain ⟨ua,uc,rfl,_⟩:=ho6.shape
   have b6 : Below wr.heap.size wr w6:=Below.grown b5 hg6 (by simp) (fun q hq => ((owns_empty wr.drew).lt q hq).1)
   have s6:=b6.size
   refine hK.out _ _ (HS.out _ (HB.out.trans (b6.mono HB.out.size))) (fun hHeld => ?_)
   clear hK K
   try simp only [qz]
   apply tkh 13 _ rfl (by kernel_rfl) rfl (by assumption)
   ·(intro _ h; (try dsimp only at h); go_simp; try with_reducible rfl)
   try simp only [qz]
   refine doH 14 (by kernel_rfl) rfl fun K hK => ?_
   go_simp
   have b7 : Below wr.heap.size wr (w6.alloc (.cells #[.slice ua nm.length uc,.i sh,.i ino,.bool dr] 86)):=Below.alloc b6 s6 _
   refine hK.out _ _ (HS.out _ (HB.out.trans (b7.mono HB.out.size))) (fun hHeld => ?_)
   clear hK K
   try simp only [qz]
   refine doH 15 (by kernel_rfl) rfl fun K hK => ?_
   refine step_appEn (w6.alloc (.cells #[.slice ua nm.length uc,.i sh,.i ino,.bool dr] 86)) rfl (.tmp 11) (.tmp 25) (by rfl) _ (by rfl) (l.take k) ⟨nm,(sh,ino,dr)⟩ (.slice ua nm.length uc) w.heap.size wr.heap.size w6.heap.size w6.heap.size (by rfl) rfl (0,0) (heap_alloc_new _ _) (OwV.step HO.out b7) (OwV.step (OwV.mono (fun q hq => hq) (OwV.ofOwns HZ.out ho6)) (Below.newH _)) (by simp) s6 hsw (by rw [List.length_take]; omega) ?_
   intro g8 n8 c8 w8 ho8 t8
   have s8:=t8.size
   rw [World.size_alloc] at s8
   have HB8 : Below w.heap.size w w8:=Turned.below (HB.out.trans (b7.mono HB.out.size)) t8 (by have:=HB.out.size; simp; omega) (fun i hi => hi.1)
   refine hK.out _ _ (HS.out _ HB8) (fun hHeld => ?_)
   clear hK K
   try simp only [qz]
   apply tkh 16 _ rfl (by kernel_rfl) rfl (by assumption)
   ·(intro _ h; (try dsimp only at h); go_simp; try with_reducible rfl)
   try simp only [qz]
   refine wpAnyH_done (by kernel_rfl) (NoPanic.normal ?_) _
   clear hHeld
   rw [← HTK.out] at ho8
   have HO8 : Hid (OwV w8 _ _ _):=ho8
   have HB9 : Hid (Below w.heap.size w w8):=HB8
   clear ho8 HB8 t8 b5 b6 b7 ho6 hg6
   go_wp2
   refine ⟨⟨k + 1,g8,n8,c8,by omega,by go_num,rfl,HO8,HB9⟩,by simp [intOf]; omega⟩
  ·have he : k = l.length:=by omega
   subst he
   rw [List.take_length] at HO
   go_wp2
   go_ret
   exact ⟨_,_,_,rfl,HO.out,HB.out⟩
end
section
theorem Tryz.infoNd : (Tryz.prog.info? 77).map (fun i => (i.zero,i.size,i.bytes)) = some (some (.agg #[.i 0,.i 0,.bool false,.i 0,.i 0,.bool false,.i 0,.i 0,.n0]),9,88):=by kernel_rfl
def PrtNd (l : List Nd) (B n k : Nat) (w : World) : Prop:=OwV w (fun b => B ≤ b ∧ b < w.heap.size) (.slice (some ⟨B,0,none⟩) n n) (.rows 77 9 n (fun i j => if i < k then ndCell (l[i]?.getD nd0) j else ndCell nd0 j))
end
section
def ndVal (n : Nd) (x : Value) : Nat → Value
 | 0 => .i n.h.sh
 | 1 => .i n.h.ino
 | 2 => .bool n.h.dir
 | 3 => .i n.par.sh
 | 4 => .i n.par.ino
 | 5 => .bool n.par.dir
 | 6 => .i n.links
 | 7 => .i n.val
 | _ => x
def Ent (w : World) (lo : Nat) (v : Value) : Nat → Prop:=fun b => lo ≤ b ∧ b < w.heap.size ∧ v.ownBlock ≠ some b
def ensO (l : List En) : Dt:=
 ⟨fun w S v => RdV w S v (ensDt l) ∧ (∃ C,w.ownsRow 0 86 4 v l.length C) ∧ ∀ b,v.ownBlock = some b → S b,
  fun w S v => RdV w S v (ensDt l) ∧ (∃ C,w.ownsRow 0 86 4 v l.length C) ∧ ∀ b,v.ownBlock = some b → S b,
  fun w w' S v t h => ⟨h.1.keep t,h.2.1.imp (fun C hc => ownsRow_keep hc h.2.2 t),h.2.2⟩,fun w S S' v t h => ⟨h.1.mono t,h.2.1,fun b hb => t b (h.2.2 b hb)⟩,
  fun w w' S v t h => ⟨h.1.keep t,h.2.1.imp (fun C hc => ownsRow_keep hc h.2.2 t),h.2.2⟩,fun w S S' v t h => ⟨h.1.mono t,h.2.1,fun b hb => t b (h.2.2 b hb)⟩,fun w S v h => h⟩
theorem RdV.en {w : World} {S : Nat → Prop} {v : Value} {l : List En} (r : RdV w S v (ensO l)) : RdV w S v (ensDt l):=r.1
theorem ensO.mk {w : World} {S : Nat → Prop} {v : Value} {l : List En} {C : List Value} {lo : Nat} (r : RdV w S v (ensDt l)) (h : w.ownsRow lo 86 4 v l.length C) (hb : ∀ b,v.ownBlock = some b → S b) : RdV w S v (ensO l):=⟨r,⟨C,ownsRow_base h⟩,hb⟩
theorem OwV.en {w : World} {S : Nat → Prop} {v : Value} {l : List En} (o : OwV w S v (ensDt l)) : RdV w S v (ensO l):=by
 obtain ⟨V,C,Q,h1,h2,_⟩:=OwV.inv o
 exact ensO.mk (OwV.rd o) h1 h2
def SN (w : World) (lo : Nat) (v : Value) (l : List Nd) : Prop:=
 ∃ (V : Nat → Value) (C : List Value),w.ownsRow lo 77 9 v l.length C ∧ (∀ i j,i < l.length → j < 9 → C[i * 9 + j]? = some (ndVal (l[i]?.getD nd0) (V i) j)) ∧ ∀ i,i < l.length → RdV w (Ent w lo v) (V i) (ensO (l[i]?.getD nd0).es)
theorem SN.nil (w : World) (lo : Nat) : SN w lo (.n0) []:=
 ⟨fun _ => undef,[],World.ownsRow_nil _ _ _ _,fun i j hi => absurd hi (Nat.not_lt_zero _),fun i hi => absurd hi (Nat.not_lt_zero _)⟩
theorem SN.lt {w : World} {lo : Nat} {v : Value} {l : List Nd} (s : SN w lo v l) : ∀ b,v.ownBlock = some b → lo ≤ b ∧ b < w.heap.size:=by
 obtain ⟨V,C,h1,h2,h3⟩:=s
 exact fun b hb => h1.lt b hb
theorem SN.keep {w w' : World} {lo : Nat} {v : Value} {l : List Nd} (s : SN w lo v l) (t : Keeps (fun b => lo ≤ b ∧ b < w.heap.size) w w') : SN w' lo v l:=by
 have hb:=s.lt
 obtain ⟨V,C,h1,h2,h3⟩:=s
 exact ⟨V,C,ownsRow_keep h1 hb t,h2,fun i hi => RdV.mono (fun b hb => ⟨hb.1,Nat.lt_of_lt_of_le hb.2.1 t.1,hb.2.2⟩) (RdV.keep (t.mono (fun b hb => ⟨hb.1,hb.2.1⟩)) (h3 i hi))⟩
theorem SN.step {w w' : World} {lo : Nat} {v : Value} {l : List Nd} (s : SN w lo v l) (hb : Below w.heap.size w w') : SN w' lo v l:=s.keep (Keeps.ofBelow hb)
theorem SN.grow {w w' : World} {lo g cap : Nat} {v x : Value} {l : List Nd} {n : Nd} (hx : RdV w (Ent w lo v) x (ensO n.es)) (V : Nat → Value) (C : List Value) (h1 : w.ownsRow lo 77 9 v l.length C)
  (h2 : ∀ i j,i < l.length → j < 9 → C[i * 9 + j]? = some (ndVal (l[i]?.getD nd0) (V i) j)) (h3 : ∀ i,i < l.length → RdV w (Ent w lo v) (V i) (ensO (l[i]?.getD nd0).es))
  (ho : w'.ownsRow lo 77 9 (.slice (some ⟨g,0,none⟩) (l.length + 1) cap) (l.length + 1) (C ++ [.i n.h.sh,.i n.h.ino,.bool n.h.dir,.i n.par.sh,.i n.par.ino,.bool n.par.dir,.i n.links,.i n.val,x]))
  (hg : w.grownBy w' v.ownBlock) (hgg : v.ownBlock = some g ∨ g = w.heap.size) : SN w' lo (.slice (some ⟨g,0,none⟩) (l.length + 1) cap) (l ++ [n]):=by
 have hsz:=hg.size
 have hCl : C.length = l.length * 9:=h1.1
 have hln : (l ++ [n]).length = l.length + 1:=by simp
 have hrd : ∀ (y : Value) (es : List En),RdV w (Ent w lo v) y (ensO es) → RdV w' (Ent w' lo (.slice (some ⟨g,0,none⟩) (l.length + 1) cap)) y (ensO es):=fun y es r =>
  RdV.mono (fun b hb => ⟨hb.1,by have:=hb.2.1; omega,fun e => by
   have e' : g = b:=by simpa [Value.ownBlock] using e
   rcases hgg with h | h
   ·exact hb.2.2 (by rw [h,e'])
   ·have:=hb.2.1; omega⟩) (RdV.keep ⟨hsz,fun b hb hlt => hg.block b hlt (fun h => hb.2.2 h.symm)⟩ r)
 refine ⟨fun i => if i < l.length then V i else x,_,by rw [hln]; exact ho,fun i j hi hj => ?_,fun i hi => ?_⟩
 ·rw [hln] at hi
  by_cases hlt : i < l.length
  ·simp only [hlt,if_true]
   rw [List.getElem?_append_left (by rw [hCl]; exact place_lt hlt hj),List.getElem?_append_left hlt]
   exact h2 i j hlt hj
  ·obtain rfl : i = l.length:=by omega
   simp only [Nat.lt_irrefl,if_false]
   rw [List.getElem?_append_right (by omega),hCl,show l.length * 9 + j - l.length * 9 = j by omega,show (l ++ [n])[l.length]?.getD nd0 = n by simp]
   match j,hj with
   | 0,_ => rfl
   | 1,_ => rfl
   | 2,_ => rfl
   | 3,_ => rfl
   | 4,_ => rfl
   | 5,_ => rfl
   | 6,_ => rfl
   | 7,_ => rfl
   | 8,_ => rfl
 ·rw [hln] at hi
  by_cases hlt : i < l.length
  ·simp only [hlt,if_true]
   rw [List.getElem?_append_left hlt]
   exact hrd _ _ (h3 i hlt)
  ·obtain rfl : i = l.length:=by omega
   simp only [Nat.lt_irrefl,if_false]
   rw [show (l ++ [n])[l.length]?.getD nd0 = n by simp]
   exact hrd _ _ hx
theorem step_appNd {ops : Array Oper} {o : Oper} {a : Act} {K : Act → World → Prop} {Q : Exit → Act → World → Prop} {E : Prop} (w : World) (hgd : o.guard = none) (s x : Operand)
  (ho : o.op = .call { callee:=.builtin .append,args:=#[s,x],argTypes:=#[24,24] })
  (v : Value) (hs : a.eval s = v) (l : List Nd) (n : Nd) (u : Value) (lo q : Nat) (hx : a.eval x = .slice (some ⟨q,0,none⟩) 1 1) (hone : u.oneCell' = true) (fr : Nat × Nat)
  (hq : w.heap[q]? = some (.cells #[.i n.h.sh,.i n.h.ino,.bool n.h.dir,.i n.par.sh,.i n.par.ino,.bool n.par.dir,.i n.links,.i n.val,u] 77 fr))
  (hown : SN w lo v l) (hu : RdV w (Ent w lo v) u (ensO n.es)) (hlo : lo ≤ w.heap.size) (hl : l.length ≤ 4000)
  (h : ∀ g m cap w',SN w' lo (.slice g m cap) (l ++ [n]) → w.grownBy w' v.ownBlock → K (a.put o.dst (.slice g m cap)) w') : if Region.wanted o (yielded ops a.tmps) = true then Oper.wp Tryz.prog o a w K Q else E:=by
 obtain ⟨i0,hi0,hz0,hz1,hz2⟩:=info_parts Tryz.infoNd
 obtain ⟨V,C,h1,h2,h3⟩:=hown
 refine step_append_lies w hgd s x 24 ho lo 77 i0 _ 9 _ Tryz.underlying24 hi0 hz0 hz1 hz2 rfl (by decide) v l.length C hs h1 ⟨q,0,none⟩ 1 1 [.i n.h.sh,.i n.h.ino,.bool n.h.dir,.i n.par.sh,.i n.par.ino,.bool n.par.dir,.i n.links,.i n.val,u] hx rfl (World.news_of_block hq) (fun y hy => ?_) (by decide) (by unfold maxLen; omega) (by omega) hlo w.heap.size rfl ?_
 ·simp only [List.mem_cons,List.not_mem_nil,or_false] at hy
  rcases hy with rfl | rfl | rfl | rfl | rfl | rfl | rfl | rfl | rfl <;> first | exact hone | rfl
 intro g cap w' ho' hg hgg hgl
 exact h _ _ _ w' (SN.grow hu V C h1 h2 h3 ho' hg hgg) hg
theorem wpList_appNd {ops : Array Oper} {rest : List Oper} {o : Oper} {a : Act} {Q : Exit → Act → World → Prop} (w : World) (hgd : o.guard = none) (s x : Operand)
  (ho : o.op = .call { callee:=.builtin .append,args:=#[s,x],argTypes:=#[24,24] })
  (v : Value) (hs : a.eval s = v) (l : List Nd) (n : Nd) (u : Value) (lo q : Nat) (hx : a.eval x = .slice (some ⟨q,0,none⟩) 1 1) (hone : u.oneCell' = true) (fr : Nat × Nat)
  (hq : w.heap[q]? = some (.cells #[.i n.h.sh,.i n.h.ino,.bool n.h.dir,.i n.par.sh,.i n.par.ino,.bool n.par.dir,.i n.links,.i n.val,u] 77 fr))
  (hown : SN w lo v l) (hu : RdV w (Ent w lo v) u (ensO n.es)) (hlo : lo ≤ w.heap.size) (hl : l.length ≤ 4000)
  (h : ∀ g m cap w',SN w' lo (.slice g m cap) (l ++ [n]) → w.grownBy w' v.ownBlock → wpList Tryz.prog ops Q rest (a.put o.dst (.slice g m cap)) w') : wpList Tryz.prog ops Q (o :: rest) a w:=by
 obtain ⟨i0,hi0,hz0,hz1,hz2⟩:=info_parts Tryz.infoNd
 obtain ⟨V,C,h1,h2,h3⟩:=hown
 refine wpList_append_lies w hgd s x 24 ho lo 77 i0 _ 9 _ Tryz.underlying24 hi0 hz0 hz1 hz2 rfl (by decide) v l.length C hs h1 ⟨q,0,none⟩ 1 1 [.i n.h.sh,.i n.h.ino,.bool n.h.dir,.i n.par.sh,.i n.par.ino,.bool n.par.dir,.i n.links,.i n.val,u] hx rfl (World.news_of_block hq) (fun y hy => ?_) (by decide) (by unfold maxLen; omega) (by omega) hlo w.heap.size rfl ?_
 ·simp only [List.mem_cons,List.not_mem_nil,or_false] at hy
  rcases hy with rfl | rfl | rfl | rfl | rfl | rfl | rfl | rfl | rfl <;> first | exact hone | rfl
 intro g cap w' ho' hg hgg hgl
 exact h _ _ _ w' (SN.grow hu V C h1 h2 h3 ho' hg hgg) hg
end
section
theorem SN.low {w : World} {lo lo' : Nat} {v : Value} {l : List Nd} (s : SN w lo v l) (h : lo' ≤ lo) : SN w lo' v l:=by
 obtain ⟨V,C,h1,h2,h3⟩:=s
 exact ⟨V,C,⟨h1.1,h1.2.imp id (fun ⟨g,c,cur,hv,hg,r⟩ => ⟨g,c,cur,hv,Nat.le_trans h hg,r⟩)⟩,h2,fun i hi => RdV.mono (fun b hb => ⟨Nat.le_trans h hb.1,hb.2⟩) (h3 i hi)⟩

def CpRel (w : World) (v : Value) (l : List Nd) (i : Value) (wr : World) : Prop:=
 ∃ (k : Nat) (ga : Option Addr) (gn gc : Nat),k ≤ l.length ∧ i = .i k ∧ VarA wr w.heap.size 26 #[v] ∧ VarA wr (w.heap.size + 1) 26 #[.n0] ∧ VarA wr (w.heap.size + 1 + 1) 26 #[.slice ga gn gc] ∧ SN wr (w.heap.size + 3) (.slice ga gn gc) (l.take k) ∧ Below w.heap.size w wr ∧ w.heap.size + 3 ≤ wr.heap.size
set_option maxHeartbeats 4000000 in
theorem specCopy4_any (v : Value) (l : List Nd) (S : Nat → Prop) (w : World) (r : RdV w S v (ndsDt l)) (hl : szNds l ≤ 2097152) (hn : l.length ≤ 4000) (hes : ∀ i : Nat,(l[i]?.getD nd0).es.length ≤ 4000) :
  Calls Tryz.prog 31 #[.agg #[v]] w fun e w' => ∃ a n c,e = .returned (.agg #[.slice a n c]) ∧ SN w' w.heap.size (.slice a n c) l ∧ Below w.heap.size w w':=by
 obtain ⟨a,cap,rfl,_⟩:=RdV.sliced r
 have HR : Hid (∀ W,Below w.heap.size w W → RdV W S (.slice a l.length cap) (ndsDt l)):=fun W hW => r.step hW
 clear r
 go_enter Tryz.func31,Tryz.ntmps31
 go_wp2
 go_loopw [4] (fun i wr => CpRel w (.slice a l.length cap) l i wr) (fun i _ => l.length - (intOf i).toNat)
 case atStart =>
  refine ⟨0,none,0,0,Nat.zero_le _,rfl,((VarA.new w _ _).alloc _).alloc _,?_,?_,by rw [List.take_zero]; exact SN.nil _ _,(((Below.refl _ _).alloc (Nat.le_refl _) _).alloc (by simp) _).alloc (by simp; omega) _,by simp⟩
  ·have:=(VarA.new (w.alloc (.cells #[.slice a l.length cap] 26)) 26 #[.n0]).alloc (.cells #[.n0] 26)
   simpa using this
  ·have:=VarA.new ((w.alloc (.cells #[.slice a l.length cap] 26)).alloc (.cells #[.n0] 26)) 26 #[.n0]
   simpa using this
 case round =>
  obtain ⟨k,ga,gn,gc,hk,rfl,vT,vR,vO,sn,bw,hsz⟩:=hrel
  have t0:=vT.c 0 rfl
  by_cases hlt : k < l.length
  ·obtain ⟨b,off,rfl,hbl,hSb,hc⟩:=(HR.out w (Below.refl _ _)).at hlt
   have htk : l.take (k + 1) = l.take k ++ [l[k]?.getD nd0]:=by rw [List.take_succ_eq_append_getElem hlt]; simp [hlt]
   have hel:=hes k
   have hzn : szEns (l[k]?.getD nd0).es ≤ 2097152:=Nat.le_trans (szNds_at l k) hl
   obtain ⟨x0,q0,r0⟩:=hc 0 (by omega)
   obtain ⟨x1,q1,r1⟩:=hc 1 (by omega)
   obtain ⟨x2,q2,r2⟩:=hc 2 (by omega)
   obtain ⟨x3,q3,r3⟩:=hc 3 (by omega)
   obtain ⟨x4,q4,r4⟩:=hc 4 (by omega)
   obtain ⟨x5,q5,r5⟩:=hc 5 (by omega)
   obtain ⟨x6,q6,r6⟩:=hc 6 (by omega)
   obtain ⟨x7,q7,r7⟩:=hc 7 (by omega)
   obtain ⟨x8,q8,r8⟩:=hc 8 (by omega)
   generalize l[k]?.getD nd0 = nd at r0 r1 r2 r3 r4 r5 r6 r7 r8 htk hel hzn
   obtain ⟨⟨s0,s1,s2⟩,⟨s3,s4,s5⟩,lk,vl,es⟩:=nd
   obtain rfl : x0 = .i s0:=r0
   obtain rfl : x1 = .i s1:=r1
   obtain rfl : x2 = .bool s2:=r2
   obtain rfl : x3 = .i s3:=r3
   obtain rfl : x4 = .i s4:=r4
   obtain rfl : x5 = .bool s5:=r5
   obtain rfl : x6 = .i lk:=r6
   obtain rfl : x7 = .i vl:=r7
   have r8' : RdV w S x8 (ensDt es):=r8
   obtain ⟨xa,xc,rfl,_⟩:=RdV.sliced r8'
   have HCE : Hid (∀ W,Below w.heap.size w W → _):=fun W hW => specCopyEn_any _ es S W (r8'.step hW) hzn hel
   have p0:=(bw.cell (p:=⟨b,off + k * 9 + 0,none⟩) hbl).trans q0
   have p1:=(bw.cell (p:=⟨b,off + k * 9 + 1,none⟩) hbl).trans q1
   have p2:=(bw.cell (p:=⟨b,off + k * 9 + 2,none⟩) hbl).trans q2
   have p3:=(bw.cell (p:=⟨b,off + k * 9 + 3,none⟩) hbl).trans q3
   have p4:=(bw.cell (p:=⟨b,off + k * 9 + 4,none⟩) hbl).trans q4
   have p5:=(bw.cell (p:=⟨b,off + k * 9 + 5,none⟩) hbl).trans q5
   have p6:=(bw.cell (p:=⟨b,off + k * 9 + 6,none⟩) hbl).trans q6
   have p7:=(bw.cell (p:=⟨b,off + k * 9 + 7,none⟩) hbl).trans q7
   have p8:=(bw.cell (p:=⟨b,off + k * 9 + 8,none⟩) hbl).trans q8
   rw [Nat.add_zero] at p0
   have HSN : Hid (SN wr (w.heap.size + 3) (.slice ga gn gc) (l.take k)):=sn
   have HBW : Hid (Below w.heap.size w wr):=bw
   have HVT : Hid (VarA wr w.heap.size 26 _):=vT
   have HVR : Hid (VarA wr (w.heap.size + 1) 26 _):=vR
   have HVO : Hid (VarA wr (w.heap.size + 1 + 1) 26 _):=vO
   have HTK : Hid _:=htk
   clear q0 q1 q2 q3 q4 q5 q6 q7 q8 r8 r8' hc vT vR vO sn bw htk
   go_wp2_with fail
   refine Calls.mono (HCE.out _ (HBW.out.alloc HBW.out.size _)) ?_
   rintro e w6 ⟨ea,en,ec,rfl,oE,b6⟩
   have s6:=b6.size
   rw [World.size_alloc] at s6
   have vN : VarA w6 wr.heap.size 77 _:=(VarA.new wr 77 #[.i s0,.i s1,.bool s2,.i s3,.i s4,.bool s5,.i lk,.i vl,.slice xa es.length xc]).step b6
   have b6' : Below wr.heap.size wr w6:=(Below.newH (w:=wr) _).trans (b6.mono (by simp))
   have n0:=vN.c 0 rfl
   have n1:=vN.c 1 rfl
   have n2:=vN.c 2 rfl
   have n3:=vN.c 3 rfl
   have n4:=vN.c 4 rfl
   have n5:=vN.c 5 rfl
   have n6:=vN.c 6 rfl
   have n7:=vN.c 7 rfl
   have n8:=vN.c 8 rfl
   have nf:=vN.fz
   have o0:=(HVO.out.step b6').c 0 rfl
   have hvo:=HVO.out.lt
   have B8 : Below wr.heap.size wr ((w6.setCell ⟨wr.heap.size,8,none⟩ (.slice ea en ec)).alloc (.cells #[.i s0,.i s1,.bool s2,.i s3,.i s4,.bool s5,.i lk,.i vl,.slice ea en ec] 77)):=(b6'.setCell (Nat.le_refl _) _).alloc (by simp; omega) _
   have SN8:=HSN.out.step B8
   have hvb:=HSN.out.lt
   have RE8 : RdV ((w6.setCell ⟨wr.heap.size,8,none⟩ (.slice ea en ec)).alloc (.cells #[.i s0,.i s1,.bool s2,.i s3,.i s4,.bool s5,.i lk,.i vl,.slice ea en ec] 77)) (Ent ((w6.setCell ⟨wr.heap.size,8,none⟩ (.slice ea en ec)).alloc (.cells #[.i s0,.i s1,.bool s2,.i s3,.i s4,.bool s5,.i lk,.i vl,.slice ea en ec] 77)) (w.heap.size + 3) (.slice ga gn gc)) (.slice ea en ec) (ensO es):=by
    refine RdV.mono (fun q hq => ?_) (RdV.keep ?_ (OwV.en oE))
    ·simp at hq
     exact ⟨by omega,by simp; omega,fun h => by have:=hvb q h; omega⟩
    ·refine ⟨by simp,fun q hq hlt => ?_⟩
     simp at hq
     rw [Below.heap_alloc _ _ q (by simpa using hlt),heap_setCell_other _ _ _ _ (by show q ≠ wr.heap.size; omega)]
   have HSN8 : Hid _:=SN8
   have HRE8 : Hid _:=RE8
   have HB8 : Hid _:=B8
   have hkl : (l.take k).length ≤ 4000:=by rw [List.length_take]; omega
   clear SN8 RE8 B8 oE b6 vN HCE p0 p1 p2 p3 p4 p5 p6 p7 p8
   go_wp2_with (at_builtin; go_must (refine wpList_appNd _ rfl (.tmp 23) (.tmp 25) rfl _ rfl (l.take k) ⟨(s0,s1,s2),(s3,s4,s5),lk,vl,es⟩ (.slice ea en ec) (w.heap.size + 3) w6.heap.size rfl rfl (0,0) (by have:=heap_alloc_new (w6.setCell ⟨wr.heap.size,8,none⟩ (.slice ea en ec)) (.cells #[.i s0,.i s1,.bool s2,.i s3,.i s4,.bool s5,.i lk,.i vl,.slice ea en ec] 77); simpa using this) HSN8.out HRE8.out (by simp; omega) hkl ?_; intro g9 m9 c9 w9 sn9 hg9; have vO9 : VarA w9 (w.heap.size + 1 + 1) 26 #[.slice ga gn gc]:=(hg9.block _ (by simp; omega) (fun h => by have:=hvb _ h.symm; omega)).trans (HVO.out.step HB8.out); have z0:=vO9.c 0 rfl; have zf:=vO9.fz))
   have s9:=hg9.size
   simp at s9
   have blk : ∀ q,q < wr.heap.size → q < w.heap.size + 3 → w9.heap[q]? = wr.heap[q]?:=fun q hq hq3 => (hg9.block q (by simp; omega) (fun h => by have:=hvb _ h.symm; omega)).trans (HB8.out.block q hq)
   have B9 : Below w.heap.size w w9:=Below.grown (HBW.out.trans (HB8.out.mono HBW.out.size)) hg9 (by have:=HB8.out.size; omega) (fun q hq => by have:=hvb q hq; omega)
   rw [← HTK.out] at sn9
   refine ⟨⟨k + 1,g9,m9,c9,by omega,by go_num,VarA.aside ((blk _ (by omega) (by omega)).trans HVT.out) (by show w.heap.size ≠ w.heap.size + 1 + 1; omega) _,VarA.aside ((blk _ (by omega) (by omega)).trans HVR.out) (by show w.heap.size + 1 ≠ w.heap.size + 1 + 1; omega) _,vO9.set 0 _,sn9.keep ⟨by simp,fun q hq _ => heap_setCell_other _ _ _ _ (by show q ≠ w.heap.size + 1 + 1; omega)⟩,B9.setCell (by show w.heap.size ≤ w.heap.size + 1 + 1; omega) _,by simp; omega⟩,by simp [intOf]; omega⟩
  ·have he : k = l.length:=by omega
   subst he
   rw [List.take_length] at sn
   have r0:=vR.c 0 rfl
   have rf:=vR.fz
   have o0:=vO.c 0 rfl
   have HSN : Hid _:=sn
   have HBW : Hid _:=bw
   clear vT vR vO sn bw
   go_wp2
   refine bodyPost_ret (v:=.agg #[.slice ga gn gc]) (by simp [results,Tryz.results31,go_sem,r0]) rfl ⟨_,_,_,rfl,SN.low (SN.keep HSN.out ⟨by simp,fun q hq _ => heap_setCell_other _ _ _ _ (by show q ≠ w.heap.size + 1; omega)⟩) (by omega),HBW.out.setCell (by show w.heap.size ≤ w.heap.size + 1; omega) _⟩
end
section
def rootH : Hd:=(0,1,true)
def rootN : Nd:=⟨rootH,rootH,1,0,[]⟩
abbrev rootV : Value:=.agg #[.i 0,.i 1,.bool true]
theorem specRootH_any (w : World) : Calls Tryz.prog 28 #[] w fun e w' => e = .returned rootV ∧ w' = w.alloc (.cells #[.i 0,.i 1,.bool true] 48):=by
 go_enter Tryz.func28,Tryz.ntmps28
 go_wp2
 refine bodyPost_ret (v:=rootV) (by simp [results,Tryz.results28,go_sem]) rfl ⟨rfl,rfl⟩
theorem implRootH_any (w : World) : Calls Tryz.prog 65 #[] w fun e w' => e = .returned rootV ∧ w' = w.alloc (.cells #[.i 0,.i 1,.bool true] 48):=by
 go_enter Tryz.func65,Tryz.ntmps65
 go_wp2
 refine bodyPost_ret (v:=rootV) (by simp [results,Tryz.results65,go_sem]) rfl ⟨rfl,rfl⟩
theorem ow_root (w : World) (B : Nat) (hB : B ≤ w.heap.size) : OwV (w.alloc (.cells #[.i 0,.i 1,.bool true,.i 0,.i 1,.bool true,.i 1,.i 0,.n0] 77)) (fun b => B ≤ b ∧ b < (w.alloc (.cells #[.i 0,.i 1,.bool true,.i 0,.i 1,.bool true,.i 1,.i 0,.n0] 77)).heap.size) (.slice (some ⟨w.heap.size,0,none⟩) 1 1) (ndsDt [rootN]):=by
 have h:=World.ownsRow_lit (base:=0) (e:=77) (size:=9) w #[.i 0,.i 1,.bool true,.i 0,.i 1,.bool true,.i 1,.i 0,.n0] 1 (Nat.zero_le _) (by unfold maxLen; omega) rfl
 refine OwV.mkRows ⟨fun _ j => #[Value.i 0,.i 1,.bool true,.i 0,.i 1,.bool true,.i 1,.i 0,.n0][j]?.getD undef,_,fun _ _ _ => False,h,fun b hb => ?_,fun i j hi hj => ?_,fun i j hi hj => ?_,fun i j b _ _ hq => hq.elim,fun i j i' j' b _ _ _ _ hq => hq.elim⟩
 ·cases hb
  exact ⟨hB,by simp⟩
 ·obtain rfl : i = 0:=by simpa using hi
  match j,hj with
  | 0,_ => rfl
  | 1,_ => rfl
  | 2,_ => rfl
  | 3,_ => rfl
  | 4,_ => rfl
  | 5,_ => rfl
  | 6,_ => rfl
  | 7,_ => rfl
  | 8,_ => rfl
 ·obtain rfl : i = 0:=by simpa using hi
  match j,hj with
  | 0,_ => rfl
  | 1,_ => rfl
  | 2,_ => rfl
  | 3,_ => rfl
  | 4,_ => rfl
  | 5,_ => rfl
  | 6,_ => rfl
  | 7,_ => rfl
  | 8,_ => exact OwV.nilR _ _ _ _ _

set_option maxHeartbeats 1000000 in
theorem implRoot_any (w : World) : Calls Tryz.prog 37 #[] w fun e w' => ∃ a n c,e = .returned (.agg #[.slice a n c]) ∧ OwV w' (fun b => w.heap.size ≤ b ∧ b < w'.heap.size) (.slice a n c) (ndsDt [rootN]) ∧ Below w.heap.size w w':=by
 have HH : Hid (∀ W,_):=fun W => implRootH_any W
 go_enter Tryz.func37,Tryz.ntmps37
 go_wp2_with fail
 refine Calls.mono (HH.out _) ?_
 rintro e w2 ⟨rfl,rfl⟩
 go_wp2
 refine bodyPost_ret (v:=.agg #[.slice (some ⟨w.heap.size + 1 + 1 + 1,0,none⟩) 1 1]) (by simp [results,Tryz.results37,go_sem]) rfl ⟨_,_,_,rfl,?_,?_⟩
 ·have:=ow_root (((w.alloc (.cells #[.slice (some ⟨w.heap.size + 1 + 1 + 1,0,none⟩) 1 1] 26)).alloc (.cells #[.i 0,.i 1,.bool true] 48)).alloc (.cells #[.i 0,.i 1,.bool true] 48)) w.heap.size (by simp; omega)
  simpa using this
 ·exact (((((Below.refl _ _).alloc (Nat.le_refl _) _).alloc (by simp) _).alloc (by simp; omega) _).alloc (by simp; omega) _)
set_option maxHeartbeats 1000000 in
theorem specRoot_any (w : World) : Calls Tryz.prog 14 #[] w fun e w' => ∃ a n c,e = .returned (.agg #[.slice a n c]) ∧ OwV w' (fun b => w.heap.size ≤ b ∧ b < w'.heap.size) (.slice a n c) (ndsDt [rootN]) ∧ Below w.heap.size w w':=by
 have HH : Hid (∀ W,_):=fun W => specRootH_any W
 go_enter Tryz.func14,Tryz.ntmps14
 go_wp2_with fail
 refine Calls.mono (HH.out _) ?_
 rintro e w2 ⟨rfl,rfl⟩
 go_wp2_with fail
 refine Calls.mono (HH.out _) ?_
 rintro e w2 ⟨rfl,rfl⟩
 go_wp2
 refine bodyPost_ret (v:=.agg #[.slice (some ⟨w.heap.size + 1 + 1 + 1,0,none⟩) 1 1]) (by simp [results,Tryz.results14,go_sem]) rfl ⟨_,_,_,rfl,?_,?_⟩
 ·have:=ow_root (((w.alloc (.cells #[.slice (some ⟨w.heap.size + 1 + 1 + 1,0,none⟩) 1 1] 26)).alloc (.cells #[.i 0,.i 1,.bool true] 48)).alloc (.cells #[.i 0,.i 1,.bool true] 48)) w.heap.size (by simp; omega)
  simpa using this
 ·exact (((((Below.refl _ _).alloc (Nat.le_refl _) _).alloc (by simp) _).alloc (by simp; omega) _).alloc (by simp; omega) _)
end
section
def leftT (n s : Nat) : Int:=if n ≤ s then (s : Int) - n else -1

def psum {α : Type} (f : α → Nat) (l : List α) (j : Nat) : Nat:=((l.take j).map f).sum
theorem psum_zero {α : Type} (f : α → Nat) (l : List α) : psum f l 0 = 0:=by simp [psum]
theorem psum_all {α : Type} (f : α → Nat) (l : List α) : psum f l l.length = (l.map f).sum:=by simp [psum]
theorem psum_next {α : Type} (f : α → Nat) (l : List α) (d : α) (j : Nat) (h : j < l.length) : psum f l (j + 1) = psum f l j + f (l[j]?.getD d):=by
 unfold psum
 rw [List.take_succ_eq_append_getElem h,List.map_append,List.sum_append]
 simp [h]
theorem psum_le {α : Type} (f : α → Nat) (l : List α) (j : Nat) : psum f l j ≤ (l.map f).sum:=by
 have : (l.map f).sum = ((l.take j).map f).sum + ((l.drop j).map f).sum:=by rw [← List.sum_append,← List.map_append,List.take_append_drop]
 unfold psum
 omega

theorem psum_mono0 {α : Type} (f g : α → Nat) (h : ∀ a,f a ≤ g a) (l : List α) : (l.map f).sum ≤ (l.map g).sum:=by
 induction l with
 | nil => simp
 | cons x r ih => have:=h x; simp; omega

theorem szByteS_d (v : Value) (zs : List Int) (S : Nat → Prop) (s : Nat) (w : World) (r : RdV w S v (.bytes zs)) (hs : s ≤ 1048576) :
  Calls Tryz.prog 47 #[v,.i s] w fun e w' => e = .returned (.i (leftT zs.length s)) ∧ Below w.heap.size w w':=by
 obtain ⟨a,c,rfl,hh,_⟩:=r.b.reads
 have hm : zs.length ≤ 9223372036854775807:=by have:=hh.1; have:=hh.2.1; unfold maxLen at this; omega
 generalize zs.length = n at hm ⊢
 unfold leftT
 clear hh
 by_cases hle : n ≤ s
 ·rw [if_pos hle]
  go_enter Tryz.func47,Tryz.ntmps47
  go_wp2
  go_ret
  exact ⟨rfl,Below.refl _ _⟩
 ·rw [if_neg hle]
  go_enter Tryz.func47,Tryz.ntmps47
  go_wp2
  go_ret
  exact ⟨rfl,Below.refl _ _⟩

set_option maxHeartbeats 1000000 in
theorem szEntry_d (x : Value) (e : En) (S : Nat → Prop) (s : Nat) (w : World) (hs : s ≤ 1048576) (r : RdV w S x (.bytes e.nm)) :
  Calls Tryz.prog 77 #[enV x e.h,.i s] w fun ret w' => ret = .returned (.i (leftT (e.nm.length) s)) ∧ Below w.heap.size w w':=by
 obtain ⟨a,cap,rfl⟩:=r.sliceB
 obtain ⟨nm,⟨p,q,d⟩⟩:=e
 dsimp only at r ⊢
 have HS : Hid (∀ W,Below w.heap.size w W → _):=fun W hW => szByteS_d _ nm S s W (r.step hW) hs
 clear r
 generalize nm.length = m at HS ⊢
 by_cases hle : m ≤ s
 ·have hl : leftT m s = (s : Int) - m:=by unfold leftT; rw [if_pos hle]
  rw [hl] at HS ⊢
  clear hl
  go_enter Tryz.func77,Tryz.ntmps77
  go_wp2_with fail
  refine Calls.mono (HS.out _ (Below.newH _)) ?_
  rintro e w2 ⟨rfl,b_⟩
  go_wp2
  go_ret
  exact ⟨rfl,(Below.newH (w:=w) _).trans (b_.mono (by simp))⟩
 ·have hl : leftT m s = -1:=by unfold leftT; rw [if_neg hle]
  rw [hl] at HS ⊢
  clear hl
  go_enter Tryz.func77,Tryz.ntmps77
  go_wp2_with fail
  refine Calls.mono (HS.out _ (Below.newH _)) ?_
  rintro e w2 ⟨rfl,b_⟩
  go_wp2
  go_ret
  exact ⟨rfl,(Below.newH (w:=w) _).trans (b_.mono (by simp))⟩

set_option maxHeartbeats 2000000 in
theorem szEntryS_d (v : Value) (l : List En) (S : Nat → Prop) (s : Nat) (w : World) (hs : s ≤ 1048576) (r : RdV w S v (ensDt l)) :
  Calls Tryz.prog 48 #[v,.i s] w fun e w' => e = .returned (.i (leftT (szEns l) s)) ∧ Below w.heap.size w w':=by
 obtain ⟨a,cap,rfl,hm⟩:=RdV.sliced r
 have HR : Hid (∀ W,Below w.heap.size w W → RdV W S (.slice a l.length cap) (ensDt l)):=r.old
 have HD : Hid (ensDt l = .rows 86 4 l.length (fun i j => enCell (l[i]?.getD en0) j)):=rfl
 have HX : Hid (szEns l = l.length + psum (fun e : En => e.nm.length) l l.length):=by show _ = _; rw [psum_all]; rfl
 have HU : Hid (∀ j,j < l.length → psum (fun e : En => e.nm.length) l (j + 1) = psum (fun e : En => e.nm.length) l j + (fun e : En => e.nm.length) (l[j]?.getD en0) ∧ psum (fun e : En => e.nm.length) l (j + 1) ≤ psum (fun e : En => e.nm.length) l l.length):=fun j hj => ⟨psum_next _ l _ j hj,by rw [psum_all]; exact psum_le _ l _⟩
 unfold maxLen at hm
 clear r
 rw [HD.out] at HR
 clear HD
 rw [HX.out]
 clear HX
 have HZ0 : Hid (psum (fun e : En => e.nm.length) l 0 = 0):=psum_zero _ _
 generalize psum (fun e : En => e.nm.length) l = P at HU HZ0 ⊢
 generalize l.length = n at hm HR HU ⊢
 by_cases hle : n ≤ s
 ·go_enter Tryz.func48,Tryz.ntmps48
  go_wp2
  go_loopw [1,5] (fun q i wr => ∃ j t : Nat,j ≤ n ∧ i = .i j ∧ q = .i t ∧ t ≤ s ∧ Hid (t + (n + P j) = s) ∧ Below w.heap.size w wr) (fun _ i _ => n - (intOf i).toNat)
  case atStart => exact ⟨0,s - n,Nat.zero_le _,rfl,by go_num,by omega,by show _ = _; rw [HZ0.out]; omega,Below.refl _ _⟩
  case round =>
   obtain ⟨j,t,hj,rfl,rfl,ht,HS,hbel⟩:=hrel
   by_cases hlt : j < n
   ·obtain ⟨b,off,rfl,hbl,_,hx⟩:=RdV.at (HR.out wr hbel) hlt
    obtain ⟨hu1,hu2⟩:=HU.out j hlt
    obtain ⟨e,he⟩ : ∃ e,l[j]?.getD en0 = e:=⟨_,rfl⟩
    obtain ⟨x0,c0,r0⟩:=hx 0 (by omega)
    obtain ⟨x1,c1,r1⟩:=hx 1 (by omega)
    obtain ⟨x2,c2,r2⟩:=hx 2 (by omega)
    obtain ⟨x3,c3,r3⟩:=hx 3 (by omega)
    rw [he] at hu1 r0 r1 r2 r3
    clear hx he
    obtain ⟨nm,⟨p,q,d⟩⟩:=e
    obtain rfl : x1 = .i p:=r1
    obtain rfl : x2 = .i q:=r2
    obtain rfl : x3 = .bool d:=r3
    simp only [Nat.add_zero] at c0
    dsimp only at hu1
    have RS : Hid (RdV wr S x0 (.bytes nm)):=r0
    clear r0
    obtain ⟨xa,xc,rfl⟩:=RdV.sliceB RS.out
    have HSZ : Hid _:=szEntry_d _ ⟨nm,p,q,d⟩ S t wr (by omega) RS.out
    generalize nm.length = m at hu1 HSZ c0
    clear RS
    have hws:=hbel.size
    by_cases hmt : m ≤ t
    ·have hl : leftT m t = (t : Int) - m:=by unfold leftT; rw [if_pos hmt]
     rw [hl] at HSZ
     have HF : Hid (t - m + (n + P (j + 1)) = s):=by show _ = _; have:=HS.out; omega
     clear hl hu1 hu2 HS
     go_wp2_with fail
     refine Calls.mono HSZ.out ?_
     rintro e w2 ⟨rfl,hb2⟩
     go_wp2
     go_roundw
     case rel => exact ⟨j + 1,t - m,by omega,by go_num,by go_num,by omega,HF,hbel.trans (hb2.mono hws)⟩
     case measure => simp [intOf]; omega
    ·have hl : leftT m t = -1:=by unfold leftT; rw [if_neg hmt]
     rw [hl] at HSZ
     have HF : Hid (leftT (n + P n) s = -1):=by show _ = _; unfold leftT; rw [if_neg (by have:=HS.out; omega)]
     clear hl hu1 hu2 HS
     go_wp2_with fail
     refine Calls.mono HSZ.out ?_
     rintro e w2 ⟨rfl,hb2⟩
     go_wp2
     go_ret
     exact ⟨by rw [HF.out]; rfl,hbel.trans (hb2.mono hws)⟩
   ·have hjn : j = n:=by omega
    subst hjn
    have HF : Hid (leftT (j + P j) s = (t : Int)):=by have:=HS.out; show _ = _; unfold leftT; rw [if_pos (by omega)]; omega
    go_wp2
    go_ret
    exact ⟨by rw [HF.out]; rfl,hbel⟩
 ·have HF : Hid (leftT (n + P n) s = -1):=by show _ = _; unfold leftT; rw [if_neg (by omega)]
  clear HU HR
  go_enter Tryz.func48,Tryz.ntmps48
  go_wp2
  go_ret
  exact ⟨by rw [HF.out]; rfl,Below.refl _ _⟩

set_option maxHeartbeats 2000000 in
theorem szOp_d (x y : Value) (o : OpD) (S : Nat → Prop) (s : Nat) (w : World) (hs : s ≤ 1048576) (r : RdV w S x (.bytes o.nm)) (r2 : RdV w S y (.bytes o.asn)) :
  Calls Tryz.prog 26 #[opV o x y,.i s] w fun e w' => e = .returned (.i (leftT (o.nm.length + o.asn.length) s)) ∧ Below w.heap.size w w':=by
 obtain ⟨a,cap,rfl⟩:=r.sliceB
 obtain ⟨a2,cap2,rfl⟩:=r2.sliceB
 obtain ⟨kd,⟨p,q,d⟩,nm,⟨p2,q2,d2⟩,asn,vl⟩:=o
 dsimp only at r r2 ⊢
 have HS : Hid (∀ W,Below w.heap.size w W → _):=fun W hW => szByteS_d _ nm S s W (r.step hW) hs
 have HS2 : Hid (∀ t W,t ≤ 1048576 → Below w.heap.size w W → _):=fun t W ht hW => szByteS_d _ asn S t W (r2.step hW) ht
 clear r r2
 generalize nm.length = n at HS ⊢
 generalize asn.length = m at HS2 ⊢
 by_cases hle : n ≤ s
 ·have hl : leftT n s = ((s - n : Nat) : Int):=by unfold leftT; rw [if_pos hle]; omega
  rw [hl] at HS
  have HS3:=HS2.out (s - n)
  generalize hq : s - n = t at HS HS3
  have HQ : Hid _:=hq
  have hts : t ≤ 1048576:=by omega
  clear hl HS2 hq
  by_cases hle2 : m ≤ t
  ·have hl : leftT m t = ((t - m : Nat) : Int):=by unfold leftT; rw [if_pos hle2]; omega
   rw [hl] at HS3
   have HF : Hid (leftT (n + m) s = ((t - m : Nat) : Int)):=by have:=HQ.out; show _ = _; unfold leftT; rw [if_pos (by omega)]; omega
   have HS4 : Hid _:=HS3
   clear HS3 hl
   generalize t - m = z at HS4 HF
   rw [HF.out]
   go_enter Tryz.func26,Tryz.ntmps26
   go_wp2_with fail
   refine Calls.mono (HS.out _ (Below.newH _)) ?_
   rintro e w2 ⟨rfl,b_⟩
   have vA:=VarA.step (VarA.new w _ _) b_
   have HB : Hid _:=(Below.newH (w:=w) _).trans (b_.mono (by simp))
   clear b_
   obtain ⟨a0_,a1_,a2_,a3_,a4_,a5_,a6_,a7_,a8_,a9_⟩:=vA.l10
   go_wp2_with fail
   refine Calls.mono (HS4.out _ hts HB.out) ?_
   rintro e w3 ⟨rfl,b_⟩
   go_wp2
   go_ret
   exact ⟨rfl,HB.out.trans (b_.mono HB.out.size)⟩
  ·have hl : leftT m t = -1:=by unfold leftT; rw [if_neg hle2]
   rw [hl] at HS3
   have HF : Hid (leftT (n + m) s = -1):=by have:=HQ.out; show _ = _; unfold leftT; rw [if_neg (by omega)]
   have HS4 : Hid _:=HS3
   clear HS3 hl
   rw [HF.out]
   go_enter Tryz.func26,Tryz.ntmps26
   go_wp2_with fail
   refine Calls.mono (HS.out _ (Below.newH _)) ?_
   rintro e w2 ⟨rfl,b_⟩
   have vA:=VarA.step (VarA.new w _ _) b_
   have HB : Hid _:=(Below.newH (w:=w) _).trans (b_.mono (by simp))
   clear b_
   obtain ⟨a0_,a1_,a2_,a3_,a4_,a5_,a6_,a7_,a8_,a9_⟩:=vA.l10
   go_wp2_with fail
   refine Calls.mono (HS4.out _ hts HB.out) ?_
   rintro e w3 ⟨rfl,b_⟩
   go_wp2
   go_ret
   exact ⟨rfl,HB.out.trans (b_.mono HB.out.size)⟩
 ·have hl : leftT n s = -1:=by unfold leftT; rw [if_neg hle]
  rw [hl] at HS
  have HF : Hid (leftT (n + m) s = -1):=by show _ = _; unfold leftT; rw [if_neg (by omega)]
  clear hl HS2
  rw [HF.out]
  go_enter Tryz.func26,Tryz.ntmps26
  go_wp2_with fail
  refine Calls.mono (HS.out _ (Below.newH _)) ?_
  rintro e w2 ⟨rfl,b_⟩
  go_wp2
  go_ret
  exact ⟨rfl,(Below.newH (w:=w) _).trans (b_.mono (by simp))⟩
end
section
theorem conv_any (a : Option Addr) (xs : List Int) (len cap : Nat) (w : World) (hx : Reads w a xs) (hl : len = xs.length) : (convert 39 9 (.slice a len cap)).run Tryz.prog w = .ok (.string (strOfNums xs)) w:=by
 subst hl
 cases a with
 | none =>
  rcases hx.2 with rfl | ⟨b,off,ha,_⟩
  ·exact run_convert_bytes_nil w 39 5 Tryz.underlying39 Tryz.underlying5 _ _ 9 Tryz.underlying9
  ·cases ha
 | some ad =>
  by_cases h0 : xs = []
  ·subst h0
   rw [run_convert_bytes_string w 39 9 5 _ _ cap Tryz.underlying39 Tryz.underlying5 Tryz.underlying9]
   have hld : (loadCells ad 0).run Tryz.prog w = .ok (([] : List Int).map (Value.int .u8)).toArray w:=by
    have:=run_loadCells_list (P:=Tryz.prog) w ad [] (fun j v hj => by simp at hj)
    simpa using this
   rw [List.length_nil,run_bytesToString w ad 0 cap [] hld]
   rfl
  ·rcases hx.2 with h1 | ⟨b,off,ha,hb,hc⟩
   ·exact absurd h1 h0
   ·cases ha
    exact run_convert_bytes_arg w 39 5 Tryz.underlying39 Tryz.underlying5 b off xs.length cap xs rfl (fun i hi => by rw [hc i hi]; simp) 9 Tryz.underlying9
end
section
open Go.RowKit Go.Lib
theorem bytes_inj : ∀ (xs ys : List Int),isBytes xs → isBytes ys → bytesOf xs = bytesOf ys → xs = ys:=by
 intro xs
 induction xs with
 | nil => intro ys _ _ h; cases ys with
  | nil => rfl
  | cons y r => simp [bytesOf] at h
 | cons x r ih =>
  intro ys hx hy h
  cases ys with
  | nil => simp [bytesOf] at h
  | cons y s =>
   have h0:=hx 0
   have k0:=hy 0
   simp only [List.getElem?_cons_zero,Option.getD_some] at h0 k0
   simp only [bytesOf,List.map_cons,List.cons.injEq] at h
   have e : x = y:=by
    have h1:=congrArg UInt8.toNat h.1
    simp only [UInt8.toNat_ofNat'] at h1
    omega
   subst e
   rw [ih s (fun j => by have:=hx (j + 1); simpa using this) (fun j => by have:=hy (j + 1); simpa using this) h.2]
theorem str_eq (xs ys : List Int) (hx : isBytes xs) (hy : isBytes ys) : ((strOfNums xs).toList == (strOfNums ys).toList) = decide (xs = ys):=by
 rw [strOfNums_toList,strOfNums_toList]
 by_cases h : xs = ys
 ·subst h; simp
 ·simp only [h,decide_false]
  exact beq_eq_false_iff_ne.2 (fun e => h (bytes_inj xs ys hx hy e))
end
section
structure Cls (w : World) where
 W : World
 h : Below w.heap.size w W
theorem Cls.ne (w : World) : Nonempty (Cls w):=⟨⟨w,Below.refl _ _⟩⟩
theorem wp_region_cls {P : Program} {id : Nat} {Q : Exit → Act → World → Prop} {a : Act} {w : World} {l : List Oper} (hm : P.follows .mixedOrders = true) (hB : Region.lexB .any l.toArray = true)
  (h : wpQuiet P l.toArray (fun w' => ∃ i : Cls w,w' = i.W) (fun a' => ∀ w',(∃ i : Cls w,w' = i.W) → Q .normal a' w') l a) : (Code.region id l.toArray true).wp P Q a w:=
 wp_region_quiet (C:=fun w' => ∃ i : Cls w,w' = i.W) hm hB ⟨⟨{ w with drawn:=w.drawn + 1 },⟨rfl,rfl,rfl,Nat.le_refl _,fun _ _ => rfl⟩⟩,rfl⟩ (by simpa using h)
theorem Calls.cls {P : Program} {f : FuncId} {args : Array Value} {w : World} {i : Cls w} {v : Value} (h : Calls P f args i.W fun e w' => e = .returned v ∧ Below i.W.heap.size i.W w') :
  Calls P f args i.W fun e w'' => e = .returned v ∧ ∃ j : Cls w,w'' = j.W:=
 h.mono fun _ w' ⟨he,hb⟩ => ⟨he,⟨w',i.h.trans (hb.mono i.h.size)⟩,rfl⟩
theorem Calls.cls_same {P : Program} {f : FuncId} {args : Array Value} {w : World} {i : Cls w} {v : Value} (h : Calls P f args i.W fun e w' => e = .returned v ∧ w' = i.W) :
  Calls P f args i.W fun e w'' => e = .returned v ∧ ∃ j : Cls w,w'' = j.W:=
 h.mono fun _ w' ⟨he,hb⟩ => ⟨he,i,hb⟩
theorem Calls.cls_new {P : Program} {f : FuncId} {args : Array Value} {w : World} {i : Cls w} {v : Value} {o : Obj} (h : Calls P f args i.W fun e w' => e = .returned v ∧ w' = i.W.alloc o) :
  Calls P f args i.W fun e w'' => e = .returned v ∧ ∃ j : Cls w,w'' = j.W:=
 h.mono fun _ w' ⟨he,hb⟩ => ⟨he,⟨w',by rw [hb]; exact i.h.alloc i.h.size _⟩,rfl⟩
theorem Cls.cell {w : World} {b o : Nat} {u : Value} (hb : b < w.heap.size) (h : w.cell? ⟨b,o,none⟩ = some u) : ∀ i : Cls w,i.W.cell? ⟨b,o,none⟩ = some u:=fun i => (i.h.cell (p:=⟨b,o,none⟩) hb).trans h
theorem VarA.set9 {w : World} {b : Nat} {T : TypeId} {x0 x1 x2 x3 x4 x5 x6 x7 x8 y0 y1 y2 y3 y4 y5 y6 y7 y8 : Value} (h : VarA w b T #[x0,x1,x2,x3,x4,x5,x6,x7,x8]) : VarA (((((((((w.setCell ⟨b,0,none⟩ y0).setCell ⟨b,1,none⟩ y1).setCell ⟨b,2,none⟩ y2).setCell ⟨b,3,none⟩ y3).setCell ⟨b,4,none⟩ y4).setCell ⟨b,5,none⟩ y5).setCell ⟨b,6,none⟩ y6).setCell ⟨b,7,none⟩ y7).setCell ⟨b,8,none⟩ y8) b T #[y0,y1,y2,y3,y4,y5,y6,y7,y8]:=by
 have h2:=(((((((((h.set 0 y0).set 1 y1).set 2 y2).set 3 y3).set 4 y4).set 5 y5).set 6 y6).set 7 y7).set 8 y8)
 simpa using h2
theorem VarA.aside9 {w : World} {b c : Nat} {T : TypeId} {cs : Array Value} {y0 y1 y2 y3 y4 y5 y6 y7 y8 : Value} (h : VarA w b T cs) (hc : b ≠ c) : VarA (((((((((w.setCell ⟨c,0,none⟩ y0).setCell ⟨c,1,none⟩ y1).setCell ⟨c,2,none⟩ y2).setCell ⟨c,3,none⟩ y3).setCell ⟨c,4,none⟩ y4).setCell ⟨c,5,none⟩ y5).setCell ⟨c,6,none⟩ y6).setCell ⟨c,7,none⟩ y7).setCell ⟨c,8,none⟩ y8) b T cs:=(((((((((h.aside (p:=⟨c,0,none⟩) hc y0).aside (p:=⟨c,1,none⟩) hc y1).aside (p:=⟨c,2,none⟩) hc y2).aside (p:=⟨c,3,none⟩) hc y3).aside (p:=⟨c,4,none⟩) hc y4).aside (p:=⟨c,5,none⟩) hc y5).aside (p:=⟨c,6,none⟩) hc y6).aside (p:=⟨c,7,none⟩) hc y7).aside (p:=⟨c,8,none⟩) hc y8)
theorem Below.set9 {B : Nat} {a w : World} {c : Nat} {y0 y1 y2 y3 y4 y5 y6 y7 y8 : Value} (h : Below B a w) (hc : B ≤ c) : Below B a (((((((((w.setCell ⟨c,0,none⟩ y0).setCell ⟨c,1,none⟩ y1).setCell ⟨c,2,none⟩ y2).setCell ⟨c,3,none⟩ y3).setCell ⟨c,4,none⟩ y4).setCell ⟨c,5,none⟩ y5).setCell ⟨c,6,none⟩ y6).setCell ⟨c,7,none⟩ y7).setCell ⟨c,8,none⟩ y8):=(((((((((h.setCell (p:=⟨c,0,none⟩) hc y0).setCell (p:=⟨c,1,none⟩) hc y1).setCell (p:=⟨c,2,none⟩) hc y2).setCell (p:=⟨c,3,none⟩) hc y3).setCell (p:=⟨c,4,none⟩) hc y4).setCell (p:=⟨c,5,none⟩) hc y5).setCell (p:=⟨c,6,none⟩) hc y6).setCell (p:=⟨c,7,none⟩) hc y7).setCell (p:=⟨c,8,none⟩) hc y8)
end
section
theorem eqH_run (p q s i : Int) (d e : Bool) (w : World) : (binOp .eql 48 (.agg #[.i p,.i q,.bool d]) (.agg #[.i s,.i i,.bool e])).run Tryz.prog w = .ok (.bool (decide (p = s ∧ q = i ∧ d = e))) w:=by
 by_cases h1 : p = s
 ·subst h1
  by_cases h2 : q = i
  ·subst h2
   by_cases h3 : d = e
   ·subst h3
    simp [go_sem]
   ·have g : (d == e) = false:=by simpa using h3
    simp [go_sem,g,h3]
  ·have g : (q == i) = false:=by simpa using h2
   simp [go_sem,g,h2]
 ·have g : (p == s) = false:=by simpa using h1
  simp [go_sem,g,h1]
theorem neH_run (p q s i : Int) (d e : Bool) (w : World) : (binOp .neq 48 (.agg #[.i p,.i q,.bool d]) (.agg #[.i s,.i i,.bool e])).run Tryz.prog w = .ok (.bool (!decide (p = s ∧ q = i ∧ d = e))) w:=by
 by_cases h1 : p = s
 ·subst h1
  by_cases h2 : q = i
  ·subst h2
   by_cases h3 : d = e
   ·subst h3
    simp [go_sem]
   ·have g : (d == e) = false:=by simpa using h3
    simp [go_sem,g,h3]
  ·have g : (q == i) = false:=by simpa using h2
   simp [go_sem,g,h2]
 ·have g : (p == s) = false:=by simpa using h1
  simp [go_sem,g,h1]
end
section
def isLow (c : Int) : Bool:=decide (97 ≤ c) && decide (c ≤ 122)
def isNm (zs : List Int) : Bool:=(decide (1 ≤ zs.length) && decide (zs.length ≤ 6)) && zs.all isLow
theorem all_take_next (zs : List Int) (k : Nat) (hk : k < zs.length) (h : (zs.take k).all isLow = true) : (isLow (zs[k]?.getD 0) = true → (zs.take (k + 1)).all isLow = true) ∧ (isLow (zs[k]?.getD 0) = false → zs.all isLow = false):=by
  constructor
  · intro hc
    rw [List.take_succ_eq_append_getElem hk,List.all_append,h]
    simp [hk] at hc
    simp [hc]
  · intro hc
    simp [hk] at hc
    rw [List.all_eq_false]
    exact ⟨zs[k],List.getElem_mem hk,by simp [hc]⟩

set_option maxHeartbeats 1000000 in
theorem specName_any (v : Value) (zs : List Int) (S : Nat → Prop) (w : World) (r : RdV w S v (.bytes zs)) (hl : zs.length ≤ 2097152) :
    Calls Tryz.prog 54 #[v] w fun e w' => e = .returned (.bool (isNm zs)) ∧ w' = w:=by
  obtain ⟨a,cap,rfl,hh,hb,hc⟩:=r.b.reads
  clear r
  obtain ⟨n,hn⟩ : ∃ n,zs.length = n:=⟨_,rfl⟩
  have HC : Hid _:=hc
  have HN : Hid _:=hn
  have HI : Hid (isNm zs = ((decide (1 ≤ n) && decide (n ≤ 6)) && zs.all isLow)):=by show _ = _; unfold isNm; rw [hn]
  rw [hn] at hl ⊢
  rw [HI.out]
  clear hc hn hh hb HI
  by_cases h0 : 1 ≤ n
  case neg =>
    have e1 : decide (1 ≤ n) = false:=by simpa using h0
    rw [e1]
    go_enter Tryz.func54,Tryz.ntmps54
    go_wp2
    go_ret
    exact ⟨by simp,rfl⟩
  by_cases h6 : n ≤ 6
  case neg =>
    have e1 : decide (n ≤ 6) = false:=by simpa using h6
    rw [e1]
    go_enter Tryz.func54,Tryz.ntmps54
    go_wp2
    go_ret
    exact ⟨by simp,rfl⟩
  have e1 : decide (1 ≤ n) = true:=by simpa using h0
  have e2 : decide (n ≤ 6) = true:=by simpa using h6
  rw [e1,e2]
  clear e1 e2
  go_enter Tryz.func54,Tryz.ntmps54
  go_wp2
  go_loop [3] (fun i => ∃ k : Nat,k ≤ n ∧ i = .i k ∧ Hid ((zs.take k).all isLow = true)) (fun i => n - (intOf i).toNat)
  case atStart => exact ⟨0,Nat.zero_le _,rfl,by show _ = _; simp⟩
  case round =>
    obtain ⟨k,hk,rfl,HA⟩:=hrel
    by_cases hlt : k < n
    · obtain ⟨b,off,rfl,hbl,hcell⟩:=HC.out.resolve_left (fun e => by have:=HN.out; rw [e] at this; simp at this; omega)
      have c1:=hcell k (by rw [HN.out]; exact hlt)
      have HST : Hid _:=all_take_next zs k (by rw [HN.out]; exact hlt) HA.out
      generalize zs[k]?.getD 0 = c at c1 HST
      clear hcell HA
      go_wp2
      all_goals first
        | (go_ret
           exact ⟨by rw [HST.out.2 (by simp [isLow]; omega)]; rfl,rfl⟩)
        | (go_round
           case rel => exact ⟨k + 1,by omega,by go_num,HST.out.1 (by simp [isLow]; omega)⟩
           case measure => simp [intOf]; omega)
    · have he : k = n:=by omega
      subst he
      have HF : Hid (zs.all isLow = true):=by
        have:=HA.out
        rwa [List.take_of_length_le (by rw [HN.out]; exact Nat.le_refl _)] at this
      go_wp2
      go_ret
      exact ⟨by rw [HF.out]; rfl,rfl⟩

set_option maxHeartbeats 1000000 in
theorem implName_any (v : Value) (zs : List Int) (S : Nat → Prop) (w : World) (r : RdV w S v (.bytes zs)) (hl : zs.length ≤ 2097152) :
    Calls Tryz.prog 117 #[v] w fun e w' => e = .returned (.bool (isNm zs)) ∧ w' = w:=by
  obtain ⟨a,cap,rfl,hh,hb,hc⟩:=r.b.reads
  clear r
  obtain ⟨n,hn⟩ : ∃ n,zs.length = n:=⟨_,rfl⟩
  have HC : Hid _:=hc
  have HN : Hid _:=hn
  have HI : Hid (isNm zs = ((decide (1 ≤ n) && decide (n ≤ 6)) && zs.all isLow)):=by show _ = _; unfold isNm; rw [hn]
  rw [hn] at hl ⊢
  rw [HI.out]
  clear hc hn hh hb HI
  by_cases h0 : 1 ≤ n
  case neg =>
    have e1 : decide (1 ≤ n) = false:=by simpa using h0
    rw [e1]
    go_enter Tryz.func117,Tryz.ntmps117
    go_wp2
    go_ret
    exact ⟨by simp,rfl⟩
  by_cases h6 : n ≤ 6
  case neg =>
    have e1 : decide (n ≤ 6) = false:=by simpa using h6
    rw [e1]
    go_enter Tryz.func117,Tryz.ntmps117
    go_wp2
    go_ret
    exact ⟨by simp,rfl⟩
  have e1 : decide (1 ≤ n) = true:=by simpa using h0
  have e2 : decide (n ≤ 6) = true:=by simpa using h6
  rw [e1,e2]
  clear e1 e2
  go_enter Tryz.func117,Tryz.ntmps117
  go_wp2
  go_loop [15] (fun i => ∃ k : Nat,k ≤ n ∧ i = .i k ∧ Hid ((zs.take k).all isLow = true)) (fun i => n - (intOf i).toNat)
  case atStart => exact ⟨0,Nat.zero_le _,rfl,by show _ = _; simp⟩
  case round =>
    obtain ⟨k,hk,rfl,HA⟩:=hrel
    by_cases hlt : k < n
    · obtain ⟨b,off,rfl,hbl,hcell⟩:=HC.out.resolve_left (fun e => by have:=HN.out; rw [e] at this; simp at this; omega)
      have c1:=hcell k (by rw [HN.out]; exact hlt)
      have HST : Hid _:=all_take_next zs k (by rw [HN.out]; exact hlt) HA.out
      generalize zs[k]?.getD 0 = c at c1 HST
      clear hcell HA
      go_wp2
      all_goals first
        | (go_ret
           exact ⟨by rw [HST.out.2 (by simp [isLow]; omega)]; rfl,rfl⟩)
        | (go_round
           case rel => exact ⟨k + 1,by omega,by go_num,HST.out.1 (by simp [isLow]; omega)⟩
           case measure => simp [intOf]; omega)
    · have he : k = n:=by omega
      subst he
      have HF : Hid (zs.all isLow = true):=by
        have:=HA.out
        rwa [List.take_of_length_le (by rw [HN.out]; exact Nat.le_refl _)] at this
      go_wp2
      go_ret
      exact ⟨by rw [HF.out]; rfl,rfl⟩
end
section
def num (n : Int) : Bool:=decide (0 ≤ n) && decide (n ≤ 2147483647)
def TOk (t : TxD) : Bool:=(decide (0 ≤ t.1) && decide (t.1 < 4)) && (num t.2.1 && num t.2.2)
end
section
def POk (p : PtD) : Bool:=
 if p.kind = 0 then HOk p.h && (decide (p.asn.length = 0) && decide (p.to = hd0))
 else if p.kind = 1 then (HOk p.h && !p.h.dir) && (decide (p.asn.length = 0) && decide (p.to = hd0))
 else if p.kind = 2 then ((decide (0 ≤ p.h.sh) && decide (p.h.sh < 4)) && decide (p.h.ino = 0)) && (decide (p.asn.length = 0) && (HOk p.to && p.to.dir))
 else if p.kind = 3 then (HOk p.h && p.h.dir) && (isNm p.asn && HOk p.to)
 else if p.kind = 4 then (HOk p.h && p.h.dir) && (decide (p.asn.length = 0) && (HOk p.to && p.to.dir))
 else if p.kind = 5 then decide (p.h = hd0) && (decide (p.asn.length = 0) && decide (p.to = hd0))
 else false
theorem Below.al {a b : World} (h : Below a.heap.size a b) (o : Obj) : Below a.heap.size a (b.alloc o):=h.alloc h.size _
end
section
theorem wpList_loadR {ty t' : TypeId} {dst : Option Tmp} {x : Operand} {pos : String} {af : Array Edge} {ops : Array Oper} {rest : List Oper} {a : Act} {Q : Exit → Act → World → Prop} {w : World} {g off : Nat} {vs : List Value} {d : TypeDesc}
  (hr : w.rangeAt g off vs) (hx : a.eval x = .pointer (some ⟨g,off,none⟩)) (hu : Tryz.prog.underlying ty = some d) (hd : d.isRow = true) (hi : (Tryz.prog.info? ty).map (·.size) = some vs.length)
  (hK : wpList Tryz.prog ops Q rest (a.put dst (.agg vs.toArray)) w) :
  wpList Tryz.prog ops Q (⟨dst,.load ty x,t',pos,af,none⟩ :: rest) a w:=by
 refine wpList_plain rfl fun K' hK' => ?_
 unfold Oper.wp execOp
 simp only [hx,Sem.run_bind,run_loadAt_mid w g off ty vs d hr hu hd hi,Sem.run_pure,Result.andThen_ok]
 exact hK' _ _ hK
theorem wpList_storeR {ty t' : TypeId} {dst : Option Tmp} {x y : Operand} {pos : String} {af : Array Edge} {ops : Array Oper} {rest : List Oper} {a : Act} {Q : Exit → Act → World → Prop} {w : World} {g off : Nat} {vs : Array Value}
  (ht : w.there g off vs.size) (hx : a.eval x = .pointer (some ⟨g,off,none⟩)) (hy : a.eval y = .agg vs) (hi : (Tryz.prog.info? ty).map (·.size) = some vs.size) (h1 : vs.toList.all (·.oneCell') = true)
  (hK : ∀ w',w' = w.setCells g off vs.toList → wpList Tryz.prog ops Q rest (a.put dst undef) w') :
  wpList Tryz.prog ops Q (⟨dst,.store ty x y,t',pos,af,none⟩ :: rest) a w:=by
 refine wpList_plain rfl fun K' hK' => ?_
 unfold Oper.wp execOp
 simp only [hx,hy,Sem.run_bind,run_storeAt_mid w g off ty vs ht hi (by rw [← Array.all_toList]; exact h1),Sem.run_pure,Result.andThen_ok]
 exact hK' _ _ (hK _ rfl)
theorem wpQuiet_loadR {ty t' : TypeId} {dst : Option Tmp} {x : Operand} {pos : String} {af : Array Edge} {gd : Option (Nat × Bool)} {ops : Array Oper} {rest : List Oper} {a : Act} {Q : Act → Prop} {C : World → Prop} {g off : Nat} {vs : List Value} {d : TypeDesc}
  (hv : ∀ w,C w → w.rangeAt g off vs) (hw : Region.wanted ⟨dst,.load ty x,t',pos,af,gd⟩ (yielded ops a.tmps) = true) (hx : a.eval x = .pointer (some ⟨g,off,none⟩)) (hu : Tryz.prog.underlying ty = some d) (hd : d.isRow = true) (hi : (Tryz.prog.info? ty).map (·.size) = some vs.length)
  (h : wpQuiet Tryz.prog ops C Q rest (a.put dst (.agg vs.toArray))) :
  wpQuiet Tryz.prog ops C Q (⟨dst,.load ty x,t',pos,af,gd⟩ :: rest) a:=
 BigFrame.wpQuiet_want hw fun K hK => ⟨.agg vs.toArray,fun w hC => by
  unfold Oper.quietAt execOp
  simp only [hx,Sem.run_bind,run_loadAt_mid w g off ty vs d (hv w hC) hu hd hi,Sem.run_pure,Result.andThen_ok]
  exact ⟨rfl,rfl⟩,hK _ h⟩
theorem rangeAt_below {w w' : World} {b o : Nat} {vs : List Value} (h : w.rangeAt b o vs) (hb : Below w.heap.size w w') (hlt : b < w.heap.size) : w'.rangeAt b o vs:=fun j v hj => (hb.cell (p:=⟨b,o + j,none⟩) hlt).trans (h j v hj)
end
section
structure DdD where
 tm : Int
 cl : Int
 rq : Int
 op : OpD
 rp : RpD
def dd0 : DdD:=⟨0,0,0,⟨0,hd0,[],hd0,[],0⟩,rp0⟩
def ddCell (e : DdD) : Nat → Dt
 | 0 => .int e.tm
 | 1 => .int e.cl
 | 2 => .int e.rq
 | 3 => .int e.op.kind
 | 4 => .int e.op.dir.sh
 | 5 => .int e.op.dir.ino
 | 6 => .bool e.op.dir.dir
 | 7 => (.bytes e.op.nm)
 | 8 => .int e.op.to.sh
 | 9 => .int e.op.to.ino
 | 10 => .bool e.op.to.dir
 | 11 => (.bytes e.op.asn)
 | 12 => .int e.op.val
 | 13 => .int e.rp.code
 | 14 => .int e.rp.h.sh
 | 15 => .int e.rp.h.ino
 | 16 => .bool e.rp.h.dir
 | 17 => .int e.rp.val
 | _ => (ensDt e.rp.list)
def ddsDt (l : List DdD) : Dt:=.rows 55 19 l.length (fun i j => ddCell (l[i]?.getD dd0) j)
abbrev ddV (e : DdD) (x y z : Value) : Value:=.agg #[.i e.tm,.i e.cl,.i e.rq,.i e.op.kind,.i e.op.dir.sh,.i e.op.dir.ino,.bool e.op.dir.dir,x,.i e.op.to.sh,.i e.op.to.ino,.bool e.op.to.dir,y,.i e.op.val,.i e.rp.code,.i e.rp.h.sh,.i e.rp.h.ino,.bool e.rp.h.dir,.i e.rp.val,z]
def szDd (e : DdD) : Nat:=e.op.nm.length + e.op.asn.length + szEns e.rp.list
def szDds (l : List DdD) : Nat:=l.length + (l.map (fun e => szDd e)).sum
theorem szDds_at (l : List DdD) (i : Nat) : szDd (l[i]?.getD dd0) ≤ szDds l:=by
 cases h : l[i]? with
 | none => simp [dd0,rp0,szDd,szEns]
 | some a => have:=sum_at (fun e : DdD => szDd e) l i a h; simp [szDds]; omega
def RdD_ (w : World) (S : Nat → Prop) (e : DdD) (x y z : Value) : Prop:=RdV w S x (.bytes e.op.nm) ∧ RdV w S y (.bytes e.op.asn) ∧ RdV w S z (ensDt e.rp.list)
theorem RdD_.step {w w' : World} {S : Nat → Prop} {e : DdD} {x y z : Value} (r : RdD_ w S e x y z) (hb : Below w.heap.size w w') : RdD_ w' S e x y z:=⟨r.1.step hb,r.2.1.step hb,r.2.2.step hb⟩
theorem VarA.k19 {w : World} {b : Nat} {T : TypeId} {x0 x1 x2 x3 x4 x5 x6 x7 x8 x9 x10 x11 x12 x13 x14 x15 x16 x17 x18 : Value} (h : VarA w b T #[x0,x1,x2,x3,x4,x5,x6,x7,x8,x9,x10,x11,x12,x13,x14,x15,x16,x17,x18]) : w.cell? ⟨b,0,none⟩ = some x0 ∧ w.cell? ⟨b,1,none⟩ = some x1 ∧ w.cell? ⟨b,2,none⟩ = some x2 ∧ w.cell? ⟨b,3,none⟩ = some x3 ∧ w.cell? ⟨b,4,none⟩ = some x4 ∧ w.cell? ⟨b,5,none⟩ = some x5 ∧ w.cell? ⟨b,6,none⟩ = some x6 ∧ w.cell? ⟨b,7,none⟩ = some x7 ∧ w.cell? ⟨b,8,none⟩ = some x8 ∧ w.cell? ⟨b,9,none⟩ = some x9 ∧ w.cell? ⟨b,10,none⟩ = some x10 ∧ w.cell? ⟨b,11,none⟩ = some x11 ∧ w.cell? ⟨b,12,none⟩ = some x12 ∧ w.cell? ⟨b,13,none⟩ = some x13 ∧ w.cell? ⟨b,14,none⟩ = some x14 ∧ w.cell? ⟨b,15,none⟩ = some x15 ∧ w.cell? ⟨b,16,none⟩ = some x16 ∧ w.cell? ⟨b,17,none⟩ = some x17 ∧ w.cell? ⟨b,18,none⟩ = some x18:=⟨h.c 0 rfl,h.c 1 rfl,h.c 2 rfl,h.c 3 rfl,h.c 4 rfl,h.c 5 rfl,h.c 6 rfl,h.c 7 rfl,h.c 8 rfl,h.c 9 rfl,h.c 10 rfl,h.c 11 rfl,h.c 12 rfl,h.c 13 rfl,h.c 14 rfl,h.c 15 rfl,h.c 16 rfl,h.c 17 rfl,h.c 18 rfl⟩
theorem ddAt {w : World} {S : Nat → Prop} {b o : Nat} {e : DdD} (hx : ∀ j,j < 19 → ∃ x,w.cell? ⟨b,o + j,none⟩ = some x ∧ RdV w S x (ddCell e j)) :
  ∃ x y z,w.rangeAt b o (ddV e x y z).cells.toList ∧ RdD_ w S e x y z:=by
 obtain ⟨at_,cl,rq,⟨ok,⟨op_,oq,od⟩,nm,⟨tp,tq,td⟩,asn,ov⟩,⟨rc,⟨rp_,rq_,rd⟩,rv,es⟩⟩:=e
 obtain ⟨x0,c0,r0⟩:=hx 0 (by omega)
 obtain ⟨x1,c1,r1⟩:=hx 1 (by omega)
 obtain ⟨x2,c2,r2⟩:=hx 2 (by omega)
 obtain ⟨x3,c3,r3⟩:=hx 3 (by omega)
 obtain ⟨x4,c4,r4⟩:=hx 4 (by omega)
 obtain ⟨x5,c5,r5⟩:=hx 5 (by omega)
 obtain ⟨x6,c6,r6⟩:=hx 6 (by omega)
 obtain ⟨x7,c7,r7⟩:=hx 7 (by omega)
 obtain ⟨x8,c8,r8⟩:=hx 8 (by omega)
 obtain ⟨x9,c9,r9⟩:=hx 9 (by omega)
 obtain ⟨x10,c10,r10⟩:=hx 10 (by omega)
 obtain ⟨x11,c11,r11⟩:=hx 11 (by omega)
 obtain ⟨x12,c12,r12⟩:=hx 12 (by omega)
 obtain ⟨x13,c13,r13⟩:=hx 13 (by omega)
 obtain ⟨x14,c14,r14⟩:=hx 14 (by omega)
 obtain ⟨x15,c15,r15⟩:=hx 15 (by omega)
 obtain ⟨x16,c16,r16⟩:=hx 16 (by omega)
 obtain ⟨x17,c17,r17⟩:=hx 17 (by omega)
 obtain ⟨x18,c18,r18⟩:=hx 18 (by omega)
 obtain rfl : x0 = .i at_:=r0
 obtain rfl : x1 = .i cl:=r1
 obtain rfl : x2 = .i rq:=r2
 obtain rfl : x3 = .i ok:=r3
 obtain rfl : x4 = .i op_:=r4
 obtain rfl : x5 = .i oq:=r5
 obtain rfl : x6 = .bool od:=r6
 obtain rfl : x8 = .i tp:=r8
 obtain rfl : x9 = .i tq:=r9
 obtain rfl : x10 = .bool td:=r10
 obtain rfl : x12 = .i ov:=r12
 obtain rfl : x13 = .i rc:=r13
 obtain rfl : x14 = .i rp_:=r14
 obtain rfl : x15 = .i rq_:=r15
 obtain rfl : x16 = .bool rd:=r16
 obtain rfl : x17 = .i rv:=r17
 refine ⟨x7,x11,x18,fun j v hj => ?_,r7,r11,r18⟩
 match j with
 | 0 => exact c0.trans hj
 | 1 => exact c1.trans hj
 | 2 => exact c2.trans hj
 | 3 => exact c3.trans hj
 | 4 => exact c4.trans hj
 | 5 => exact c5.trans hj
 | 6 => exact c6.trans hj
 | 7 => exact c7.trans hj
 | 8 => exact c8.trans hj
 | 9 => exact c9.trans hj
 | 10 => exact c10.trans hj
 | 11 => exact c11.trans hj
 | 12 => exact c12.trans hj
 | 13 => exact c13.trans hj
 | 14 => exact c14.trans hj
 | 15 => exact c15.trans hj
 | 16 => exact c16.trans hj
 | 17 => exact c17.trans hj
 | 18 => exact c18.trans hj
 | n + 19 => simp [Value.cells] at hj
end
section
def frD (e : DdD) : Hd:=if e.rp.code = 0 then e.rp.h else (e.op.to.sh,2147483647,e.op.to.dir)
set_option maxHeartbeats 2000000 in
theorem fresh_any (x y z : Value) (e : DdD) (S : Nat → Prop) (w : World) (r : RdD_ w S e x y z) :
  Calls Tryz.prog 68 #[ddV e x y z] w fun q w' => q = .returned (frD e).v ∧ Below w.heap.size w w':=by
 obtain ⟨r1,r2,r3⟩:=r
 obtain ⟨a1,cap1,rfl⟩:=r1.sliceB
 obtain ⟨a2,cap2,rfl⟩:=r2.sliceB
 obtain ⟨a3,cap3,rfl,_⟩:=RdV.sliced r3
 obtain ⟨at_,cl,rq,⟨ok,⟨op_,oq,od⟩,nm,⟨tp,tq,td⟩,asn,ov⟩,⟨rc,⟨rp_,rq_,rd⟩,rv,es⟩⟩:=e
 clear r1 r2 r3
 dsimp only
 generalize nm.length = n1
 generalize asn.length = n2
 generalize es.length = n3
 by_cases h : rc = 0
 ·obtain ⟨res,hres⟩ : ∃ t,(frD ⟨at_,cl,rq,⟨ok,(op_,oq,od),nm,(tp,tq,td),asn,ov⟩,⟨rc,(rp_,rq_,rd),rv,es⟩⟩).v = t:=⟨_,rfl⟩
  have HRES : Hid (Hd.v (rp_,rq_,rd) = res):=by show _ = _; rw [← hres]; simp only [frD,h,if_true]
  rw [hres]
  clear hres
  subst h
  go_enter Tryz.func68,Tryz.ntmps68
  go_wp2
  refine bodyPost_ret (v:=Hd.v (rp_,rq_,rd)) (by simp [results,Tryz.results68,go_sem]) rfl ⟨by rw [← HRES.out],by repeat (first | exact Below.refl _ _ | refine Below.al ?_ _ | refine below_drewN2 ?_ _ | refine Below.setCell ?_ (by simp <;> omega) _)⟩
 ·obtain ⟨res,hres⟩ : ∃ t,(frD ⟨at_,cl,rq,⟨ok,(op_,oq,od),nm,(tp,tq,td),asn,ov⟩,⟨rc,(rp_,rq_,rd),rv,es⟩⟩).v = t:=⟨_,rfl⟩
  have HRES : Hid (Hd.v (tp,2147483647,td) = res):=by show _ = _; rw [← hres]; simp only [frD,h,if_false]
  rw [hres]
  clear hres
  go_enter Tryz.func68,Tryz.ntmps68
  go_wp2
  refine bodyPost_ret (v:=Hd.v (tp,2147483647,td)) (by simp [results,Tryz.results68,go_sem]) rfl ⟨by rw [← HRES.out],by repeat (first | exact Below.refl _ _ | refine Below.al ?_ _ | refine below_drewN2 ?_ _ | refine Below.setCell ?_ (by simp <;> omega) _)⟩
end
section
set_option maxHeartbeats 4000000 in
theorem implCopyEn_any (v : Value) (l : List En) (S : Nat → Prop) (w : World) (r : RdV w S v (ensDt l)) (hl : szEns l ≤ 2097152) (hn : l.length ≤ 4000) :
    Calls Tryz.prog 99 #[v] w fun e w' => ∃ a n c,e = .returned (.slice a n c) ∧ OwV w' (fun b => w.heap.size ≤ b ∧ b < w'.heap.size) (.slice a n c) (ensDt l) ∧ Below w.heap.size w w':=by
  obtain ⟨a,cap,rfl,_⟩:=RdV.sliced r
  have HR : Hid (∀ W,Below w.heap.size w W → RdV W S (.slice a l.length cap) (ensDt l)):=fun W hW => r.step hW
  have HLN : Hid (∀ k,k < l.length → (l[k]?.getD en0).nm.length ≤ 2097152):=fun k hk => Nat.le_trans (szEns_at l k) hl
  clear r hl
  go_enter Tryz.func99,Tryz.ntmps99
  go_wp2
  go_loopw [3,8] (fun o i wr => ∃ (k : Nat) (ga : Option Addr) (gn gc : Nat),k ≤ l.length ∧ i = .i k ∧ o = .slice ga gn gc ∧ Hid (OwV wr (fun b => w.heap.size ≤ b ∧ b < wr.heap.size) (.slice ga gn gc) (ensDt (l.take k))) ∧ Hid (Below w.heap.size w wr)) (fun _ i _ => l.length - (intOf i).toNat)
  case atStart => exact ⟨0,none,0,0,Nat.zero_le _,rfl,rfl,OwV.nilR _ _ _ _ _,Below.refl _ _⟩
  case round =>
    obtain ⟨k,ga,gn,gc,hk,rfl,rfl,HO,HB⟩:=hrel
    by_cases hlt : k < l.length
    · obtain ⟨b,off,rfl,hbl,hSb,hc⟩:=(HR.out w (Below.refl _ _)).at hlt
      obtain ⟨x0,q0,r0⟩:=hc 0 (by omega)
      obtain ⟨x1,q1,r1⟩:=hc 1 (by omega)
      obtain ⟨x2,q2,r2⟩:=hc 2 (by omega)
      obtain ⟨x3,q3,r3⟩:=hc 3 (by omega)
      have htk : l.take (k + 1) = l.take k ++ [l[k]?.getD en0]:=by rw [List.take_succ_eq_append_getElem hlt]; simp [hlt]
      have hnm:=HLN.out k hlt
      generalize l[k]?.getD en0 = e at r0 r1 r2 r3 htk hnm
      obtain ⟨nm,⟨sh,ino,dr⟩⟩:=e
      obtain rfl : x1 = .i sh:=r1
      obtain rfl : x2 = .i ino:=r2
      obtain rfl : x3 = .bool dr:=r3
      have r0' : RdV w S x0 (.bytes nm):=r0
      obtain ⟨a0,c0,rfl⟩:=r0'.sliceB
      have p0:=(HB.out.cell (p:=⟨b,off + k * 4 + 0,none⟩) hbl).trans q0
      have p1:=(HB.out.cell (p:=⟨b,off + k * 4 + 1,none⟩) hbl).trans q1
      have p2:=(HB.out.cell (p:=⟨b,off + k * 4 + 2,none⟩) hbl).trans q2
      have p3:=(HB.out.cell (p:=⟨b,off + k * 4 + 3,none⟩) hbl).trans q3
      rw [Nat.add_zero] at p0
      have HRB : Hid (∀ W,Below w.heap.size w W → Reads W a0 nm ∧ Headed a0 nm.length c0):=fun W hW => by
        obtain ⟨a',cap',he,hh,hr⟩:=(r0'.step hW).b.reads
        simp only [Value.slice.injEq,true_and] at he
        obtain ⟨rfl,rfl⟩:=he
        exact ⟨hr,hh⟩
      have HZ : Hid (isBytes nm):=r0'.b.1
      have hix : (k : Int) < (l.length : Int):=by omega
      have HTK : Hid _:=htk
      have hsw:=HB.out.size
      clear r0 r0' hc htk q0 q1 q2 q3
      go_wp2
      obtain ⟨w4,hw4⟩ : ∃ W,W = wr.alloc (.cells #[.slice a0 nm.length c0,.i sh,.i ino,.bool dr] 86):=⟨_,rfl⟩
      have b4 : Below wr.heap.size wr w4:=by rw [hw4]; exact Below.newH _
      have V4 : VarA w4 wr.heap.size 86 #[.slice a0 nm.length c0,.i sh,.i ino,.bool dr]:=by rw [hw4]; exact VarA.new _ _ _
      rw [← hw4]
      clear hw4 p0 p1 p2 p3
      have HS : Hid (∀ W,Below w4.heap.size w4 W → W.cell? ⟨wr.heap.size,0,none⟩ = some (.slice a0 nm.length c0) ∧ W.cell? ⟨wr.heap.size,1,none⟩ = some (.i sh) ∧ W.cell? ⟨wr.heap.size,2,none⟩ = some (.i ino) ∧ W.cell? ⟨wr.heap.size,3,none⟩ = some (.bool dr)):=fun W hW => by
        have V:=V4.step hW
        exact ⟨V.c 0 rfl,V.c 1 rfl,V.c 2 rfl,V.c 3 rfl⟩
      refine wp_region_noPanic ?_
      refine wp_region_held_drew (S:=fun w' => w'.cell? ⟨wr.heap.size,0,none⟩ = some (.slice a0 nm.length c0) ∧ w'.cell? ⟨wr.heap.size,1,none⟩ = some (.i sh) ∧ w'.cell? ⟨wr.heap.size,2,none⟩ = some (.i ino) ∧ w'.cell? ⟨wr.heap.size,3,none⟩ = some (.bool dr)) (by kernel_rfl) (HS.out _ (Below.drew (Below.refl w4.heap.size w4))) (fun hHeld => ?_)
      apply tkh 0 _ rfl (by kernel_rfl) rfl (by assumption)
      · (intro _ h; (try dsimp only at h); go_simp; try with_reducible rfl)
      try simp only [qz]
      apply tkh 1 _ rfl (by kernel_rfl) rfl (by assumption)
      · (intro _ h; (try dsimp only at h); go_simp; try with_reducible rfl)
      try simp only [qz]
      apply tkh 2 _ rfl (by kernel_rfl) rfl (by assumption)
      · (intro _ h; (try dsimp only at h); go_simp; try with_reducible rfl)
      try simp only [qz]
      apply tkh 4 _ rfl (by kernel_rfl) rfl (by assumption)
      · (intro _ h; (try dsimp only at h); go_simp; try with_reducible rfl)
      try simp only [qz]
      apply tkh 5 _ rfl (by kernel_rfl) rfl (by assumption)
      · (intro _ h; (try dsimp only at h); go_simp; try with_reducible rfl)
      try simp only [qz]
      refine doH 3 (by kernel_rfl) rfl fun K hK => ?_
      go_simp
      refine Calls.mono (joined_any none a0 [] nm 0 c0 w4.drew (reads_none _ _) (HRB.out _ (HB.out.trans ((b4.trans (Below.mono (Below.drew (Below.refl w4.heap.size w4)) b4.size)).mono HB.out.size))).1 (by simp) hnm) ?_
      rintro e6 w6 ⟨rfl,ho6,bb6,z6⟩
      rw [List.nil_append] at ho6
      dsimp only
      simp only [List.nil_append]
      have b46 : Below w4.heap.size w4 w6:=Below.trans (Below.drew (Below.refl w4.heap.size w4)) bb6
      have b6 : Below wr.heap.size wr w6:=b4.trans (b46.mono b4.size)
      have s6:=b46.size
      refine hK.out _ _ (HS.out _ b46) (fun hHeld => ?_)
      clear hK K
      try simp only [qz]
      apply tkh 6 _ rfl (by kernel_rfl) rfl (by assumption)
      · (intro _ h; (try dsimp only at h); go_simp; try with_reducible rfl)
      try simp only [qz]
      refine doH 7 (by kernel_rfl) rfl fun K hK => ?_
      go_simp
      have b47 : Below w4.heap.size w4 (w6.alloc (.cells #[.slice (some ⟨w4.heap.size,0,none⟩) nm.length nm.length,.i sh,.i ino,.bool dr] 86)):=Below.alloc b46 b46.size _
      have b7 : Below wr.heap.size wr (w6.alloc (.cells #[.slice (some ⟨w4.heap.size,0,none⟩) nm.length nm.length,.i sh,.i ino,.bool dr] 86)):=b4.trans (b47.mono b4.size)
      refine hK.out _ _ (HS.out _ b47) (fun hHeld => ?_)
      clear hK K
      try simp only [qz]
      refine doH 8 (by kernel_rfl) rfl fun K hK => ?_
      refine step_appEn (w6.alloc (.cells #[.slice (some ⟨w4.heap.size,0,none⟩) nm.length nm.length,.i sh,.i ino,.bool dr] 86)) rfl (.tmp 12) (.tmp 19) (by rfl) _ (by rfl) (l.take k) ⟨nm,(sh,ino,dr)⟩ (.slice (some ⟨w4.heap.size,0,none⟩) nm.length nm.length) w.heap.size wr.heap.size w6.heap.size w6.heap.size (by rfl) rfl (0,0) (heap_alloc_new _ _) (OwV.step HO.out b7) (OwV.step (OwV.mono (fun q hq => ⟨by have:=b4.size; have:=hq.1; simp at this; omega,hq.2⟩) (OwV.ofOwns HZ.out ho6)) (Below.newH _)) (by simp) (by have:=b6.size; omega) (by omega) (by rw [List.length_take]; omega) ?_
      intro g8 n8 c8 w8 ho8 t8
      have s8:=t8.size
      rw [World.size_alloc] at s8
      have HB8 : Below w.heap.size w w8:=Turned.below (HB.out.trans (b7.mono HB.out.size)) t8 (by have:=HB.out.size; have:=b6.size; simp; omega) (fun i hi => hi.1)
      have V8:=(V4.step b47).turn t8 (fun e => by have e2 : wr.heap.size < wr.heap.size:=e.2; omega)
      refine hK.out _ _ ⟨V8.c 0 rfl,V8.c 1 rfl,V8.c 2 rfl,V8.c 3 rfl⟩ (fun hHeld => ?_)
      clear hK K
      try simp only [qz]
      apply tkh 9 _ rfl (by kernel_rfl) rfl (by assumption)
      · (intro _ h; (try dsimp only at h); go_simp; try with_reducible rfl)
      try simp only [qz]
      refine wpAnyH_done (by kernel_rfl) (NoPanic.normal ?_) _
      clear hHeld
      rw [← HTK.out] at ho8
      have HO8 : Hid (OwV w8 (fun b => w.heap.size ≤ b ∧ b < w8.heap.size) (.slice g8 n8 c8) (ensDt (l.take (k + 1)))):=ho8
      have HB9 : Hid (Below w.heap.size w w8):=HB8
      clear ho8 HB8 t8 b4 b6 b7 ho6 bb6 V4
      go_wp2
      first
      | exact ⟨⟨k + 1,g8,n8,c8,by omega,by go_num,rfl,HO8,HB9⟩,by simp [intOf]; omega⟩
      | (go_roundw
         case rel => exact ⟨k + 1,g8,n8,c8,by omega,by go_num,rfl,HO8,HB9⟩
         case measure => simp [intOf]; omega)
    · have he : k = l.length:=by omega
      subst he
      rw [List.take_length] at HO
      go_wp2
      go_ret
      exact ⟨_,_,_,rfl,HO.out,HB.out⟩
end
section
theorem OwV.snocNd {w w' : World} {lo hi hi2 g cap : Nat} {v u : Value} {l : List Nd} {e : Nd} (hown : OwV w (fun b => lo ≤ b ∧ b < hi) v (ndsDt l)) (hu : OwV w (fun b => hi ≤ b ∧ b < hi2) u (ensDt e.es)) (h2 : hi2 ≤ w.heap.size) (hh2 : hi ≤ hi2) (hlh : lo ≤ hi)
    (C : List Value) (hC : w.ownsRow 0 77 9 v l.length C) (V : Nat → Nat → Value) (Q : Nat → Nat → Nat → Prop) (hS : ∀ b,v.ownBlock = some b → lo ≤ b ∧ b < hi) (hV : ∀ i j,i < l.length → j < 9 → C[i * 9 + j]? = some (V i j)) (hQ : ∀ i j,i < l.length → j < 9 → OwV w (Q i j) (V i j) (ndCell (l[i]?.getD nd0) j))
    (hq1 : ∀ i j b,i < l.length → j < 9 → Q i j b → (lo ≤ b ∧ b < hi) ∧ v.ownBlock ≠ some b) (hq2 : ∀ i j i' j' b,i < l.length → j < 9 → i' < l.length → j' < 9 → Q i j b → Q i' j' b → i = i' ∧ j = j')
    (ho : w'.ownsRow 0 77 9 (.slice (some ⟨g,0,none⟩) (l.length + 1) cap) (l.length + 1) (C ++ [.i e.h.sh,.i e.h.ino,.bool e.h.dir,.i e.par.sh,.i e.par.ino,.bool e.par.dir,.i e.links,.i e.val,u])) (hg : w.grownBy w' v.ownBlock) (hgg : v.ownBlock = some g ∨ g = w.heap.size) (hgl : g < w'.heap.size) :
    OwV w' (fun b => lo ≤ b ∧ b < w'.heap.size) (.slice (some ⟨g,0,none⟩) (l.length + 1) cap) (ndsDt (l ++ [e])):=by
  have hsz:=hg.size
  have hCl : C.length = l.length * 9:=hC.1
  have hkeep : ∀ (R : Nat → Prop),(∀ b,R b → v.ownBlock ≠ some b) → Keeps R w w':=fun R hR => ⟨hsz,fun b hb hlt => hg.block b hlt (fun h => hR b hb h.symm)⟩
  have hln : (l ++ [e]).length = l.length + 1:=by simp
  unfold ndsDt
  rw [hln]
  refine OwV.mkRows ⟨fun i j => if i < l.length then V i j else ndVal e u j,_,fun i j => if i < l.length then Q i j else if j = 8 then (fun b => hi ≤ b ∧ b < hi2) else (fun _ => False),ho,?_,?_,?_,?_,?_⟩
  · intro b hb
    obtain rfl : g = b:=by simpa [Value.ownBlock] using hb
    rcases hgg with h | h
    · exact ⟨(hS _ h).1,hgl⟩
    · exact ⟨by omega,hgl⟩
  · intro i j hi' hj
    by_cases hlt : i < l.length
    · simp only [hlt,if_true]
      rw [List.getElem?_append_left (by rw [hCl]; exact place_lt hlt hj)]
      exact hV i j hlt hj
    · obtain rfl : i = l.length:=by omega
      simp only [Nat.lt_irrefl,if_false]
      rw [List.getElem?_append_right (by omega),hCl,show l.length * 9 + j - l.length * 9 = j by omega]
      match j,hj with
      | 0,_ => rfl
      | 1,_ => rfl
      | 2,_ => rfl
      | 3,_ => rfl
      | 4,_ => rfl
      | 5,_ => rfl
      | 6,_ => rfl
      | 7,_ => rfl
      | 8,_ => rfl
  · intro i j hi' hj
    by_cases hlt : i < l.length
    · simp only [hlt,if_true]
      rw [show (l ++ [e])[i]?.getD nd0 = l[i]?.getD nd0 by rw [List.getElem?_append_left hlt]]
      exact OwV.keep (hkeep _ (fun b hb => (hq1 i j b hlt hj hb).2)) (hQ i j hlt hj)
    · obtain rfl : i = l.length:=by omega
      simp only [Nat.lt_irrefl,if_false]
      rw [show (l ++ [e])[l.length]?.getD nd0 = e by simp]
      match j,hj with
      | 0,_ => rfl
      | 1,_ => rfl
      | 2,_ => rfl
      | 3,_ => rfl
      | 4,_ => rfl
      | 5,_ => rfl
      | 6,_ => rfl
      | 7,_ => rfl
      | 8,_ => exact OwV.keep (hkeep (fun b => hi ≤ b ∧ b < hi2) (fun b hb h => by have:=hS b h; omega)) hu
  · intro i j b hi' hj hb
    by_cases hlt : i < l.length
    · simp only [hlt,if_true] at hb
      have h1:=hq1 i j b hlt hj hb
      refine ⟨⟨h1.1.1,by omega⟩,?_⟩
      intro h
      obtain rfl : g = b:=by simpa [Value.ownBlock] using h
      rcases hgg with h3 | h3
      · exact h1.2 h3
      · omega
    · simp only [hlt,if_false] at hb
      by_cases hj0 : j = 8
      · simp only [hj0,if_true] at hb
        refine ⟨⟨by omega,by omega⟩,?_⟩
        intro h
        obtain rfl : g = b:=by simpa [Value.ownBlock] using h
        rcases hgg with h3 | h3
        · have:=hS _ h3; omega
        · omega
      · simp only [hj0,if_false] at hb
  · intro i j i' j' b hi' hj hi2' hj' hb hb'
    by_cases hlt : i < l.length <;> by_cases hlt' : i' < l.length
    · simp only [hlt,hlt',if_true] at hb hb'
      exact hq2 i j i' j' b hlt hj hlt' hj' hb hb'
    · simp only [hlt,hlt',if_true,if_false] at hb hb'
      have h1:=hq1 i j b hlt hj hb
      by_cases hj0 : j' = 8
      · simp only [hj0,if_true] at hb'; omega
      · simp only [hj0,if_false] at hb'
    · simp only [hlt,hlt',if_true,if_false] at hb hb'
      have h1:=hq1 i' j' b hlt' hj' hb'
      by_cases hj0 : j = 8
      · simp only [hj0,if_true] at hb; omega
      · simp only [hj0,if_false] at hb
    · simp only [hlt,hlt',if_false] at hb hb'
      by_cases hj0 : j = 8 <;> by_cases hj0' : j' = 8
      · exact ⟨by omega,by omega⟩
      · simp only [hj0',if_false] at hb'
      · simp only [hj0,if_false] at hb
      · simp only [hj0,if_false] at hb
theorem wpList_appNdO {ops : Array Oper} {rest : List Oper} {o : Oper} {a : Act} {Q : Exit → Act → World → Prop} (w : World) (hgd : o.guard = none) (s x : Operand)
    (ho : o.op = .call { callee:=.builtin .append,args:=#[s,x],argTypes:=#[24,24] })
    (v : Value) (hs : a.eval s = v) (l : List Nd) (e : Nd) (u : Value) (lo hi hi2 q : Nat) (hx : a.eval x = .slice (some ⟨q,0,none⟩) 1 1) (hone : u.oneCell' = true) (fr : Nat × Nat) (hq : w.heap[q]? = some (.cells #[.i e.h.sh,.i e.h.ino,.bool e.h.dir,.i e.par.sh,.i e.par.ino,.bool e.par.dir,.i e.links,.i e.val,u] 77 fr))
    (hown : OwV w (fun b => lo ≤ b ∧ b < hi) v (ndsDt l)) (hu : OwV w (fun b => hi ≤ b ∧ b < hi2) u (ensDt e.es)) (h2 : hi2 ≤ w.heap.size) (hh2 : hi ≤ hi2) (hlh : lo ≤ hi) (hl : l.length ≤ 4000)
    (h : ∀ g n cap w',OwV w' (fun b => lo ≤ b ∧ b < w'.heap.size) (.slice g n cap) (ndsDt (l ++ [e])) → Turned (fun b => lo ≤ b ∧ b < hi) w w' → wpList Tryz.prog ops Q rest (a.put o.dst (.slice g n cap)) w') : wpList Tryz.prog ops Q (o :: rest) a w:=by
  obtain ⟨i0,hi0,hz0,hz1,hz2⟩:=info_parts Tryz.infoNd
  have hown':=hown
  unfold ndsDt at hown'
  obtain ⟨V,C,Qs,h1,hS,h3,h4,h5,h6⟩:=OwV.inv hown'
  refine wpList_append_lies w hgd s x 24 ho 0 77 i0 (.agg #[.i 0,.i 0,.bool false,.i 0,.i 0,.bool false,.i 0,.i 0,.n0]) 9 88 Tryz.underlying24 hi0 hz0 hz1 hz2 rfl (by decide) v l.length C hs h1 ⟨q,0,none⟩ 1 1 [.i e.h.sh,.i e.h.ino,.bool e.h.dir,.i e.par.sh,.i e.par.ino,.bool e.par.dir,.i e.links,.i e.val,u] hx rfl (World.news_of_block hq) (fun y hy => ?_) (by decide) (by unfold maxLen; omega) (by omega) (Nat.zero_le _) w.heap.size rfl ?_
  · simp only [List.mem_cons,List.not_mem_nil,or_false] at hy
    rcases hy with rfl | rfl | rfl | rfl | rfl | rfl | rfl | rfl | rfl
    · rfl
    · rfl
    · rfl
    · rfl
    · rfl
    · rfl
    · rfl
    · rfl
    · exact hone
  intro g cap w' ho' hg hgg hgl
  exact h _ _ _ w' (OwV.snocNd hown hu h2 hh2 hlh C h1 V Qs hS h3 h4 h5 h6 ho' hg hgg hgl) (Turned.ofGrown hg (fun k hk => hS k hk))
set_option maxHeartbeats 4000000 in
theorem implCopyNd_any (v : Value) (l : List Nd) (S : Nat → Prop) (w : World) (r : RdV w S v (ndsDt l)) (hl : szNds l ≤ 2097152) (hn : l.length ≤ 4000) (hes : ∀ i : Nat,(l[i]?.getD nd0).es.length ≤ 4000) :
    Calls Tryz.prog 84 #[v] w fun e w' => ∃ a n c,e = .returned (.slice a n c) ∧ OwV w' (fun b => w.heap.size ≤ b ∧ b < w'.heap.size) (.slice a n c) (ndsDt l) ∧ Below w.heap.size w w':=by
  obtain ⟨a,cap,rfl,_⟩:=RdV.sliced r
  have HR : Hid (∀ W,Below w.heap.size w W → RdV W S (.slice a l.length cap) (ndsDt l)):=fun W hW => r.step hW
  clear r
  go_enter Tryz.func84,Tryz.ntmps84
  go_wp2
  go_loopw [3,8] (fun o i wr => ∃ (k : Nat) (ga : Option Addr) (gn gc : Nat),k ≤ l.length ∧ i = .i k ∧ o = .slice ga gn gc ∧ Hid (OwV wr (fun b => w.heap.size ≤ b ∧ b < wr.heap.size) (.slice ga gn gc) (ndsDt (l.take k))) ∧ Hid (Below w.heap.size w wr)) (fun _ i _ => l.length - (intOf i).toNat)
  case atStart => exact ⟨0,none,0,0,Nat.zero_le _,rfl,rfl,OwV.nilR _ _ _ _ _,Below.refl _ _⟩
  case round =>
    obtain ⟨k,ga,gn,gc,hk,rfl,rfl,HO,HB⟩:=hrel
    by_cases hlt : k < l.length
    · obtain ⟨b,off,rfl,hbl,hSb,hc⟩:=(HR.out w (Below.refl _ _)).at hlt
      have htk : l.take (k + 1) = l.take k ++ [l[k]?.getD nd0]:=by rw [List.take_succ_eq_append_getElem hlt]; simp [hlt]
      have hel:=hes k
      have hzn : szEns (l[k]?.getD nd0).es ≤ 2097152:=Nat.le_trans (szNds_at l k) hl
      obtain ⟨x0,cq0,r0⟩:=hc 0 (by omega)
      obtain ⟨x1,cq1,r1⟩:=hc 1 (by omega)
      obtain ⟨x2,cq2,r2⟩:=hc 2 (by omega)
      obtain ⟨x3,cq3,r3⟩:=hc 3 (by omega)
      obtain ⟨x4,cq4,r4⟩:=hc 4 (by omega)
      obtain ⟨x5,cq5,r5⟩:=hc 5 (by omega)
      obtain ⟨x6,cq6,r6⟩:=hc 6 (by omega)
      obtain ⟨x7,cq7,r7⟩:=hc 7 (by omega)
      obtain ⟨x8,cq8,r8⟩:=hc 8 (by omega)
      generalize l[k]?.getD nd0 = nd at r0 r1 r2 r3 r4 r5 r6 r7 r8 htk hel hzn
      obtain ⟨⟨p,q,d⟩,⟨p2,q2,d2⟩,lk,vl,es⟩:=nd
      dsimp only at hel hzn
      obtain rfl : x0 = .i p:=r0
      obtain rfl : x1 = .i q:=r1
      obtain rfl : x2 = .bool d:=r2
      obtain rfl : x3 = .i p2:=r3
      obtain rfl : x4 = .i q2:=r4
      obtain rfl : x5 = .bool d2:=r5
      obtain rfl : x6 = .i lk:=r6
      obtain rfl : x7 = .i vl:=r7
      have r8' : RdV w S x8 (ensDt es):=r8
      obtain ⟨xa,xc,rfl,_⟩:=RdV.sliced r8'
      have HCE : Hid (∀ W,Below w.heap.size w W → _):=fun W hW => implCopyEn_any _ es S W (r8'.step hW) hzn hel
      have p0_:=(HB.out.cell (p:=⟨b,off + k * 9 + 0,none⟩) hbl).trans cq0
      have p1_:=(HB.out.cell (p:=⟨b,off + k * 9 + 1,none⟩) hbl).trans cq1
      have p2_:=(HB.out.cell (p:=⟨b,off + k * 9 + 2,none⟩) hbl).trans cq2
      have p3_:=(HB.out.cell (p:=⟨b,off + k * 9 + 3,none⟩) hbl).trans cq3
      have p4_:=(HB.out.cell (p:=⟨b,off + k * 9 + 4,none⟩) hbl).trans cq4
      have p5_:=(HB.out.cell (p:=⟨b,off + k * 9 + 5,none⟩) hbl).trans cq5
      have p6_:=(HB.out.cell (p:=⟨b,off + k * 9 + 6,none⟩) hbl).trans cq6
      have p7_:=(HB.out.cell (p:=⟨b,off + k * 9 + 7,none⟩) hbl).trans cq7
      have p8_:=(HB.out.cell (p:=⟨b,off + k * 9 + 8,none⟩) hbl).trans cq8
      rw [Nat.add_zero] at p0_
      have HTK : Hid _:=htk
      have hix : (k : Int) < (l.length : Int):=by omega
      have hsw:=HB.out.size
      clear r8 r8' hc htk
      generalize es.length = xn at *
      go_wp2_with fail
      obtain ⟨w4,hw4⟩ : ∃ W,W = wr.alloc (.cells #[.i p,.i q,.bool d,.i p2,.i q2,.bool d2,.i lk,.i vl,.slice xa xn xc] 77):=⟨_,rfl⟩
      have b4 : Below wr.heap.size wr w4:=by rw [hw4]; exact Below.newH _
      have V4 : VarA w4 wr.heap.size 77 #[.i p,.i q,.bool d,.i p2,.i q2,.bool d2,.i lk,.i vl,.slice xa xn xc]:=by rw [hw4]; exact VarA.new _ _ _
      rw [← hw4]
      have z4 : w4.heap.size = wr.heap.size + 1:=by rw [hw4]; simp
      clear hw4
      refine Calls.mono (HCE.out _ (HB.out.trans (b4.mono HB.out.size))) ?_
      rintro e5 w5 ⟨ea,en,ec,rfl,oe,b5⟩
      have V5:=V4.step b5
      have z5:=b5.size
      have HV5 : Hid (VarA w5 wr.heap.size 77 #[.i p,.i q,.bool d,.i p2,.i q2,.bool d2,.i lk,.i vl,.slice xa xn xc]):=V5
      have HE5 : Hid (OwV w5 (fun b => w4.heap.size ≤ b ∧ b < w5.heap.size) (.slice ea en ec) (ensDt es)):=oe
      have HB5 : Hid (Below wr.heap.size wr w5):=b4.trans (b5.mono b4.size)
      clear V4 V5 oe b5 b4 p0_ p1_ p2_ p3_ p4_ p5_ p6_ p7_ p8_ HCE
      go_wp2_with (first | ((with_reducible refine gS 49 ?_); refine wpList_storeG HV5.out rfl rfl rfl (by kernel_rfl) rfl (of_decide_eq_true rfl) rfl ?_; intro w6 v6 t6; have HV6 : Hid (VarA w6 wr.heap.size 77 #[.i p,.i q,.bool d,.i p2,.i q2,.bool d2,.i lk,.i vl,.slice ea en ec]):=v6; have HU6 : Hid (OwV w6 (fun b => wr.heap.size ≤ b ∧ b < w6.heap.size) (.slice ea en ec) (ensDt es)):=OwV.mono (fun x hx => ⟨by omega,Nat.lt_of_lt_of_le hx.2 t6.size⟩) (OwV.keep (t6.keeps (fun x hx e => by omega)) HE5.out); have HO6 : Hid (OwV w6 (fun b => w.heap.size ≤ b ∧ b < wr.heap.size) (.slice ga gn gc) (ndsDt (l.take k))):=OwV.keep (t6.keeps (fun x hx e => by omega)) (OwV.step HO.out HB5.out); obtain ⟨o0,o1,o2,o3,o4,o5,o6,o7,o8⟩:=v6.l9) | (at_builtin; go_must (refine wpList_appNdO (w6.alloc (.cells #[.i p,.i q,.bool d,.i p2,.i q2,.bool d2,.i lk,.i vl,.slice ea en ec] 77)) rfl (.tmp 16) (.tmp 18) rfl _ rfl (l.take k) ⟨(p,q,d),(p2,q2,d2),lk,vl,es⟩ (.slice ea en ec) w.heap.size wr.heap.size w6.heap.size w6.heap.size rfl rfl (0,0) (heap_alloc_new _ _) (OwV.step HO6.out (Below.newH _)) (OwV.step HU6.out (Below.newH _)) (by simp) (by have:=t6.size; omega) hsw (by rw [List.length_take]; omega) ?_; intro g8 n8 c8 w8 ho8 t8)))
      rw [← HTK.out] at ho8
      have HO8 : Hid (OwV w8 (fun b => w.heap.size ≤ b ∧ b < w8.heap.size) (.slice g8 n8 c8) (ndsDt (l.take (k + 1)))):=ho8
      have HB9 : Hid (Below w.heap.size w w8):=by
        have z6:=t6.size
        have z8:=t8.size
        have hb6 : Below w.heap.size w w6:=Turned.below (HB.out.trans (HB5.out.mono HB.out.size)) t6 (by have:=HB5.out.size; omega) (fun i hi => by omega)
        exact Turned.below (hb6.alloc hb6.size _) t8 (by have:=hb6.size; simp; omega) (fun i hi => hi.1)
      clear ho8 t8 t6 HO HO6 HU6 HE5 HB5 HV5 HV6 o0 o1 o2 o3 o4 o5 o6 o7 o8
      go_wp2
      first
      | exact ⟨⟨k + 1,g8,n8,c8,by omega,by go_num,rfl,HO8,HB9⟩,by simp [intOf]; omega⟩
      | (go_roundw
         case rel => exact ⟨k + 1,g8,n8,c8,by omega,by go_num,rfl,HO8,HB9⟩
         case measure => simp [intOf]; omega)
    · have he : k = l.length:=by omega
      subst he
      rw [List.take_length] at HO
      go_wp2
      go_ret
      exact ⟨_,_,_,rfl,HO.out,HB.out⟩
end
section
theorem treesOf_any (a : Option Addr) (n c : Nat) (w : World) :
  Calls Tryz.prog 38 #[.slice a n c] w fun e w' => e = .returned (.func (.func 66) #[] #[.pointer (some ⟨w.heap.size,0,none⟩)]) ∧ w' = w.alloc (.cells #[.slice a n c] 29):=by
 go_enter Tryz.func38,Tryz.ntmps38
 go_wp2
 go_ret
 exact ⟨rfl,rfl⟩
end
section
open Go.RowKit Go.Shelf
def recOf (fn : FuncId) (tmps : Array Value) (ps : Array Tmp) (assign body : Code) (D : Nat) (st : LoopState) : Loop:={ state:=st,pending:=none,fn:=fn,tmps:=tmps,params:=ps,assign:=assign,body:=body,defers:=D }
end
section
open Go.RowKit Go.Shelf
def recEnd (fn : FuncId) (tmps : Array Value) (ps : Array Tmp) (assign body : Code) (D : Nat) : Loop:={ state:=.done,pending:=some .ret,fn:=fn,tmps:=tmps,params:=ps,assign:=assign,body:=body,defers:=D }

theorem range_st2 {P : Program} {g : Operand} {ps : Array Tmp} {assign body : Code} {Q : Exit → Act → World → Prop} {a : Act} {w : World} {gf : Nat} {lb : Array Value} (hg : a.eval g = .func (.func gf) #[] lb)
  (eg : Enters P gf) (Fin Stop : World → Prop)
  (hiter : ∀ fn,Calls P gf (#[.func (.yield (w.heap.size + 1)) #[] #[]] ++ lb) ((w.alloc (.deferred (some []))).alloc (.loop (recOf fn a.tmps ps assign body w.heap.size .ready))) fun e W' => (∃ v,e = .returned v) ∧
   ((W'.heap[w.heap.size + 1]? = some (.loop (recOf fn a.tmps ps assign body w.heap.size .ready)) ∧ Fin W') ∨ (W'.heap[w.heap.size + 1]? = some (.loop (recEnd fn a.tmps ps assign body w.heap.size)) ∧ Stop W')))
  (hdone : ∀ (r : Loop) (W : World),Fin W → w.heap.size + 1 < W.heap.size → Q .normal { a with defers:={ target:=.collected w.heap.size,args:=#[] } :: a.defers } (W.putObj (w.heap.size + 1) (.loop r)))
  (hstop : ∀ (r : Loop) (W : World),Stop W → w.heap.size + 1 < W.heap.size → Q .ret { a with defers:={ target:=.collected w.heap.size,args:=#[] } :: a.defers } (W.putObj (w.heap.size + 1) (.loop r))) :
  (Code.rangeFunc g ps assign body).wp P Q a w:=by
 refine (wpIn_wide (n:=3)).1 (wpIn_rangeFunc ?_)
 intro fn hfn
 obtain ⟨W1,hW1⟩ : ∃ W1,(w.alloc (.deferred (some []))).alloc (.loop (recOf fn a.tmps ps assign body w.heap.size .ready)) = W1:=⟨_,rfl⟩
 have hi:=hiter fn
 rw [hW1] at hi
 refine ⟨w.heap.size + 1,[{ target:=.collected w.heap.size,args:=#[] }],W1,{ target:=.fn (.func gf) lb,args:=#[.func (.yield (w.heap.size + 1)) #[] #[]] },W1,gf,#[.func (.yield (w.heap.size + 1)) #[] #[]] ++ lb,W1,by rw [← hW1]; exact run_enterLoop_outer fn a.tmps ps assign body,?_,fun _ _ => trivial,?_,fun _ => by omega,?_⟩
 ·simp only [resolve,hg]
  simp [go_sem]
 ·simp [invoke,go_sem,eg _ _]
 ·refine callsIn_wide.2 (hi.mono ?_)
  rintro e W' ⟨⟨v,rfl⟩,⟨hl,hF⟩ | ⟨hl,hF⟩⟩
  ·exact ⟨none,_,run_endLoop hl (by simp [recOf]),hdone _ _ hF (Array.getElem?_eq_some_iff.1 hl).1⟩
  ·exact ⟨some .ret,_,run_endLoop hl (by simp [recEnd]),wpIn_ret (hstop _ _ hF (Array.getElem?_eq_some_iff.1 hl).1)⟩

theorem round_st2 {P : Program} {m L : Nat} {fn : FuncId} {tmps : Array Value} {ps : Array Tmp} {assign body : Code} {D : Nat} {args : Array Value} {W : World} {R : Ending → World → Prop} (hl : W.heap[L]? = some (.loop (recOf fn tmps ps assign body D .ready))) (hs : args.size = ps.size) (a₁ : Act)
  (hassign : ∀ K : Act → World → Prop,K a₁ W → assign.wpIn (Fence.wide.inRound L) m P (Exit.then K (fun _ _ _ => False)) { tmps:=(ps.zip args).foldl (fun t (p,v) => t.setIfInBounds p v) tmps,defers:=[] } W)
  (hbody : body.wpIn (Fence.wide.inRound L) m P (fun e a' W3 => W3.heap[L]? = some (.loop (recOf fn tmps ps assign body D .busy)) ∧ ((e = .normal ∧ R (.returned (.bool true)) (W3.putObj L (.loop (recOf fn tmps ps assign body D .ready)))) ∨ (e = .ret ∧ R (.returned (.bool false)) (W3.putObj L (.loop (recEnd fn tmps ps assign body D)))))) a₁ (W.putObj L (.loop (recOf fn tmps ps assign body D .busy)))) :
  YieldAt Fence.wide m P L args W R:=by
 refine ⟨fn,_,assign,body,run_yield hl hs,roundIn_of_wpIn trivial (hassign _ ⟨_,run_beginRound hl rfl,?_⟩)⟩
 refine wpIn_mono hbody ?_
 rintro e a3 W3 ⟨hl3,⟨rfl,hR⟩ | ⟨rfl,hR⟩⟩
 ·exact ⟨_,_,run_endRound none hl3,hR⟩
 ·exact ⟨_,_,run_endRound (some .ret) hl3,hR⟩
theorem round_st3 {P : Program} {m L : Nat} {fn : FuncId} {tmps : Array Value} {ps : Array Tmp} {assign body : Code} {D : Nat} {args : Array Value} {W W₁ : World} {R : Ending → World → Prop} (hl : W.heap[L]? = some (.loop (recOf fn tmps ps assign body D .ready))) (hs : args.size = ps.size) (a₁ : Act)
  (hl1 : W₁.heap[L]? = some (.loop (recOf fn tmps ps assign body D .ready)))
  (hassign : ∀ K : Act → World → Prop,K a₁ W₁ → assign.wpIn (Fence.wide.inRound L) m P (Exit.then K (fun _ _ _ => False)) { tmps:=(ps.zip args).foldl (fun t (p,v) => t.setIfInBounds p v) tmps,defers:=[] } W)
  (hbody : body.wpIn (Fence.wide.inRound L) m P (fun e a' W3 => W3.heap[L]? = some (.loop (recOf fn tmps ps assign body D .busy)) ∧ ((e = .normal ∧ R (.returned (.bool true)) (W3.putObj L (.loop (recOf fn tmps ps assign body D .ready)))) ∨ (e = .ret ∧ R (.returned (.bool false)) (W3.putObj L (.loop (recEnd fn tmps ps assign body D)))))) a₁ (W₁.putObj L (.loop (recOf fn tmps ps assign body D .busy)))) :
  YieldAt Fence.wide m P L args W R:=by
 refine ⟨fn,_,assign,body,run_yield hl hs,roundIn_of_wpIn trivial (hassign _ ⟨_,run_beginRound hl1 rfl,?_⟩)⟩
 refine wpIn_mono hbody ?_
 rintro e a3 W3 ⟨hl3,⟨rfl,hR⟩ | ⟨rfl,hR⟩⟩
 ·exact ⟨_,_,run_endRound none hl3,hR⟩
 ·exact ⟨_,_,run_endRound (some .ret) hl3,hR⟩
end
section
set_option linter.unusedVariables false
end
section
set_option maxHeartbeats 1000000 in
theorem szReply_d (x : Value) (o : RpD) (S : Nat → Prop) (s : Nat) (w : World) (hs : s ≤ 1048576) (r : RdV w S x (ensDt o.list)) :
  Calls Tryz.prog 27 #[rpV o x,.i s] w fun ret w' => ret = .returned (.i (leftT (szEns o.list) s)) ∧ Below w.heap.size w w':=by
 obtain ⟨a,cap,rfl,_⟩:=RdV.sliced r
 obtain ⟨kd,⟨p,q,d⟩,vl,es⟩:=o
 dsimp only at r ⊢
 generalize hq : es.length = n0 at r
 have HQ : Hid _:=hq
 clear hq
 have HS : Hid (∀ W,Below w.heap.size w W → _):=fun W hW => szEntryS_d _ es S s W hs (r.step hW)
 clear r
 generalize szEns es = m at HS ⊢
 by_cases hle : m ≤ s
 ·have hl : leftT m s = (s : Int) - m:=by unfold leftT; rw [if_pos hle]
  rw [hl] at HS ⊢
  clear hl
  go_enter Tryz.func27,Tryz.ntmps27
  go_wp2_with fail
  refine Calls.mono (HS.out _ (Below.newH _)) ?_
  rintro e w2 ⟨rfl,b_⟩
  go_wp2
  go_ret
  exact ⟨rfl,(Below.newH (w:=w) _).trans (b_.mono (by simp))⟩
 ·have hl : leftT m s = -1:=by unfold leftT; rw [if_neg hle]
  rw [hl] at HS ⊢
  clear hl
  go_enter Tryz.func27,Tryz.ntmps27
  go_wp2_with fail
  refine Calls.mono (HS.out _ (Below.newH _)) ?_
  rintro e w2 ⟨rfl,b_⟩
  go_wp2
  go_ret
  exact ⟨rfl,(Below.newH (w:=w) _).trans (b_.mono (by simp))⟩
end
section
theorem leftD_add (a b s : Nat) : leftT (a + b) s = if a ≤ s then leftT b (s - a) else -1:=by
 unfold leftT
 by_cases h : a ≤ s
 ·rw [if_pos h]
  by_cases h2 : a + b ≤ s
  ·rw [if_pos h2,if_pos (by omega)]; omega
  ·rw [if_neg h2,if_neg (by omega)]
 ·rw [if_neg h,if_neg (by omega)]
set_option maxHeartbeats 4000000 in
theorem szDeed_d (x y z : Value) (e : DdD) (S : Nat → Prop) (s : Nat) (w : World) (hs : s ≤ 1048576) (r : RdD_ w S e x y z) :
  Calls Tryz.prog 13 #[ddV e x y z,.i s] w fun ret w' => ret = .returned (.i (leftT (szDd e) s)) ∧ Below w.heap.size w w':=by
 obtain ⟨r1,r2,r3⟩:=r
 obtain ⟨a1,cap1,rfl⟩:=r1.sliceB
 obtain ⟨a2,cap2,rfl⟩:=r2.sliceB
 obtain ⟨a3,cap3,rfl,_⟩:=RdV.sliced r3
 obtain ⟨at_,cl,rq,⟨ok,⟨op_,oq,od⟩,nm,⟨tp,tq,td⟩,asn,ov⟩,⟨rc,⟨rp_,rq_,rd⟩,rv,es⟩⟩:=e
 unfold szDd
 dsimp only at r1 r2 r3 ⊢
 have HC0 : Hid (∀ W,Below w.heap.size w W → _):=fun W hW => szOp_d _ _ ⟨ok,(op_,oq,od),nm,(tp,tq,td),asn,ov⟩ S s W hs (r1.step hW) (r2.step hW)
 have HC1 : Hid (∀ t W,t ≤ 1048576 → Below w.heap.size w W → _):=fun t W ht hW => szReply_d _ ⟨rc,(rp_,rq_,rd),rv,es⟩ S t W ht (r3.step hW)
 clear r1 r2 r3
 dsimp only at HC0 HC1
 generalize nm.length + asn.length = m0 at HC0 ⊢
 generalize szEns es = m1 at HC1 ⊢
 generalize nm.length = n1 at HC0 ⊢
 generalize asn.length = n2 at HC0 ⊢
 generalize es.length = n3 at HC1 ⊢
 obtain ⟨res,hres⟩ : ∃ q,leftT (m0 + m1) s = q:=⟨_,rfl⟩
 rw [hres]
 have HRES : Hid _:=hres
 clear hres
 go_enter Tryz.func13,Tryz.ntmps13
 go_wp2_with fail
 refine Calls.mono (HC0.out _ (Below.newH _)) ?_
 rintro e w2 ⟨rfl,b_⟩
 have HB : Hid (Below w.heap.size w w2):=(Below.newH (w:=w) _).trans (b_.mono (by simp))
 have V : Hid (VarA w2 w.heap.size 46 #[.i at_,.i cl,.i rq,.i ok,.i op_,.i oq,.bool od,.slice a1 n1 cap1,.i tp,.i tq,.bool td,.slice a2 n2 cap2,.i ov,.i rc,.i rp_,.i rq_,.bool rd,.i rv,.slice a3 n3 cap3]):=VarA.step (VarA.new w _ _) b_
 clear b_
 by_cases h0 : m0 ≤ s
 ·obtain ⟨u,hu⟩ : ∃ t : Nat,s - m0 = t:=⟨_,rfl⟩
  have hl : leftT m0 s = (u : Int):=by unfold leftT; rw [if_pos h0]; omega
  rw [hl]
  have HQ : Hid (leftT m1 u = res):=by have h:=HRES.out; rw [leftD_add,if_pos h0,hu] at h; exact h
  have hb : u ≤ 1048576:=by omega
  clear hl hu h0 hs HRES
  have c13:=V.out.c 13 rfl
  have c14:=V.out.c 14 rfl
  have c15:=V.out.c 15 rfl
  have c16:=V.out.c 16 rfl
  have c17:=V.out.c 17 rfl
  have c18:=V.out.c 18 rfl
  go_wp2_with fail
  refine Calls.mono (HC1.out u _ hb HB.out) ?_
  rintro e w3 ⟨rfl,b_⟩
  have HB3 : Hid (Below w.heap.size w w3):=HB.out.trans (b_.mono HB.out.size)
  clear b_ c13 c14 c15 c16 c17 c18
  by_cases h1 : m1 ≤ u
  ·obtain ⟨t,ht⟩ : ∃ t : Nat,u - m1 = t:=⟨_,rfl⟩
   have hl : leftT m1 u = (t : Int):=by unfold leftT; rw [if_pos h1]; omega
   have HF : Hid ((t : Int) = res):=by rw [← hl]; exact HQ.out
   rw [hl]
   clear hl ht
   go_wp2
   go_ret
   exact ⟨by rw [HF.out]; rfl,HB3.out⟩
  ·have hl : leftT m1 u = -1:=by unfold leftT; rw [if_neg h1]
   have HF : Hid (-1 = res):=by rw [← hl]; exact HQ.out
   rw [hl]
   clear hl
   go_wp2
   go_ret
   exact ⟨by rw [← HF.out]; rfl,HB3.out⟩
 ·have hl : leftT m0 s = -1:=by unfold leftT; rw [if_neg h0]
  rw [hl]
  have HF : Hid (-1 = res):=by have h:=HRES.out; rw [leftD_add,if_neg h0] at h; exact h
  clear hl
  go_wp2
  go_ret
  exact ⟨by rw [← HF.out]; rfl,HB.out⟩
end
section
open Go.RowKit Go.Deep Go.ChangeShapes Go.WideShapes
section
variable {H : Type} {enc : TypeId × Value → H} {w : World} {held : Bool}

theorem spot_noneT {a : Addr} {v : Value} (h : w.cell? a = some v) : ∃ b off,a = ⟨b,off,none⟩:=by
 obtain ⟨b,off,spot⟩:=a
 have : spot = none:=by simpa using World.cell?_spot h
 exact ⟨b,off,by rw [this]⟩
abbrev Old (w : World) : Nat → Prop:=fun b => b < w.heap.size

theorem open_bytesT {fuel : Nat} {v : Value} {x : DataW H × List MemPlace} (h : DataW.trod enc Tryz.prog w 0 (fun _ => true) held fuel 39 [v] = some x) : ∃ zs,RdS w (Old w) v zs:=by
 rcases open_ints Tryz.underlying39 Tryz.underlying5 (by kernel_rfl) h with ⟨hcs,_⟩ | ⟨a,len,cap,zs,hcs,_,hl,hm,hz,_,hcell,hwz⟩
 ·simp only [List.cons.injEq,and_true] at hcs
  exact ⟨[],isBytes_nil,none,0,0,hcs,rfl,⟨Nat.le_refl _,Nat.zero_le _,fun _ => ⟨rfl,rfl⟩⟩,.inl rfl⟩
 ·simp only [List.cons.injEq,and_true] at hcs
  simp only [if_true] at hz
  refine ⟨zs.take len,?_,some a,len,cap,hcs,by simp; omega,⟨hl,hm,fun e => by cases e⟩,?_⟩
  ·intro j
   by_cases hj : j < len
   ·rw [List.getElem?_take,if_pos hj]; exact range_u8 hwz j
   ·rw [List.getElem?_take,if_neg hj]; simp
  ·by_cases h0 : len = 0
   ·exact .inl (by simp [h0])
   ·obtain ⟨b,off,rfl⟩:=spot_noneT (w:=w) (a:=a) (v:=.int .u8 (zs.getD 0 0)) (by have:=hcell 0 (by omega); simpa [Addr.add] using this)
    have hlt : b < w.heap.size:=by have:=hcell 0 (by omega); rw [add_plainT] at this; exact block_lt_of_cell this
    refine .inr ⟨b,off,rfl,hlt,hlt,fun i hi => ?_⟩
    have hi' : i < len:=by simp at hi; omega
    have:=hcell i (by omega)
    rw [add_plainT] at this
    rw [this,List.getElem?_take,if_pos hi']
    simp

theorem open_rowsT {α : Type} (a0 : α) {T E t : TypeId} {k : Nat} (hT : Tryz.prog.underlying T = some (.slice E)) (hk : Tryz.prog.cellsOf E = k) (hk0 : 0 < k) (cell : α → Nat → Dt)
  (hel : ∀ fuel cs x,DataW.trod enc Tryz.prog w 0 (fun _ => true) held fuel E cs = some x → ∃ a : α,∀ j,j < k → RdV w (Old w) (cs[j]?.getD undef) (cell a j))
  {fuel : Nat} {v : Value} {x : DataW H × List MemPlace} (h : DataW.trod enc Tryz.prog w 0 (fun _ => true) held fuel T [v] = some x) : ∃ l : List α,RdV w (Old w) v (.rows t k l.length (fun i j => cell (l[i]?.getD a0) j)):=by
 rcases open_slice hT h with ⟨hcs,_⟩ | ⟨a,len,cap,m,n,D,Pl,hcs,_,hl,hm,hmm,_,hx⟩
 ·simp only [List.cons.injEq,and_true] at hcs
  subst hcs
  exact ⟨[],none,0,fun _ _ => undef,rfl,⟨Nat.le_refl _,Nat.zero_le _,fun _ => ⟨rfl,rfl⟩⟩,.inl rfl,fun i j hi => absurd hi (Nat.not_lt_zero _)⟩
 ·simp only [List.cons.injEq,and_true] at hcs
  subst hcs
  simp only [if_true] at hmm
  subst hmm
  rw [hk] at hx
  haveI : Inhabited α:=⟨a0⟩
  obtain ⟨f,hf⟩:=choose_lt (n:=len) (p:=fun i (y : α × (Nat → Value)) => ∀ j,j < k → w.cell? (a.add (i * k + j)) = some (y.2 j) ∧ RdV w (Old w) (y.2 j) (cell y.1 j)) (fun i hi => by
   obtain ⟨cs,hc,ht⟩:=hx i (by omega)
   obtain ⟨_,hlen,hcell⟩:=World.cells?_some hc
   obtain ⟨y,hy⟩:=hel n cs _ ht
   refine ⟨(y,fun j => cs[j]?.getD undef),fun j hj => ⟨?_,hy j hj⟩⟩
   have:=hcell j (by omega)
   rw [Go.Deep.add_add] at this
   rw [this]
   simp [show j < cs.length by omega])
  refine ⟨(List.range len).map (fun i => (f i).1),?_⟩
  have hlen : ((List.range len).map (fun i => (f i).1)).length = len:=by simp
  rw [hlen]
  refine RdV.mkRows t ⟨some a,_,fun i j => (f i).2 j,rfl,⟨hl,hm,fun e => by cases e⟩,?_,fun i j hi hj => by simpa [hi] using (hf i hi j hj).2⟩
  by_cases h0 : len = 0
  ·exact .inl h0
  ·obtain ⟨b,off,rfl⟩:=spot_noneT (w:=w) (a:=a) (v:=(f 0).2 0) (by have:=(hf 0 (by omega) 0 hk0).1; simpa [Addr.add] using this)
   have hlt : b < w.heap.size:=by have:=(hf 0 (by omega) 0 hk0).1; rw [add_plainT] at this; exact block_lt_of_cell this
   refine .inr ⟨b,off,rfl,hlt,hlt,fun i j hi hj => ?_⟩
   have:=(hf i hi j hj).1
   rw [add_plainT] at this
   exact this

set_option maxRecDepth 100000 in
theorem open_handleT {fuel : Nat} {cs : List Value} {x : DataW H × List MemPlace} (h : DataW.trod enc Tryz.prog w 0 (fun _ => true) held fuel 38 cs = some x) : ∃ h : Hd,cs = [.i h.sh,.i h.ino,.bool h.dir]:=by
 obtain ⟨y0,y1,y2,n,_,hl,h0,h1,h2⟩:=trod_struct3 Tryz.underlying38 h
 have k0 : Tryz.prog.cellsOf 3 = 1:=by kernel_rfl
 have k1 : Tryz.prog.cellsOf 4 = 1:=by kernel_rfl
 have k2 : Tryz.prog.cellsOf 38 = 3:=by kernel_rfl
 rw [k2] at hl
 match cs,hl with
 | [c0,c1,c2],_ =>
  simp only [k0,k1,List.drop_zero,List.take_succ_cons,List.take_zero,List.drop_succ_cons] at h0 h1 h2
  obtain ⟨p,e0,_,_⟩:=DataW.trod_int Tryz.underlying3 h0
  obtain ⟨q,e1,_,_⟩:=DataW.trod_int Tryz.underlying3 h1
  obtain ⟨b,e2,_⟩:=DataW.trod_bool Tryz.underlying4 h2
  simp only [List.cons.injEq,and_true] at e0 e1 e2
  subst e0
  subst e1
  subst e2
  exact ⟨⟨p,q,b⟩,rfl⟩
theorem trod_fields2 {t : TypeId} {f0 f1 : Field} {fuel : Nat} {cs : List Value} {x : DataW H × List MemPlace} (ht : Tryz.prog.underlying t = some (.struct #[f0,f1])) (h : DataW.trod enc Tryz.prog w 0 (fun _ => true) held fuel t cs = some x) :
  cs.length = Tryz.prog.cellsOf t ∧ ∃ n,(∃ y,DataW.trod enc Tryz.prog w 0 (fun _ => true) held n f0.type ((cs.drop f0.offset).take (Tryz.prog.cellsOf f0.type)) = some y) ∧ (∃ y,DataW.trod enc Tryz.prog w 0 (fun _ => true) held n f1.type ((cs.drop f1.offset).take (Tryz.prog.cellsOf f1.type)) = some y):=by
 obtain ⟨xs,n,_,rfl,hl,hlen,hf⟩:=DataW.trod_struct ht h
 match xs,hlen with
 | [y0,y1],_ => exact ⟨hl,n,⟨y0,by simpa using hf 0 f0 rfl⟩,⟨y1,by simpa using hf 1 f1 rfl⟩⟩
theorem trod_fields5 {t : TypeId} {f0 f1 f2 f3 f4 : Field} {fuel : Nat} {cs : List Value} {x : DataW H × List MemPlace} (ht : Tryz.prog.underlying t = some (.struct #[f0,f1,f2,f3,f4])) (h : DataW.trod enc Tryz.prog w 0 (fun _ => true) held fuel t cs = some x) :
  cs.length = Tryz.prog.cellsOf t ∧ ∃ n,(∃ y,DataW.trod enc Tryz.prog w 0 (fun _ => true) held n f0.type ((cs.drop f0.offset).take (Tryz.prog.cellsOf f0.type)) = some y) ∧ (∃ y,DataW.trod enc Tryz.prog w 0 (fun _ => true) held n f1.type ((cs.drop f1.offset).take (Tryz.prog.cellsOf f1.type)) = some y) ∧ (∃ y,DataW.trod enc Tryz.prog w 0 (fun _ => true) held n f2.type ((cs.drop f2.offset).take (Tryz.prog.cellsOf f2.type)) = some y) ∧ (∃ y,DataW.trod enc Tryz.prog w 0 (fun _ => true) held n f3.type ((cs.drop f3.offset).take (Tryz.prog.cellsOf f3.type)) = some y) ∧ (∃ y,DataW.trod enc Tryz.prog w 0 (fun _ => true) held n f4.type ((cs.drop f4.offset).take (Tryz.prog.cellsOf f4.type)) = some y):=by
 obtain ⟨xs,n,_,rfl,hl,hlen,hf⟩:=DataW.trod_struct ht h
 match xs,hlen with
 | [y0,y1,y2,y3,y4],_ => exact ⟨hl,n,⟨y0,by simpa using hf 0 f0 rfl⟩,⟨y1,by simpa using hf 1 f1 rfl⟩,⟨y2,by simpa using hf 2 f2 rfl⟩,⟨y3,by simpa using hf 3 f3 rfl⟩,⟨y4,by simpa using hf 4 f4 rfl⟩⟩
theorem trod_fields6 {t : TypeId} {f0 f1 f2 f3 f4 f5 : Field} {fuel : Nat} {cs : List Value} {x : DataW H × List MemPlace} (ht : Tryz.prog.underlying t = some (.struct #[f0,f1,f2,f3,f4,f5])) (h : DataW.trod enc Tryz.prog w 0 (fun _ => true) held fuel t cs = some x) :
  cs.length = Tryz.prog.cellsOf t ∧ ∃ n,(∃ y,DataW.trod enc Tryz.prog w 0 (fun _ => true) held n f0.type ((cs.drop f0.offset).take (Tryz.prog.cellsOf f0.type)) = some y) ∧ (∃ y,DataW.trod enc Tryz.prog w 0 (fun _ => true) held n f1.type ((cs.drop f1.offset).take (Tryz.prog.cellsOf f1.type)) = some y) ∧ (∃ y,DataW.trod enc Tryz.prog w 0 (fun _ => true) held n f2.type ((cs.drop f2.offset).take (Tryz.prog.cellsOf f2.type)) = some y) ∧ (∃ y,DataW.trod enc Tryz.prog w 0 (fun _ => true) held n f3.type ((cs.drop f3.offset).take (Tryz.prog.cellsOf f3.type)) = some y) ∧ (∃ y,DataW.trod enc Tryz.prog w 0 (fun _ => true) held n f4.type ((cs.drop f4.offset).take (Tryz.prog.cellsOf f4.type)) = some y) ∧ (∃ y,DataW.trod enc Tryz.prog w 0 (fun _ => true) held n f5.type ((cs.drop f5.offset).take (Tryz.prog.cellsOf f5.type)) = some y):=by
 obtain ⟨xs,n,_,rfl,hl,hlen,hf⟩:=DataW.trod_struct ht h
 match xs,hlen with
 | [y0,y1,y2,y3,y4,y5],_ => exact ⟨hl,n,⟨y0,by simpa using hf 0 f0 rfl⟩,⟨y1,by simpa using hf 1 f1 rfl⟩,⟨y2,by simpa using hf 2 f2 rfl⟩,⟨y3,by simpa using hf 3 f3 rfl⟩,⟨y4,by simpa using hf 4 f4 rfl⟩,⟨y5,by simpa using hf 5 f5 rfl⟩⟩

set_option maxRecDepth 100000 in
theorem open_opT {fuel : Nat} {cs : List Value} {x : DataW H × List MemPlace} (h : DataW.trod enc Tryz.prog w 0 (fun _ => true) held fuel 41 cs = some x) :
  ∃ (o : OpD) (x y : Value),cs = [.i o.kind,.i o.dir.sh,.i o.dir.ino,.bool o.dir.dir,x,.i o.to.sh,.i o.to.ino,.bool o.to.dir,y,.i o.val] ∧ RdV w (Old w) x (.bytes o.nm) ∧ RdV w (Old w) y (.bytes o.asn):=by
 obtain ⟨hl,n,⟨y0,h0⟩,⟨y1,h1⟩,⟨y2,h2⟩,⟨y3,h3⟩,⟨y4,h4⟩,⟨y5,h5⟩⟩:=trod_fields6 Tryz.underlying41 h
 have k0 : Tryz.prog.cellsOf 3 = 1:=by kernel_rfl
 have k1 : Tryz.prog.cellsOf 38 = 3:=by kernel_rfl
 have k2 : Tryz.prog.cellsOf 39 = 1:=by kernel_rfl
 have k3 : Tryz.prog.cellsOf 41 = 10:=by kernel_rfl
 rw [k3] at hl
 match cs,hl with
 | [c0,c1,c2,c3,c4,c5,c6,c7,c8,c9],_ =>
  simp only [k0,k1,k2,List.drop_zero,List.take_succ_cons,List.take_zero,List.drop_succ_cons] at h0 h1 h2 h3 h4 h5
  obtain ⟨p,e0,_,_⟩:=DataW.trod_int Tryz.underlying3 h0
  obtain ⟨q,e5,_,_⟩:=DataW.trod_int Tryz.underlying3 h5
  obtain ⟨d,e1⟩:=open_handleT h1
  obtain ⟨t,e3⟩:=open_handleT h3
  obtain ⟨zs,r2⟩:=open_bytesT h2
  obtain ⟨ys,r4⟩:=open_bytesT h4
  simp only [List.cons.injEq,and_true] at e0 e1 e3 e5
  obtain ⟨rfl,rfl,rfl⟩:=e1
  obtain ⟨rfl,rfl,rfl⟩:=e3
  subst e0
  subst e5
  exact ⟨⟨p,d,zs,t,ys,q⟩,c4,c8,rfl,r2,r4⟩
end
end
section
open Go.RowKit Go.Deep Go.ChangeShapes Go.WideShapes
section
variable {H : Type} {enc : TypeId × Value → H} {w : World} {held : Bool}

set_option maxRecDepth 100000 in
theorem open_entT (fuel : Nat) (cs : List Value) (x : DataW H × List MemPlace) (h : DataW.trod enc Tryz.prog w 0 (fun _ => true) held fuel 143 cs = some x) : ∃ e : En,∀ j,j < 4 → RdV w (Old w) (cs[j]?.getD undef) (enCell e j):=by
 obtain ⟨hl,n,⟨y0,h0⟩,⟨y1,h1⟩⟩:=trod_fields2 Tryz.underlying143 h
 have k1 : Tryz.prog.cellsOf 38 = 3:=by kernel_rfl
 have k2 : Tryz.prog.cellsOf 39 = 1:=by kernel_rfl
 have k3 : Tryz.prog.cellsOf 143 = 4:=by kernel_rfl
 rw [k3] at hl
 match cs,hl with
 | [c0,c1,c2,c3],_ =>
  simp only [k1,k2,List.drop_zero,List.take_succ_cons,List.take_zero,List.drop_succ_cons] at h0 h1
  obtain ⟨zs,r0⟩:=open_bytesT h0
  obtain ⟨d,e1⟩:=open_handleT h1
  simp only [List.cons.injEq,and_true] at e1
  obtain ⟨rfl,rfl,rfl⟩:=e1
  refine ⟨⟨zs,d⟩,fun j hj => ?_⟩
  match j,hj with
  | 0,_ => exact r0
  | 1,_ => exact rfl
  | 2,_ => exact rfl
  | 3,_ => exact rfl
theorem open_ensT {fuel : Nat} {v : Value} {x : DataW H × List MemPlace} (h : DataW.trod enc Tryz.prog w 0 (fun _ => true) held fuel 42 [v] = some x) : ∃ l : List En,RdV w (Old w) v (ensDt l):=
 open_rowsT (t:=86) (k:=4) en0 Tryz.underlying42 (by kernel_rfl) (by omega) enCell open_entT h
end
end
section
open Go.RowKit Go.Deep Go.ChangeShapes Go.WideShapes
section
variable {H : Type} {enc : TypeId × Value → H} {w : World} {held : Bool}

theorem trod_fieldsW4 {t : TypeId} {f0 f1 f2 f3 : Field} {fuel : Nat} {cs : List Value} {x : DataW H × List MemPlace} (ht : Tryz.prog.underlying t = some (.struct #[f0,f1,f2,f3])) (h : DataW.trod enc Tryz.prog w 0 (fun _ => true) held fuel t cs = some x) :
  cs.length = Tryz.prog.cellsOf t ∧ ∃ n,(∃ y,DataW.trod enc Tryz.prog w 0 (fun _ => true) held n f0.type ((cs.drop f0.offset).take (Tryz.prog.cellsOf f0.type)) = some y) ∧ (∃ y,DataW.trod enc Tryz.prog w 0 (fun _ => true) held n f1.type ((cs.drop f1.offset).take (Tryz.prog.cellsOf f1.type)) = some y) ∧ (∃ y,DataW.trod enc Tryz.prog w 0 (fun _ => true) held n f2.type ((cs.drop f2.offset).take (Tryz.prog.cellsOf f2.type)) = some y) ∧ (∃ y,DataW.trod enc Tryz.prog w 0 (fun _ => true) held n f3.type ((cs.drop f3.offset).take (Tryz.prog.cellsOf f3.type)) = some y):=by
 obtain ⟨xs,n,_,rfl,hl,hlen,hf⟩:=DataW.trod_struct ht h
 match xs,hlen with
 | [y0,y1,y2,y3],_ => exact ⟨hl,n,⟨y0,by simpa using hf 0 f0 rfl⟩,⟨y1,by simpa using hf 1 f1 rfl⟩,⟨y2,by simpa using hf 2 f2 rfl⟩,⟨y3,by simpa using hf 3 f3 rfl⟩⟩
theorem open_replyT {fuel : Nat} {cs : List Value} {x : DataW H × List MemPlace} (h : DataW.trod enc Tryz.prog w 0 (fun _ => true) held fuel 44 cs = some x) :
  ∃ (t : RpD) (z : Value),cs = [.i t.code,.i t.h.sh,.i t.h.ino,.bool t.h.dir,.i t.val,z] ∧ RdV w (Old w) z (ensDt t.list):=by
 obtain ⟨hl,n,⟨y0,h0⟩,⟨y1,h1⟩,⟨y2,h2⟩,⟨y3,h3⟩⟩:=trod_fieldsW4 Tryz.underlying44 h
 have k0 : Tryz.prog.cellsOf 42 = 1:=by kernel_rfl
 have k1 : Tryz.prog.cellsOf 3 = 1:=by kernel_rfl
 have k2 : Tryz.prog.cellsOf 38 = 3:=by kernel_rfl
 have kk : Tryz.prog.cellsOf 44 = 6:=by kernel_rfl
 rw [kk] at hl
 match cs,hl with
 | c0 :: c1 :: c2 :: c3 :: c4 :: c5 :: [],_ =>
  simp only [k0,k1,k2,List.drop_zero,List.take_succ_cons,List.take_zero,List.drop_succ_cons] at h0 h1 h2 h3
  obtain ⟨k,e0,_,_⟩:=DataW.trod_int Tryz.underlying3 h0
  simp only [List.cons.injEq,and_true] at e0
  subst e0
  obtain ⟨g1,e1⟩:=open_handleT h1
  simp only [List.cons.injEq,and_true] at e1
  obtain ⟨rfl,rfl,rfl⟩:=e1
  obtain ⟨q,e2,_,_⟩:=DataW.trod_int Tryz.underlying3 h2
  simp only [List.cons.injEq,and_true] at e2
  subst e2
  obtain ⟨es,r1⟩:=open_ensT h3
  exact ⟨⟨k,g1,q,es⟩,c5,rfl,r1⟩
end
end
end Go.Proofs.YtblahkhniabhiaaGreatDoor
