/- Small facts on byte slices that lie in memory, for the walks of this seat; no condition. -/
import Derived.Test.YtblahkhniabhiaaGreatDoorProg
import Derived.WalkKit
namespace Go.Value
abbrev n0 : Value:=.slice none 0 0
end Go.Value
namespace Go.Value
abbrev i (n : Int) : Value:=.int .i64 n
end Go.Value
namespace Go.Proofs.YtblahkhniabhiaaGreatDoor
open Go.RowKit
set_option linter.unusedVariables false

theorem Tryz.infoB : (Tryz.prog.info? 5).map (fun i => (i.zero,i.size,i.bytes)) = some (some (.int .u8 0),1,1):=by kernel_rfl

def bcells (zs : List Int) : List Value:=zs.map (Value.int .u8)
@[simp] theorem bcells_length (zs : List Int) : (bcells zs).length = zs.length:=by simp [bcells]

def isBytes (zs : List Int) : Prop:=∀ j : Nat,0 ≤ zs[j]?.getD 0 ∧ zs[j]?.getD 0 ≤ 255

def Reads (w : World) (a : Option Addr) (zs : List Int) : Prop:=
 isBytes zs ∧ (zs = [] ∨ ∃ b off,a = some ⟨b,off,none⟩ ∧ b < w.heap.size ∧ ∀ i,i < zs.length → w.cell? ⟨b,off + i,none⟩ = some (.int .u8 (zs[i]?.getD 0)))

theorem Reads.below {w w' : World} {a : Option Addr} {zs : List Int} (h : Reads w a zs) (hb : Below w.heap.size w w') : Reads w' a zs:=by
 obtain ⟨h1,h2⟩:=h
 refine ⟨h1,?_⟩
 rcases h2 with h2 | ⟨b,off,ha,hlt,hc⟩
 ·exact .inl h2
 ·refine .inr ⟨b,off,ha,by have:=hb.size; omega,fun i hi => ?_⟩
  rw [hb.cell (p:=⟨b,off + i,none⟩) hlt]; exact hc i hi

def Owns (w : World) (base : Nat) (v : Value) (zs : List Int) : Prop:=w.ownsRow base 5 1 v zs.length (bcells zs)

theorem Owns.reads {w : World} {base : Nat} {a : Option Addr} {n cap : Nat} {zs : List Int} (hz : isBytes zs) (h : Owns w base (.slice a n cap) zs) : n = zs.length ∧ Reads w a zs:=by
 rcases h.2 with ⟨hv,h0⟩ | ⟨g,c,cur,hv,hg,hh,hnc,hm,hs,ht⟩
 ·simp only [Value.slice.injEq] at hv
  obtain ⟨rfl,rfl,rfl⟩:=hv
  exact ⟨h0.symm,hz,.inl (List.eq_nil_of_length_eq_zero h0)⟩
 ·simp only [Value.slice.injEq] at hv
  obtain ⟨rfl,rfl,rfl⟩:=hv
  refine ⟨rfl,hz,.inr ⟨g,0,rfl,lt_of_block hh,fun i hi => ?_⟩⟩
  have:=World.ownsRow.cellAt h i (by omega)
  rw [Nat.zero_add,this]
  simp [bcells,hi]

def laid (zs : List Int) (k : Nat) : List Int:=zs.take k ++ List.replicate (zs.length - k) 0
theorem laid_length (zs : List Int) (k : Nat) (h : k ≤ zs.length) : (laid zs k).length = zs.length:=by simp [laid]; omega
theorem laid_all (zs : List Int) : laid zs zs.length = zs:=by simp [laid]
theorem laid_none (zs : List Int) : laid zs 0 = List.replicate zs.length 0:=by simp [laid]
theorem laid_set (zs : List Int) (k : Nat) (h : k < zs.length) : (laid zs k).set k (zs[k]?.getD 0) = laid zs (k + 1):=by
 obtain ⟨m,hm⟩ : ∃ m,zs.length - k = m + 1:=⟨zs.length - k - 1,by omega⟩
 have hm' : zs.length - (k + 1) = m:=by omega
 unfold laid
 rw [hm,hm',List.replicate_succ,List.set_append,if_neg (by simp; omega),List.length_take,Nat.min_eq_left (by omega),Nat.sub_self,List.set_cons_zero]
 have e : zs.take (k + 1) = zs.take k ++ [zs[k]]:=List.take_succ_eq_append_getElem h
 rw [e,List.append_assoc]
 simp [h]
theorem madeCells_bytes (n : Nat) : (madeCells (Value.int .u8 0).cells (n * 1)).toList = bcells (List.replicate n 0):=by
 simp [madeCells,bcells,Value.cells]
 apply List.ext_getElem?
 intro i
 simp [List.getElem?_map,List.getElem?_replicate]
 by_cases h : i < n <;> simp [h,Nat.mod_one]

theorem grown_trans {a b c : World} {r : Option Nat} (h : a.grownBy b r) (k : b.grownBy c r) : a.grownBy c r:=
 ⟨k.os.trans h.os,k.tape.trans h.tape,k.output.trans h.output,Nat.le_trans h.size k.size,fun i hi hne => (k.block i (Nat.lt_of_lt_of_le hi h.size) hne).trans (h.block i hi hne)⟩
theorem isBytes_nil : isBytes []:=fun j => by simp
theorem qz1 {α : Type} (l : List α) (i : Nat) (a : α) : l.toArray.setIfInBounds i a = (l.set i a).toArray:=List.setIfInBounds_toArray l i a
theorem qz2 {α : Type} {x : α} {xs : List α} {a : α} : (x :: xs).set 0 a = a :: xs:=List.set_cons_zero
theorem qz3 {α : Type} {x : α} {xs : List α} {i : Nat} {a : α} : (x :: xs).set (i + 1) a = x :: xs.set i a:=List.set_cons_succ
theorem qz4 {α : Type} {xs : List α} {i : Nat} (h : i < xs.toArray.size) : xs.toArray[i] = xs[i]:=List.getElem_toArray h
theorem qz5 {α : Type} (a : α) (l : List α) (h : 0 < (a :: l).length) : (a :: l)[0] = a:=List.getElem_cons_zero a l h
theorem qz6 {α : Type} (a : α) (l : List α) (i : Nat) (h : i + 1 < (a :: l).length) : (a :: l)[i + 1] = l[i]'(Nat.lt_of_succ_lt_succ h):=List.getElem_cons_succ a l i h
theorem qz : (∀ (a : Act) (d : Tmp) (v : Value),a.put (some d) v = { a with tmps:=a.tmps.setIfInBounds d v }) ∧ (∀ (a : Act) (v : Value),a.put none v = a) ∧ (∀ {α : Type} (l : List α) (i : Nat) (a : α),l.toArray.setIfInBounds i a = (l.set i a).toArray) ∧ (∀ {α : Type} {x : α} {xs : List α} {a : α},(x :: xs).set 0 a = a :: xs) ∧ (∀ {α : Type} {x : α} {xs : List α} {i : Nat} {a : α},(x :: xs).set (i + 1) a = x :: xs.set i a) ∧ (∀ {α : Type} {xs : List α} {i : Nat} (h : i < xs.toArray.size),xs.toArray[i] = xs[i]) ∧ (∀ {α : Type} (a : α) (l : List α) (h : 0 < (a :: l).length),(a :: l)[0] = a) ∧ (∀ {α : Type} (a : α) (l : List α) (i : Nat) (h : i + 1 < (a :: l).length),(a :: l)[i + 1] = l[i]'(Nat.lt_of_succ_lt_succ h)):=⟨fun _ _ _ => rfl,fun _ _ => rfl,fun l i a => List.setIfInBounds_toArray l i a,List.set_cons_zero,List.set_cons_succ,fun h => List.getElem_toArray h,fun a l h => List.getElem_cons_zero a l h,fun a l i h => List.getElem_cons_succ a l i h⟩
end Go.Proofs.YtblahkhniabhiaaGreatDoor
