/- Joined: Laid OpenDisk Bools OpenLists TornAt OpenD OpenD2 RangeSt Same Strs3 ImplClaim ImplSpoil0 ImplSpoil. -/
import Derived.Test.YtjhaanenkeceiaaDoorRows
import Derived.Test.YtjhaanenkeceiaaDoorImplOk
import Derived.ProofKit
import Derived.ChangeSame
import Derived.ChangeVars
import Derived.JoinedOf
import Derived.LaidLaws
import Derived.Lay
import Derived.Stop.LaidErr
import Derived.OpenShut
import Derived.ShutString
import Derived.ChangeOld
import Derived.Below
import Derived.Test.YtjhaanenkeceiaaDoorDisk
import Derived.Lib.SmallJoins
import Derived.Deep.Slices
import Derived.Test.YtjhaanenkeceiaaDoorMem
import Derived.Deep.Grids
import Derived.Test.YtjhaanenkeceiaaDoorOwn
import Derived.Test.YtjhaanenkeceiaaDoorFrames
import Derived.Test.YtjhaanenkeceiaaDoorAppends
import Derived.Test.YtjhaanenkeceiaaDoorJBase
import Derived.RangeFuncNested
import Derived.RangeFuncBound
import Derived.RangeFuncCalls
import Derived.RangeFuncLeaves
import Derived.RangeFuncRecord
import Derived.Shelf.Abstract
import Derived.WalkKit
import Derived.OwnWalkIn
import Derived.TacticsInMore
import Derived.LoopNIn
import Derived.LoopIn
import Derived.Test.YtjhaanenkeceiaaDoorBase
import Derived.WalkSpells
import Derived.Laws.BytesArg
import Derived.Lib.Bytes
import Derived.Test.YtjhaanenkeceiaaDoorImplFrame
import Derived.ScopeJumps
import Derived.Walk3

section
/- What the package's variables hold when a call begins, and a start that is so; no condition. -/
namespace Go.Proofs.YtjhaanenkeceiaaDoor
open Go.ChangeShapes Go.WideShapes Go.ChangeAt Go.RowKit
set_option linter.unusedVariables false

theorem Tryd.own : ownKnob Tryd.prog.godebug = none := by kernel_rfl
theorem Tryd.laidOut : laidOutB Tryd.prog = true := by kernel_rfl
theorem Tryd.g0 : Tryd.prog.globalNamed "loop.example/g00341/impl.errNoSector" = some 2 := by kernel_rfl
theorem Tryd.g1 : Tryd.prog.globalNamed "loop.example/g00341/impl.errNotASector" = some 0 := by kernel_rfl
theorem Tryd.g2 : Tryd.prog.globalNamed "loop.example/g00341/impl.errTooManyWait" = some 1 := by kernel_rfl
theorem Tryd.g0Type : (Tryd.prog.globals[2]?).map (·.type) = some 85 := by kernel_rfl
theorem Tryd.g1Type : (Tryd.prog.globals[0]?).map (·.type) = some 85 := by kernel_rfl
theorem Tryd.g2Type : (Tryd.prog.globals[1]?).map (·.type) = some 85 := by kernel_rfl
theorem Tryd.cellsErr : Tryd.prog.cellsOf 157 = 1 := by kernel_rfl
theorem Tryd.cellsStr : Tryd.prog.cellsOf 9 = 1 := by kernel_rfl
theorem Tryd.star : "*" ++ "errors.errorString" = "*errors.errorString" := by decide
theorem Tryd.rowErr (u : TypeId) (h : Tryd.prog.typeName? 3 u = some "*errors.errorString") : u = 131 :=
  typeName_ptr_named (nm := "errors.errorString") (by rw [Tryd.star]; kernel_rfl) (by kernel_rfl) (by decide) u (by rw [Tryd.star]; exact h)

abbrev laid1 : List (String × DataW Unit) := [("loop.example/g00341/impl.errNoSector", Rows.laid_loop_example_g00341_impl_errNoSector)]
abbrev laid3 : List (String × DataW Unit) := [("loop.example/g00341/impl.errNoSector", Rows.laid_loop_example_g00341_impl_errNoSector), ("loop.example/g00341/impl.errNotASector", Rows.laid_loop_example_g00341_impl_errNotASector), ("loop.example/g00341/impl.errTooManyWait", Rows.laid_loop_example_g00341_impl_errTooManyWait)]
theorem laidWorld1_met (os : Os) (args : Array Value) : laidMetH Tryd.prog laid1 ((World.laidAll Tryd.prog os laid1).forCall (fun _ _ => 0) ⟨#[], args, []⟩).memory := laidMet_laidAll _ (by kernel_rfl) (by kernel_rfl)
theorem laidWorld3_met (os : Os) (args : Array Value) : laidMetH Tryd.prog laid3 ((World.laidAll Tryd.prog os laid3).forCall (fun _ _ => 0) ⟨#[], args, []⟩).memory := laidMet_laidAll _ (by kernel_rfl) (by kernel_rfl)

theorem var?_below {P : Program} {W W' : World} {n : String} {g : Nat} {cs : Array Value} (hg : P.globalNamed n = some g) (h : W.var? P n = some cs) (hb : Below W.heap.size W W') : W'.var? P n = some cs := by
  unfold World.var? at h ⊢
  simp only [hg, Option.bind_some] at h ⊢
  have hlt : g < W.heap.size := by
    rcases Nat.lt_or_ge g W.heap.size with h' | h'
    · exact h'
    · simp [Array.getElem?_eq_none h'] at h
  rw [hb.block g hlt]
  exact h

theorem sentinel1 {W : World} (h : laidMetH Tryd.prog laid1 W) : ∃ a, W.var? Tryd.prog "loop.example/g00341/impl.errNoSector" = some #[errV a] := by
  have h' : laidMet Tryd.prog laid1 W := h
  obtain ⟨a, s, hv, _⟩ := laid_sentinel h' Tryd.g0 Tryd.g0Type Tryd.underlying85 Tryd.rowErr Tryd.underlying131 Tryd.underlying157 rfl rfl Tryd.underlying9 Tryd.cellsErr Tryd.cellsStr
  exact ⟨a, hv⟩
theorem sentinel3 {W : World} (h : laidMetH Tryd.prog laid3 W) : ∃ a b c, W.var? Tryd.prog "loop.example/g00341/impl.errNoSector" = some #[errV a] ∧ W.var? Tryd.prog "loop.example/g00341/impl.errNotASector" = some #[errV b] ∧ W.var? Tryd.prog "loop.example/g00341/impl.errTooManyWait" = some #[errV c] := by
  have h' : laidMet Tryd.prog laid3 W := h
  obtain ⟨a, s, hv, _⟩ := laid_sentinel h' Tryd.g0 Tryd.g0Type Tryd.underlying85 Tryd.rowErr Tryd.underlying131 Tryd.underlying157 rfl rfl Tryd.underlying9 Tryd.cellsErr Tryd.cellsStr
  obtain ⟨b, s, hv1, _⟩ := laid_sentinel h'.tail Tryd.g1 Tryd.g1Type Tryd.underlying85 Tryd.rowErr Tryd.underlying131 Tryd.underlying157 rfl rfl Tryd.underlying9 Tryd.cellsErr Tryd.cellsStr
  obtain ⟨c, s, hv2, _⟩ := laid_sentinel h'.tail.tail Tryd.g2 Tryd.g2Type Tryd.underlying85 Tryd.rowErr Tryd.underlying131 Tryd.underlying157 rfl rfl Tryd.underlying9 Tryd.cellsErr Tryd.cellsStr
  exact ⟨a, b, c, hv, hv1, hv2⟩
theorem glob_of {W : World} {a : Addr} (h : W.var? Tryd.prog "loop.example/g00341/impl.errNoSector" = some #[errV a])   : Glob W a := by
  show W.cell? ⟨2, 0, none⟩ = some (errV a)
  simpa using World.var?_cell Tryd.g0 h 0
theorem glob1_of {W : World} {a : Addr} (h : W.var? Tryd.prog "loop.example/g00341/impl.errNotASector" = some #[errV a]) : W.cell? ⟨0, 0, none⟩ = some (errV a) := by simpa using World.var?_cell Tryd.g1 h 0
theorem glob2_of {W : World} {a : Addr} (h : W.var? Tryd.prog "loop.example/g00341/impl.errTooManyWait" = some #[errV a]) : W.cell? ⟨1, 0, none⟩ = some (errV a) := by simpa using World.var?_cell Tryd.g2 h 0
theorem vars1 {H : Type} (enc : TypeId × Value → H) {X : World} {a : Addr} (x0 : X.var? Tryd.prog "loop.example/g00341/impl.errNoSector" = some #[errV a]) (sp : Nat → Bool) :
    DataW.TrodVars enc Tryd.prog X sp ["loop.example/g00341/impl.errNoSector"] [tok enc (errV a)] [.cell 2 0] := vars_read1 enc Tryd.g0 Tryd.g0Type Tryd.underlying85 x0 trivial sp
theorem vars3 {H : Type} (enc : TypeId × Value → H) {X : World} {a b c : Addr} (x0 : X.var? Tryd.prog "loop.example/g00341/impl.errNoSector" = some #[errV a]) (x1 : X.var? Tryd.prog "loop.example/g00341/impl.errNotASector" = some #[errV b]) (x2 : X.var? Tryd.prog "loop.example/g00341/impl.errTooManyWait" = some #[errV c]) (sp : Nat → Bool) :
    DataW.TrodVars enc Tryd.prog X sp ["loop.example/g00341/impl.errNoSector", "loop.example/g00341/impl.errNotASector", "loop.example/g00341/impl.errTooManyWait"] [tok enc (errV a), tok enc (errV b), tok enc (errV c)] [.cell 2 0, .cell 0 0, .cell 1 0] :=
  ⟨2, 85, #[errV a], 1, [], [.cell 0 0, .cell 1 0], Tryd.g0, Tryd.g0Type, x0, trod_held (v := errV a) Tryd.underlying85 trivial 0, ⟨0, 85, #[errV b], 1, [], [.cell 1 0], Tryd.g1, Tryd.g1Type, x1, trod_held (v := errV b) Tryd.underlying85 trivial 0, vars_read1 enc Tryd.g2 Tryd.g2Type Tryd.underlying85 x2 trivial sp, rfl⟩, rfl⟩
end Go.Proofs.YtjhaanenkeceiaaDoor
end

section
/- A disk that came in as an argument, read as data, is a disk that the walks can read; no condition. -/
namespace Go.Proofs.YtjhaanenkeceiaaDoor
open Go.RowKit Go.Deep Go.ChangeShapes
set_option linter.unusedVariables false

section
variable {H : Type} {enc : TypeId × Value → H} {w : World} {held : Bool}

theorem spot_none {a : Addr} {v : Value} (h : w.cell? a = some v) : ∃ b off, a = ⟨b, off, none⟩ := by
  obtain ⟨b, off, spot⟩ := a
  have : spot = none := by simpa using World.cell?_spot h
  exact ⟨b, off, by rw [this]⟩
theorem add_plain (b off i : Nat) : (⟨b, off, none⟩ : Addr).add i = ⟨b, off + i, none⟩ := by
  unfold Addr.add
  by_cases hi : i = 0
  · subst hi; simp
  · simp [hi]

theorem open_bytes {fuel : Nat} {v : Value} {x : DataW H × List MemPlace} (h : DataW.trod enc Tryd.prog w 0 (fun _ => true) held fuel 22 [v] = some x) : ∃ zs, RdB w 0 w.heap.size v zs := by
  rcases open_ints Tryd.underlying22 Tryd.underlying5 (by kernel_rfl) h with ⟨hcs, _⟩ | ⟨a, len, cap, zs, hcs, _, hl, hm, hz, _, hcell, hwz⟩
  · simp only [List.cons.injEq, and_true] at hcs
    exact ⟨[], isBytes_nil, none, 0, 0, hcs, rfl, ⟨Nat.le_refl _, Nat.zero_le _, fun _ => ⟨rfl, rfl⟩⟩, .inl rfl⟩
  · simp only [List.cons.injEq, and_true] at hcs
    simp only [if_true] at hz
    refine ⟨zs.take len, ?_, some a, len, cap, hcs, by simp; omega, ⟨hl, hm, fun e => by cases e⟩, ?_⟩
    · intro j
      by_cases hj : j < len
      · rw [List.getElem?_take, if_pos hj]; exact range_u8 hwz j
      · rw [List.getElem?_take, if_neg hj]; simp
    · by_cases h0 : len = 0
      · exact .inl (by simp [h0])
      · obtain ⟨b, off, rfl⟩ := spot_none (w := w) (a := a) (v := .int .u8 (zs.getD 0 0)) (by have := hcell 0 (by omega); simpa [Addr.add] using this)
        refine .inr ⟨b, off, rfl, Nat.zero_le _, ?_, fun i hi => ?_⟩
        · have := hcell 0 (by omega); rw [add_plain] at this; exact block_lt_of_cell this
        · have hi' : i < len := by simp at hi; omega
          have := hcell i (by omega)
          rw [add_plain] at this
          rw [this, List.getElem?_take, if_pos hi']
          simp

theorem open_lists {fuel : Nat} {v : Value} {x : DataW H × List MemPlace} (h : DataW.trod enc Tryd.prog w 0 (fun _ => true) held fuel 23 [v] = some x) : ∃ zss, RdBB w 0 w.heap.size v zss := by
  rcases open_slice1 Tryd.underlying23 (by kernel_rfl) h with ⟨hcs, _⟩ | ⟨a, len, cap, m, n, V, D, Pl, hcs, _, hl, hm, hmm, _, hel⟩
  · simp only [List.cons.injEq, and_true] at hcs
    exact ⟨[], none, 0, 0, fun _ => undef, hcs, rfl, ⟨Nat.le_refl _, Nat.zero_le _, fun _ => ⟨rfl, rfl⟩⟩, .inl rfl, fun i hi => absurd hi (Nat.not_lt_zero _)⟩
  · simp only [List.cons.injEq, and_true] at hcs
    simp only [if_true] at hmm
    subst hmm
    obtain ⟨f, hf⟩ := choose_lt (n := len) (p := fun i zs => RdB w 0 w.heap.size (V i) zs) (fun i hi => open_bytes (hel i (by omega)).2)
    refine ⟨(List.range len).map f, some a, len, m, V, hcs, by simp, ⟨hl, hm, fun e => by cases e⟩, ?_, fun i hi => by simpa [hi] using hf i hi⟩
    by_cases h0 : len = 0
    · exact .inl h0
    · obtain ⟨b, off, rfl⟩ := spot_none (w := w) (a := a) (v := V 0) (by have := (hel 0 (by omega)).1; simpa [Addr.add] using this)
      refine .inr ⟨b, off, rfl, Nat.zero_le _, ?_, fun i hi => ?_⟩
      · have := (hel 0 (by omega)).1; rw [add_plain] at this; exact block_lt_of_cell this
      · have := (hel i (by omega)).1; rw [add_plain] at this; exact this

theorem open_waits {fuel : Nat} {v : Value} {x : DataW H × List MemPlace} (h : DataW.trod enc Tryd.prog w 0 (fun _ => true) held fuel 46 [v] = some x) : ∃ ws, RdWs w 0 w.heap.size v ws := by
  rcases open_slice Tryd.underlying46 h with ⟨hcs, _⟩ | ⟨a, len, cap, m, n, D, Pl, hcs, _, hl, hm, hmm, _, hel⟩
  · simp only [List.cons.injEq, and_true] at hcs
    exact ⟨[], none, 0, 0, fun _ => undef, hcs, rfl, ⟨Nat.le_refl _, Nat.zero_le _, fun _ => ⟨rfl, rfl⟩⟩, .inl rfl, fun i hi => absurd hi (Nat.not_lt_zero _)⟩
  · simp only [List.cons.injEq, and_true] at hcs
    simp only [if_true] at hmm
    subst hmm
    have hcz : Tryd.prog.cellsOf 109 = 2 := by kernel_rfl
    rw [hcz] at hel
    have hone : ∀ i, i < len → ∃ y : Value × Wt, w.cell? (a.add (i * 2)) = some (.int .i64 y.2.1) ∧ w.cell? (a.add (i * 2 + 1)) = some y.1 ∧ RdB w 0 w.heap.size y.1 y.2.2 := fun i hi => by
      obtain ⟨cs, hc, ht⟩ := hel i (by omega)
      obtain ⟨_, hlen, hcell⟩ := World.cells?_some hc
      match cs, hlen with
      | [c0, c1], _ =>
        have h0 := hcell 0 (by omega)
        have h1 := hcell 1 (by omega)
        rw [Go.Deep.add_add] at h0 h1
        obtain ⟨y0, y1, n', _, _, t0, t1⟩ := trod_struct2 Tryd.underlying109 ht
        have k0 : Tryd.prog.cellsOf 3 = 1 := by kernel_rfl
        have k1 : Tryd.prog.cellsOf 22 = 1 := by kernel_rfl
        simp only [k0, k1] at t0 t1
        obtain ⟨p, e0, _, _⟩ := DataW.trod_int Tryd.underlying3 t0
        have e0' : c0 = .int .i64 p := by simpa using e0
        subst e0'
        have t1' : DataW.trod enc Tryd.prog w 0 (fun _ => true) held n' 22 [c1] = some y1 := by simpa using t1
        obtain ⟨zs, hz⟩ := open_bytes t1'
        exact ⟨(c1, (p, zs)), by simpa using h0, by simpa using h1, hz⟩
    obtain ⟨f, hf⟩ := choose_lt (n := len) (p := fun i (y : Value × Wt) => w.cell? (a.add (i * 2)) = some (.int .i64 y.2.1) ∧ w.cell? (a.add (i * 2 + 1)) = some y.1 ∧ RdB w 0 w.heap.size y.1 y.2.2) hone
    refine ⟨(List.range len).map (fun i => (f i).2), some a, len, m, fun i => (f i).1, hcs, by simp, ⟨hl, hm, fun e => by cases e⟩, ?_, fun i hi => by simpa [hi] using (hf i hi).2.2⟩
    by_cases h0 : len = 0
    · exact .inl h0
    · obtain ⟨b, off, rfl⟩ := spot_none (w := w) (a := a) (v := .int .i64 (f 0).2.1) (by have := (hf 0 (by omega)).1; simpa [Addr.add] using this)
      refine .inr ⟨b, off, rfl, Nat.zero_le _, ?_, fun i hi => ?_⟩
      · have := (hf 0 (by omega)).1; rw [add_plain] at this; exact block_lt_of_cell this
      · have h1 := (hf i hi).1
        have h2 := (hf i hi).2.1
        rw [add_plain] at h1 h2
        refine ⟨by simpa [hi] using h1, by simpa [Nat.add_assoc] using h2⟩

set_option maxRecDepth 100000 in
theorem open_disk {b0 : Nat} {r : Reach} {v : Value} {x : DataW H} {p : List MemPlace} (hv : Value.okWide Tryd.prog w r b0 48 v) (h : DataW.Trod enc Tryd.prog w 0 (fun _ => true) held 48 v x p) : ∃ d : Dk, RdD w 0 w.heap.size v d := by
  obtain ⟨c0, c1, y0, y1, n, rfl, _, _, h0, h1⟩ := Go.Joins.open_agg2 Tryd.underlying48 (by kernel_rfl) (by kernel_rfl) hv h
  obtain ⟨zss, hz⟩ := open_lists h0
  obtain ⟨ws, hw⟩ := open_waits h1
  exact ⟨(zss, ws), c0, c1, rfl, hz, hw⟩
end
end Go.Proofs.YtjhaanenkeceiaaDoor
end

section
/- Lists of flags: what is read and owned of them, and what the verifier's helpers do with them. Conditions: at most 2^21 of them. -/
namespace Go.Proofs.YtjhaanenkeceiaaDoor
open Go.RowKit
set_option linter.unusedVariables false

theorem Tryd.infoF : (Tryd.prog.info? 4).map (fun i => (i.zero, i.size, i.bytes)) = some (some (.bool false), 1, 1) := by kernel_rfl

def fcells (bs : List Bool) : List Value := bs.map Value.bool
@[simp] theorem fcells_length (bs : List Bool) : (fcells bs).length = bs.length := by simp [fcells]

/-- v reads as the flags bs, which lie in blocks l .. h-1. -/
def RdF (w : World) (l h : Nat) (v : Value) (bs : List Bool) : Prop :=
  ∃ a len cap, v = .slice a len cap ∧ len = bs.length ∧ Headed a len cap ∧
    (bs = [] ∨ ∃ b off, a = some ⟨b, off, none⟩ ∧ l ≤ b ∧ b < h ∧ ∀ i, i < bs.length → w.cell? ⟨b, off + i, none⟩ = some (.bool (bs[i]?.getD false)))
theorem RdF.same {w w' : World} {l h : Nat} {v : Value} {bs : List Bool} (r : RdF w l h v bs) (t : SameIn l h w w') : RdF w' l h v bs := by
  obtain ⟨a, len, cap, hv, hl, hh, hc⟩ := r
  refine ⟨a, len, cap, hv, hl, hh, ?_⟩
  rcases hc with h0 | ⟨b, off, ha, h1, h2, hc⟩
  · exact .inl h0
  · exact .inr ⟨b, off, ha, h1, h2, fun i hi => by rw [t.cell h1 h2]; exact hc i hi⟩
theorem RdF.wide {w : World} {l h l' h' : Nat} {v : Value} {bs : List Bool} (r : RdF w l h v bs) (h1 : l' ≤ l) (h2 : h ≤ h') : RdF w l' h' v bs := by
  obtain ⟨a, len, cap, hv, hl, hh, hc⟩ := r
  refine ⟨a, len, cap, hv, hl, hh, ?_⟩
  rcases hc with h0 | ⟨b, off, ha, h3, h4, hc⟩
  · exact .inl h0
  · exact .inr ⟨b, off, ha, by omega, by omega, hc⟩

/-- v is the call's own, with the flags bs, in a block of l .. h-1. -/
def OwF (w : World) (l h : Nat) (v : Value) (bs : List Bool) : Prop := w.ownsRow l 4 1 v bs.length (fcells bs) ∧ Before v h
theorem OwF.same {w w' : World} {l h : Nat} {v : Value} {bs : List Bool} (o : OwF w l h v bs) (t : SameIn l h w w') : OwF w' l h v bs := ⟨ownsRow_same o.1 o.2 t, o.2⟩
theorem OwF.rd {w : World} {l h : Nat} {v : Value} {bs : List Bool} (o : OwF w l h v bs) : RdF w l h v bs := by
  obtain ⟨ho, hb⟩ := o
  rcases ho.2 with ⟨hv, h0⟩ | ⟨g, c, cur, hv, hg, hh, hnc, hm, _⟩
  · subst hv
    exact ⟨none, 0, 0, rfl, by omega, ⟨Nat.le_refl _, Nat.zero_le _, fun _ => ⟨rfl, rfl⟩⟩, .inl (List.eq_nil_of_length_eq_zero h0)⟩
  · subst hv
    refine ⟨_, bs.length, c, rfl, rfl, ⟨hnc, hm, fun e => by cases e⟩, .inr ⟨g, 0, rfl, hg, hb g rfl, fun i hi => ?_⟩⟩
    rw [Nat.zero_add, World.ownsRow.cellAt ho i (by omega)]
    simp [fcells, hi]

def laidF (bs : List Bool) (k : Nat) : List Bool := bs.take k ++ List.replicate (bs.length - k) false
theorem laidF_length (bs : List Bool) (k : Nat) (h : k ≤ bs.length) : (laidF bs k).length = bs.length := by simp [laidF]; omega
theorem laidF_all (bs : List Bool) : laidF bs bs.length = bs := by simp [laidF]
theorem laidF_none (bs : List Bool) : laidF bs 0 = List.replicate bs.length false := by simp [laidF]
theorem laidF_set (bs : List Bool) (k : Nat) (h : k < bs.length) : (laidF bs k).set k (bs[k]?.getD false) = laidF bs (k + 1) := by
  obtain ⟨m, hm⟩ : ∃ m, bs.length - k = m + 1 := ⟨bs.length - k - 1, by omega⟩
  have hm' : bs.length - (k + 1) = m := by omega
  unfold laidF
  rw [hm, hm', List.replicate_succ, List.set_append, if_neg (by simp; omega), List.length_take, Nat.min_eq_left (by omega), Nat.sub_self, List.set_cons_zero]
  have e : bs.take (k + 1) = bs.take k ++ [bs[k]] := List.take_succ_eq_append_getElem h
  rw [e, List.append_assoc]
  simp [h]
theorem madeCells_flags (n : Nat) : (madeCells (Value.bool false).cells (n * 1)).toList = fcells (List.replicate n false) := by
  simp [madeCells, fcells, Value.cells]
  apply List.ext_getElem?
  intro i
  simp [List.getElem?_map, List.getElem?_replicate]
  by_cases h : i < n <;> simp [h, Nat.mod_one]

theorem takeF_eq_step (xs ys : List Bool) (k : Nat) (hx : k < xs.length) (hy : k < ys.length) (h : xs.take k = ys.take k) :
    (xs[k]?.getD false = ys[k]?.getD false → xs.take (k + 1) = ys.take (k + 1)) := by
  intro e
  rw [List.take_succ_eq_append_getElem hx, List.take_succ_eq_append_getElem hy, h]
  simp [hx, hy] at e
  rw [e]

end Go.Proofs.YtjhaanenkeceiaaDoor
end

section
/- A list of bytes or of flags that came in as an argument, read as data; no condition. -/
namespace Go.Proofs.YtjhaanenkeceiaaDoor
open Go.RowKit Go.Deep Go.ChangeShapes Go.WideShapes
set_option linter.unusedVariables false

section
variable {H : Type} {enc : TypeId × Value → H} {w : World} {held : Bool}

set_option maxRecDepth 100000 in
theorem open_bytesArg {b0 : Nat} {r : Reach} {v : Value} {x : DataW H} {p : List MemPlace} (hv : Value.okWide Tryd.prog w r b0 22 v) (h : DataW.Trod enc Tryd.prog w 0 (fun _ => true) held 22 v x p) : ∃ zs, RdB w 0 w.heap.size v zs := by
  obtain ⟨a, n, c, rfl⟩ := okWide_slice Tryd.underlying22 hv
  obtain ⟨fuel, hf⟩ := h
  exact open_bytes hf
theorem open_flags {fuel : Nat} {v : Value} {x : DataW H × List MemPlace} (h : DataW.trod enc Tryd.prog w 0 (fun _ => true) held fuel 43 [v] = some x) : ∃ bs, RdF w 0 w.heap.size v bs := by
  rcases open_bools Tryd.underlying43 Tryd.underlying4 (by kernel_rfl) h with ⟨hcs, _⟩ | ⟨a, len, cap, B, hcs, _, hl, hm, _, hcell⟩
  · simp only [List.cons.injEq, and_true] at hcs
    exact ⟨[], none, 0, 0, hcs, rfl, ⟨Nat.le_refl _, Nat.zero_le _, fun _ => ⟨rfl, rfl⟩⟩, .inl rfl⟩
  · simp only [List.cons.injEq, and_true] at hcs
    refine ⟨(List.range len).map B, some a, len, cap, hcs, by simp, ⟨hl, hm, fun e => by cases e⟩, ?_⟩
    by_cases h0 : len = 0
    · exact .inl (by simp [h0])
    · obtain ⟨b, off, rfl⟩ := spot_none (w := w) (a := a) (v := .bool (B 0)) (by have := hcell 0 (by omega); simpa [Addr.add] using this)
      refine .inr ⟨b, off, rfl, Nat.zero_le _, ?_, fun i hi => ?_⟩
      · have := hcell 0 (by omega); rw [add_plain] at this; exact block_lt_of_cell this
      · have hi' : i < len := by simpa using hi
        have := hcell i (by omega)
        rw [add_plain] at this
        rw [this]
        simp [hi']
set_option maxRecDepth 100000 in
theorem open_boolsArg {b0 : Nat} {r : Reach} {v : Value} {x : DataW H} {p : List MemPlace} (hv : Value.okWide Tryd.prog w r b0 43 v) (h : DataW.Trod enc Tryd.prog w 0 (fun _ => true) held 43 v x p) : ∃ bs, RdF w 0 w.heap.size v bs := by
  obtain ⟨a, n, c, rfl⟩ := okWide_slice Tryd.underlying43 hv
  obtain ⟨fuel, hf⟩ := h
  exact open_flags hf
end
end Go.Proofs.YtjhaanenkeceiaaDoor
end

section
/- laws.at, as a plain function; no condition. -/
namespace Go.Proofs.YtjhaanenkeceiaaDoor
open Go.RowKit
set_option linter.unusedVariables false
set_option linter.unusedSimpArgs false

def atN (cs : List Int) (k : Nat) : Int := if cs.length = 0 then 0 else cs[k % cs.length]?.getD 0
theorem atN_range {cs : List Int} (h : isBytes cs) (k : Nat) : 0 ≤ atN cs k ∧ atN cs k ≤ 255 := by
  unfold atN
  split
  · omega
  · exact h (k % cs.length)
theorem at_any (a : Option Addr) (cs : List Int) (n cap k : Nat) (w : World) (r : Reads w a cs) (hn : n = cs.length) (hm : n ≤ maxLen) (hk : k ≤ 1000000) :
    Calls Tryd.prog 15 #[.slice a n cap, .int .i64 k] w fun e w' => e = .returned (.int .i64 (atN cs k)) ∧ Below w.heap.size w w' := by
  unfold maxLen at hm
  unfold atN
  obtain ⟨hb, hc⟩ := r
  by_cases h0 : n = 0
  · rw [if_pos (by omega)]
    subst h0
    clear hc hb hn
    go_enter Tryd.func15, Tryd.ntmps15
    go_wp2
    go_ret
    exact ⟨rfl, Below.refl _ _⟩
  · rw [if_neg (by omega)]
    rcases hc with hc | ⟨b, off, rfl, hb2, hc⟩
    · rw [hc] at hn; simp at hn; omega
    have hkn : k % n < n := Nat.mod_lt _ (by omega)
    have hcell := hc (k % n) (by omega)
    have hb3 := hb (k % n)
    rw [← hn]
    generalize cs[k % n]?.getD 0 = z at hcell hb3 ⊢
    have htm : (k : Int).tmod (n : Int) = ((k % n : Nat) : Int) := by rw [Int.tmod_eq_emod_of_nonneg (by omega)]; rfl
    generalize k % n = q at hcell hkn htm
    have e0 : ((n : Int) == 0) = false := by simp; omega
    clear hc hb hn
    go_enter Tryd.func15, Tryd.ntmps15
    go_wp2
    go_ret
    exact ⟨rfl, Below.refl _ _⟩
end Go.Proofs.YtjhaanenkeceiaaDoor
end

section
/- What opening a disk gives, as a plain function. No walk. -/
namespace Go.Proofs.YtjhaanenkeceiaaDoor
set_option linter.unusedVariables false

/-- The piece that a sector has. -/
def pieceS (S : List (List Int)) (i : Nat) : List Int := ((S[i]?.getD []).drop 6).take 24
def catN (S : List (List Int)) (P k : Nat) : List Int := ((List.range k).map (fun i => pieceS S (P + i))).flatten
def sizeAt (S : List (List Int)) (P : Nat) : Nat := ((S[P]?.getD [])[4]?.getD 0).toNat
/-- The bytes that the sectors from P on speak of. -/
def claimD (S : List (List Int)) (P : Nat) : List Int := if P < S.length ∧ P + manyN (sizeAt S P) ≤ S.length then (catN S P (manyN (sizeAt S P))).take (sizeAt S P) else []
/-- Do just these sectors lie from P on? -/
def matchB (S : List (List Int)) (P : Nat) (fr : List (List Int)) : Bool := decide (fr.length ≤ S.length - P) && (List.range fr.length).all (fun i => S[P + i]?.getD [] == fr[i]?.getD [])
/-- The record at P, if one lies there. -/
def readD (S : List (List Int)) (P q : Nat) : Option (List Int) :=
  if q < 60000 ∧ P < S.length ∧ sizeAt S P ≤ 200 ∧ P + manyN (sizeAt S P) ≤ S.length ∧ matchB S P (frameN q (claimD S P)) = true then some (claimD S P) else none
def runN (S : List (List Int)) : Nat → Nat × Nat × List (List Int) → Nat × Nat × List (List Int)
  | 0, s => s
  | k + 1, (P, q, acc) => match readD S P q with
    | none => (P, q, acc)
    | some r => runN S k (P + manyN r.length, q + 1, acc ++ [r])
def openS (S : List (List Int)) : Nat × Nat × List (List Int) := runN S (S.length + 1) (0, 0, [])
/-- On the way: so far have they come. -/
def OpenAt (S : List (List Int)) (P q : Nat) (acc : List (List Int)) : Prop := P ≤ S.length ∧ q ≤ P ∧ acc.length ≤ P ∧ (∀ i : Nat, (acc[i]?.getD []).length ≤ 200) ∧ ∃ k, S.length + 1 ≤ k + P ∧ runN S k (P, q, acc) = openS S
theorem OpenAt.start (S : List (List Int)) : OpenAt S 0 0 [] := ⟨Nat.zero_le _, Nat.le_refl _, Nat.le_refl _, fun i => by simp, _, by omega, rfl⟩
theorem OpenAt.stop {S : List (List Int)} {P q : Nat} {acc : List (List Int)} (h : OpenAt S P q acc) (hn : readD S P q = none) : openS S = (P, q, acc) := by
  obtain ⟨hP, _, _, _, k, hk, hr⟩ := h
  cases k with
  | zero => omega
  | succ k => rw [runN, hn] at hr; exact hr.symm

theorem whole_len {S : List (List Int)} (hw : ∀ i, i < S.length → (S[i]?.getD []).length = 32) (i : Nat) (h : i < S.length) : (pieceS S i).length = 24 := by
  unfold pieceS
  rw [List.length_take, List.length_drop, hw i h]; rfl
theorem catN_succ (S : List (List Int)) (P k : Nat) : catN S P (k + 1) = catN S P k ++ pieceS S (P + k) := by
  unfold catN
  rw [List.range_succ, List.map_append, List.flatten_append]
  simp
theorem catN_len {S : List (List Int)} (hw : ∀ i, i < S.length → (S[i]?.getD []).length = 32) (P k : Nat) (h : P + k ≤ S.length) : (catN S P k).length = 24 * k := by
  induction k with
  | zero => simp [catN]
  | succ k ih =>
    rw [catN_succ, List.length_append, ih (by omega), whole_len hw _ (by omega)]; omega
theorem manyN_most (n : Nat) : n ≤ 24 * manyN n := by unfold manyN; split <;> omega
theorem claimD_len {S : List (List Int)} (hw : ∀ i, i < S.length → (S[i]?.getD []).length = 32) (P : Nat) (h : P < S.length ∧ P + manyN (sizeAt S P) ≤ S.length) : (claimD S P).length = sizeAt S P := by
  unfold claimD
  rw [if_pos h, List.length_take, catN_len hw P _ h.2]
  have := manyN_most (sizeAt S P)
  omega
theorem OpenAt.next {S : List (List Int)} {P q : Nat} {acc : List (List Int)} {r : List Int} (hw : ∀ i, i < S.length → (S[i]?.getD []).length = 32) (h : OpenAt S P q acc) (hn : readD S P q = some r) : OpenAt S (P + manyN r.length) (q + 1) (acc ++ [r]) := by
  obtain ⟨hP, hq, ha, hl, k, hk, hr⟩ := h
  have hp := manyN_pos r.length
  have h1 : r = claimD S P ∧ (q < 60000 ∧ P < S.length ∧ sizeAt S P ≤ 200 ∧ P + manyN (sizeAt S P) ≤ S.length ∧ matchB S P (frameN q (claimD S P)) = true) := by
    unfold readD at hn
    split at hn
    · rename_i hc; simp only [Option.some.injEq] at hn; exact ⟨hn.symm, hc⟩
    · cases hn
  have hlen : r.length = sizeAt S P := by rw [h1.1]; exact claimD_len hw P ⟨h1.2.2.1, h1.2.2.2.2.1⟩
  refine ⟨by rw [hlen]; exact h1.2.2.2.2.1, by omega, by simp; omega, fun i => ?_, ?_⟩
  · rw [getD_snoc]
    split
    · exact hl i
    · split
      · rw [hlen]; exact h1.2.2.2.1
      · simp
  · cases k with
    | zero => omega
    | succ k => exact ⟨k, by omega, by rw [runN, hn] at hr; exact hr⟩
theorem sec_byte4 (q : Nat) (zs : List Int) (k : Nat) : (secN q zs k)[4]?.getD 0 = (zs.length : Int) := by simp [secN]
/-- What the program asks comes to the same. -/
theorem read_same {S : List (List Int)} (hw : ∀ i, i < S.length → (S[i]?.getD []).length = 32) (hb : ∀ i : Nat, isBytes (S[i]?.getD [])) (P q : Nat) (hq : q < 60000) :
    readD S P q = if frameD (q : Int) (claimD S P) ≠ [] ∧ matchB S P (frameD (q : Int) (claimD S P)) = true then some (claimD S P) else none := by
  have hfr : ∀ zs : List Int, zs.length ≤ 200 → frameD (q : Int) zs = frameN q zs := fun zs hz => by unfold frameD; rw [if_pos (by omega), Int.toNat_natCast]
  have hne : ∀ zs : List Int, frameN q zs ≠ [] := fun zs h => by
    have h1 := congrArg List.length h
    have h2 := manyN_pos zs.length
    unfold frameN at h1
    simp at h1
    omega
  by_cases hfit : P < S.length ∧ P + manyN (sizeAt S P) ≤ S.length
  · have hl := claimD_len hw P hfit
    by_cases h2 : sizeAt S P ≤ 200
    · rw [hfr _ (by omega)]
      unfold readD
      by_cases hm : matchB S P (frameN q (claimD S P)) = true
      · rw [if_pos ⟨hq, hfit.1, h2, hfit.2, hm⟩, if_pos ⟨hne _, hm⟩]
      · rw [if_neg (fun h => hm h.2.2.2.2), if_neg (fun h => hm h.2)]
    · have hf : frameD (q : Int) (claimD S P) = [] := by unfold frameD; rw [if_neg (by omega)]
      unfold readD
      rw [if_neg (fun h => h2 h.2.2.1), hf, if_neg (fun h => h.1 rfl)]
  · have hc : claimD S P = [] := by unfold claimD; rw [if_neg hfit]
    have h1 : readD S P q = none := by unfold readD; rw [if_neg (fun h => hfit ⟨h.2.1, h.2.2.2.1⟩)]
    rw [h1, hc, hfr [] (by simp), if_neg]
    rintro ⟨_, hm⟩
    unfold matchB at hm
    have hfl : (frameN q []).length = 1 := by simp [frameN, manyN]
    rw [hfl] at hm
    simp only [Bool.and_eq_true, decide_eq_true_eq, List.all_eq_true, List.mem_range, beq_iff_eq] at hm
    have hP : P < S.length := by omega
    have h4 := hm.2 0 (by omega)
    rw [Nat.add_zero] at h4
    have h5 : (frameN q [])[0]?.getD [] = secN q [] 0 := by simp [frameN, manyN]
    rw [h5] at h4
    have h6 : sizeAt S P = 0 := by unfold sizeAt; rw [h4, sec_byte4]; rfl
    exact hfit ⟨hP, by rw [h6]; simp [manyN]; omega⟩
end Go.Proofs.YtjhaanenkeceiaaDoor
end

section
/- A record that is appended where a disk's records end is read there, behind all ahead of it. No walk. -/
namespace Go.Proofs.YtjhaanenkeceiaaDoor
set_option linter.unusedVariables false

theorem read_parts {S : List (List Int)} {P q : Nat} {r : List Int} (hr : readD S P q = some r) : r = claimD S P ∧ q < 60000 ∧ P < S.length ∧ sizeAt S P ≤ 200 ∧ P + manyN (sizeAt S P) ≤ S.length ∧ matchB S P (frameN q (claimD S P)) = true := by
  unfold readD at hr
  split at hr
  · rename_i hc; simp only [Option.some.injEq] at hr; exact ⟨hr.symm, hc⟩
  · cases hr
theorem read_below {S S' : List (List Int)} (hw : ∀ i, i < S.length → (S[i]?.getD []).length = 32) (hl : S'.length = S.length) {P q : Nat} {r : List Int} (hr : readD S P q = some r) (hs : ∀ i, i < P + manyN r.length → S'[i]?.getD [] = S[i]?.getD []) : readD S' P q = some r := by
  obtain ⟨h1, h2, h3, h4, h5, h6⟩ := read_parts hr
  have hlen : r.length = sizeAt S P := by rw [h1]; exact claimD_len hw P ⟨h3, h5⟩
  rw [hlen] at hs
  have hp := manyN_pos (sizeAt S P)
  have hz : sizeAt S' P = sizeAt S P := by unfold sizeAt; rw [hs P (by omega)]
  have hcat : catN S' P (manyN (sizeAt S P)) = catN S P (manyN (sizeAt S P)) := by
    unfold catN
    congr 1
    refine List.map_congr_left (fun i hi => ?_)
    unfold pieceS
    rw [hs (P + i) (by have := List.mem_range.1 hi; omega)]
  have hc : claimD S' P = claimD S P := by
    unfold claimD
    rw [hz, hcat, hl]
  have hm : matchB S' P (frameN q (claimD S P)) = true := by
    unfold matchB at h6 ⊢
    rw [Bool.and_eq_true, decide_eq_true_eq, List.all_eq_true] at h6 ⊢
    refine ⟨by rw [hl]; exact h6.1, fun i hi => ?_⟩
    have hi' := List.mem_range.1 hi
    rw [frameN_len, ← h1, hlen] at hi'
    rw [hs (P + i) (by omega)]
    exact h6.2 i hi
  unfold readD
  rw [hc, if_pos ⟨h2, by omega, by rw [hz]; exact h4, by rw [hz]; omega, hm⟩, h1]
theorem run_prefix (S : List (List Int)) : ∀ (k P q : Nat) (acc : List (List Int)), ∃ t, (runN S k (P, q, acc)).2.2 = acc ++ t := by
  intro k
  induction k with
  | zero => intro P q acc; exact ⟨[], by simp [runN]⟩
  | succ k ih =>
    intro P q acc
    rw [runN]
    split
    · exact ⟨[], by simp⟩
    · rename_i r _
      obtain ⟨t, ht⟩ := ih (P + manyN r.length) (q + 1) (acc ++ [r])
      exact ⟨[r] ++ t, by rw [ht, List.append_assoc]⟩
theorem run_same {S S' : List (List Int)} (hw : ∀ i, i < S.length → (S[i]?.getD []).length = 32) (hl : S'.length = S.length) {Pe qe : Nat} {acce : List (List Int)} (hs : ∀ i, i < Pe → S'[i]?.getD [] = S[i]?.getD []) :
    ∀ (k P q : Nat) (acc : List (List Int)), runN S k (P, q, acc) = (Pe, qe, acce) → S.length + 1 ≤ k + P → P ≤ Pe ∧ ∃ k', runN S' k (P, q, acc) = runN S' k' (Pe, qe, acce) ∧ S.length + 1 ≤ k' + Pe := by
  intro k
  induction k with
  | zero =>
    intro P q acc h hk
    rw [runN] at h
    simp only [Prod.mk.injEq] at h
    obtain ⟨rfl, rfl, rfl⟩ := h
    exact ⟨Nat.le_refl _, 0, rfl, hk⟩
  | succ k ih =>
    intro P q acc h hk
    cases hr : readD S P q with
    | none =>
      rw [runN, hr] at h
      simp only [Prod.mk.injEq] at h
      obtain ⟨rfl, rfl, rfl⟩ := h
      exact ⟨Nat.le_refl _, k + 1, rfl, hk⟩
    | some r =>
      rw [runN, hr] at h
      have hp := manyN_pos r.length
      obtain ⟨h1, k', h2, h3⟩ := ih (P + manyN r.length) (q + 1) (acc ++ [r]) h (by omega)
      refine ⟨by omega, k', ?_, h3⟩
      rw [runN, read_below hw hl hr (fun i hi => hs i (by omega))]
      exact h2
/-- The frame's sectors, laid. -/
theorem flush_frame (S : List (List Int)) (P : Nat) (fr : List (List Int)) (hw : ∀ i, i < S.length → (S[i]?.getD []).length = 32) (hf : ∀ i, i < fr.length → (fr[i]?.getD []).length = 32) (hfit : P + fr.length ≤ S.length) :
    ∀ k, k ≤ fr.length → (flushS S (frameW P (fr.take k))).length = S.length ∧ (∀ i, (flushS S (frameW P (fr.take k)))[i]?.getD [] = if P ≤ i ∧ i < P + k then fr[i - P]?.getD [] else S[i]?.getD []) := by
  intro k
  induction k with
  | zero =>
    intro _
    refine ⟨by simp [frameW, flushS], fun i => ?_⟩
    rw [if_neg (by omega)]
    simp [frameW, flushS]
  | succ k ih =>
    intro hk
    obtain ⟨h1, h2⟩ := ih (by omega)
    have hst : flushS S (frameW P (fr.take (k + 1))) = stepS (flushS S (frameW P (fr.take k))) ((P : Int) + (k : Int), fr[k]?.getD []) 32 := by
      rw [frameW_next _ _ _ (by omega)]
      unfold flushS
      rw [List.foldl_append]; rfl
    have htn : ((P : Int) + (k : Int)).toNat = P + k := by omega
    have hold : (flushS S (frameW P (fr.take k)))[P + k]?.getD [] = S[P + k]?.getD [] := by rw [h2, if_neg (by omega)]
    rw [hst]
    unfold stepS
    simp only [htn]
    rw [hold, mixed_all (hw _ (by omega)) (hf k (by omega))]
    refine ⟨by rw [List.length_set]; exact h1, fun i => ?_⟩
    by_cases hi : i = P + k
    · subst hi
      rw [List.getElem?_set_self (by omega), if_pos (by omega)]
      simp
    · rw [List.getElem?_set_ne (by omega), h2]
      by_cases h3 : P ≤ i ∧ i < P + k
      · rw [if_pos h3, if_pos (by omega)]
      · rw [if_neg h3, if_neg (by omega)]
theorem sec_piece (q : Nat) (zs : List Int) (k : Nat) : ((secN q zs k).drop 6).take 24 = pieceN zs k ++ List.replicate (24 - (pieceN zs k).length) 0 := by
  have h := pieceN_length zs k
  have h2 : Nat.min (zs.length - 24 * k) 24 ≤ 24 := Nat.min_le_right _ _
  unfold secN
  rw [List.drop_append, List.drop_eq_nil_of_le (by simp), List.nil_append]
  simp only [List.length_cons, List.length_nil, Nat.reduceAdd, Nat.sub_self, List.drop_zero]
  rw [← List.append_assoc, List.take_append, List.take_of_length_le (by simp; omega)]
  have h3 : 24 - (pieceN zs k ++ List.replicate (24 - (pieceN zs k).length) 0).length = 0 := by simp; omega
  rw [h3, List.take_zero, List.append_nil]
theorem cat_frame {S' : List (List Int)} {P q : Nat} {zs : List Int} (hat : ∀ i, i < manyN zs.length → S'[P + i]?.getD [] = secN q zs i) : ∀ k, k ≤ manyN zs.length → catN S' P k = zs.take (24 * k) ++ List.replicate (24 * k - zs.length) 0 := by
  intro k
  induction k with
  | zero => intro _; simp [catN]
  | succ k ih =>
    intro hk
    have hm := manyN_at zs.length k (by omega)
    rw [catN_succ, ih (by omega)]
    unfold pieceS
    rw [hat k (by omega), sec_piece]
    have h0 : 24 * k - zs.length = 0 := by omega
    have hpl := pieceN_length zs k
    have hpl2 : (pieceN zs k).length = min (zs.length - 24 * k) 24 := hpl
    rw [h0, List.replicate_zero, List.append_nil, ← List.append_assoc]
    congr 1
    · unfold pieceN
      rw [show 24 * (k + 1) = 24 * k + 24 by omega, List.take_add]
    · congr 1
      omega
theorem read_frame {S' : List (List Int)} {P q : Nat} {zs : List Int} (hq : q < 60000) (hz : zs.length ≤ 200) (hfit : P + manyN zs.length ≤ S'.length) (hat : ∀ i, i < manyN zs.length → S'[P + i]?.getD [] = secN q zs i) : readD S' P q = some zs := by
  have hp := manyN_pos zs.length
  have hs : sizeAt S' P = zs.length := by
    unfold sizeAt
    have := hat 0 hp
    rw [Nat.add_zero] at this
    rw [this, sec_byte4]; rfl
  have hc : claimD S' P = zs := by
    unfold claimD
    rw [hs, if_pos ⟨by omega, hfit⟩, cat_frame hat _ (Nat.le_refl _), List.take_append]
    have := manyN_most zs.length
    rw [List.take_take, List.length_take]
    have h1 : min zs.length (24 * manyN zs.length) = zs.length := by omega
    rw [h1, List.take_of_length_le (Nat.le_refl _)]
    have h2 : zs.length - min (24 * manyN zs.length) zs.length = 0 := by omega
    rw [h2, List.take_zero, List.append_nil]
  unfold readD
  rw [hc, hs, if_pos]
  refine ⟨hq, by omega, hz, hfit, ?_⟩
  unfold matchB
  rw [Bool.and_eq_true, decide_eq_true_eq, List.all_eq_true, frameN_len]
  refine ⟨by omega, fun i hi => ?_⟩
  rw [hat i (List.mem_range.1 hi), frameN_at q zs i (List.mem_range.1 hi)]
  exact beq_self_eq_true _
/-- What was appended at the end is read behind all ahead of it. -/
theorem open_append {S : List (List Int)} (hw : ∀ i, i < S.length → (S[i]?.getD []).length = 32) {P q : Nat} {acc : List (List Int)} (ho : openS S = (P, q, acc)) (hP : P ≤ S.length) (zs : List Int) (hq : q < 60000) (hz : zs.length ≤ 200) (hfit : P + manyN zs.length ≤ S.length) :
    ∃ t, (openS (flushS S (frameW P (frameN q zs)))).2.2 = acc ++ [zs] ++ t := by
  have hfl := frameN_len q zs
  obtain ⟨h1, h2⟩ := flush_frame S P (frameN q zs) hw (fun i hi => by rw [hfl] at hi; rw [frameN_at q zs i hi]; exact secN_length q zs i) (by rw [hfl]; exact hfit) _ (Nat.le_refl _)
  rw [List.take_of_length_le (Nat.le_refl _)] at h1 h2
  rw [hfl] at h2
  generalize flushS S (frameW P (frameN q zs)) = S' at h1 h2
  have hat : ∀ i, i < manyN zs.length → S'[P + i]?.getD [] = secN q zs i := fun i hi => by
    rw [h2, if_pos (by omega), Nat.add_sub_cancel_left, frameN_at q zs i hi]
  obtain ⟨_, k', hk1, hk2⟩ := run_same (S' := S') hw h1 (fun i hi => by rw [h2, if_neg (by omega)]) (S.length + 1) 0 0 [] ho (by omega)
  unfold openS
  rw [h1, hk1]
  cases k' with
  | zero => omega
  | succ k' =>
    rw [runN, read_frame hq hz (by omega) hat]
    obtain ⟨t, ht⟩ := run_prefix S' k' (P + manyN zs.length) (q + 1) (acc ++ [zs])
    exact ⟨t, ht⟩
theorem runN_le {S : List (List Int)} (hw : ∀ i, i < S.length → (S[i]?.getD []).length = 32) : ∀ (k P q : Nat) (acc : List (List Int)), P ≤ S.length → (runN S k (P, q, acc)).1 ≤ S.length := by
  intro k
  induction k with
  | zero => intro P q acc h; exact h
  | succ k ih =>
    intro P q acc h
    rw [runN]
    split
    · exact h
    · rename_i r hr
      obtain ⟨h1, _, h3, _, h5, _⟩ := read_parts hr
      have hlen : r.length = sizeAt S P := by rw [h1]; exact claimD_len hw P ⟨h3, h5⟩
      exact ih _ _ _ (by rw [hlen]; exact h5)
end Go.Proofs.YtjhaanenkeceiaaDoor
end

section
/- A range over a function that keeps state of its own in cells: the statement, and one round, at the wide fence. No program's text is named here. -/
namespace Go.Proofs.YtjhaanenkeceiaaDoor
open Go.RowKit Go.Shelf
set_option linter.unusedVariables false

/-- The record of a loop that lies outermost. -/
def recOf (fn : FuncId) (tmps : Array Value) (ps : Array Tmp) (assign body : Code) (D : Nat) (st : LoopState) : Loop := { state := st, pending := none, fn := fn, tmps := tmps, params := ps, assign := assign, body := body, defers := D }

theorem range_st {P : Program} {g : Operand} {ps : Array Tmp} {assign body : Code} {Q : Exit → Act → World → Prop} {a : Act} {w : World} {gf : Nat} {bnd : Array Value} (hg : a.eval g = .func (.func gf) bnd #[])
    (eg : Enters P gf) (Fin : World → Prop)
    (hiter : ∀ fn, Calls P gf (bnd ++ #[.func (.yield (w.heap.size + 1)) #[] #[]]) ((w.alloc (.deferred (some []))).alloc (.loop (recOf fn a.tmps ps assign body w.heap.size .ready))) fun e W' => (∃ v, e = .returned v) ∧ W'.heap[w.heap.size + 1]? = some (.loop (recOf fn a.tmps ps assign body w.heap.size .ready)) ∧ Fin W')
    (hdone : ∀ (r : Loop) (W : World), Fin W → w.heap.size + 1 < W.heap.size → Q .normal { a with defers := { target := .collected w.heap.size, args := #[] } :: a.defers } (W.putObj (w.heap.size + 1) (.loop r))) :
    (Code.rangeFunc g ps assign body).wp P Q a w := by
  refine (wpIn_wide (n := 3)).1 (wpIn_rangeFunc ?_)
  intro fn hfn
  obtain ⟨W1, hW1⟩ : ∃ W1, (w.alloc (.deferred (some []))).alloc (.loop (recOf fn a.tmps ps assign body w.heap.size .ready)) = W1 := ⟨_, rfl⟩
  have hi := hiter fn
  rw [hW1] at hi
  refine ⟨w.heap.size + 1, [{ target := .collected w.heap.size, args := #[] }], W1, { target := .fn (.func gf) #[], args := bnd ++ #[.func (.yield (w.heap.size + 1)) #[] #[]] }, W1, gf, bnd ++ #[.func (.yield (w.heap.size + 1)) #[] #[]], W1, by rw [← hW1]; exact run_enterLoop_outer fn a.tmps ps assign body, ?_, fun _ _ => trivial, ?_, fun _ => by omega, ?_⟩
  · simp only [resolve, hg]
    simp [go_sem]
  · simp [invoke, go_sem, eg _ _]
  · refine callsIn_wide.2 (hi.mono ?_)
    rintro e W' ⟨⟨v, rfl⟩, hl, hF⟩
    exact ⟨none, _, run_endLoop hl (by simp [recOf]), hdone _ _ hF (Array.getElem?_eq_some_iff.1 hl).1⟩

theorem round_st {P : Program} {m L : Nat} {fn : FuncId} {tmps : Array Value} {ps : Array Tmp} {assign body : Code} {D : Nat} {args : Array Value} {W : World} {R : Ending → World → Prop} (hl : W.heap[L]? = some (.loop (recOf fn tmps ps assign body D .ready))) (hs : args.size = ps.size) (a₁ : Act)
    (hassign : ∀ K : Act → World → Prop, K a₁ W → assign.wpIn (Fence.wide.inRound L) m P (Exit.then K (fun _ _ _ => False)) { tmps := (ps.zip args).foldl (fun t (p, v) => t.setIfInBounds p v) tmps, defers := [] } W)
    (hbody : body.wpIn (Fence.wide.inRound L) m P (fun e a' W3 => e = .normal ∧ W3.heap[L]? = some (.loop (recOf fn tmps ps assign body D .busy)) ∧ R (.returned (.bool true)) (W3.putObj L (.loop (recOf fn tmps ps assign body D .ready)))) a₁ (W.putObj L (.loop (recOf fn tmps ps assign body D .busy)))) :
    YieldAt Fence.wide m P L args W R := by
  refine ⟨fn, _, assign, body, run_yield hl hs, roundIn_of_wpIn trivial (hassign _ ⟨_, run_beginRound hl rfl, ?_⟩)⟩
  refine wpIn_mono hbody ?_
  rintro e a3 W3 ⟨rfl, hl3, hR⟩
  exact ⟨_, _, run_endRound none hl3, hR⟩
end Go.Proofs.YtjhaanenkeceiaaDoor
end

section
/- The verifier's sameBytes tells two slices of the same bytes to be the same. Condition: at most 2^21 bytes. -/
namespace Go.Proofs.YtjhaanenkeceiaaDoor
open Go.RowKit
set_option linter.unusedVariables false

theorem conv_any (a : Option Addr) (xs : List Int) (len cap : Nat) (w : World) (hx : Reads w a xs) (hl : len = xs.length) : (convert 22 9 (.slice a len cap)).run Tryd.prog w = .ok (.string (strOfNums xs)) w := by
  subst hl
  cases a with
  | none =>
    rcases hx.2 with rfl | ⟨b, off, ha, _⟩
    · exact run_convert_bytes_nil w 22 5 Tryd.underlying22 Tryd.underlying5 _ _ 9 Tryd.underlying9
    · cases ha
  | some ad =>
    by_cases h0 : xs = []
    · subst h0
      rw [run_convert_bytes_string w 22 9 5 _ _ cap Tryd.underlying22 Tryd.underlying5 Tryd.underlying9]
      have hld : (loadCells ad 0).run Tryd.prog w = .ok (([] : List Int).map (Value.int .u8)).toArray w := by
        have := run_loadCells_list (P := Tryd.prog) w ad [] (fun j v hj => by simp at hj)
        simpa using this
      rw [List.length_nil, run_bytesToString w ad 0 cap [] hld]
      rfl
    · rcases hx.2 with h1 | ⟨b, off, ha, hb, hc⟩
      · exact absurd h1 h0
      · cases ha
        exact run_convert_bytes_arg w 22 5 Tryd.underlying22 Tryd.underlying5 b off xs.length cap xs rfl (fun i hi => by rw [hc i hi]; simp) 9 Tryd.underlying9

set_option maxHeartbeats 1000000 in
theorem sameBytes_any (a b : Option Addr) (xs : List Int) (la ca lb cb : Nat) (w : World) (hx : Reads w a xs) (hy : Reads w b xs) (hla : la = xs.length) (hlb : lb = xs.length) :
    Calls Tryd.prog 14 #[.slice a la ca, .slice b lb cb] w fun e w' => e = .returned (.bool true) ∧ w' = w := by
  have h1 := conv_any a xs la ca w hx hla
  have h2 := conv_any b xs lb cb w hy hlb
  generalize strOfNums xs = s at h1 h2
  clear hla hlb hx hy
  go_enter Tryd.func14, Tryd.ntmps14
  go_wp2
  go_ret
  exact ⟨by simp, rfl⟩
theorem sameBytes_v (v : Value) (b : Option Addr) (xs : List Int) (base lb cb : Nat) (w : World) (hx : Owns w base v xs) (bx : isBytes xs) (hy : Reads w b xs) (hlb : lb = xs.length) :
    Calls Tryd.prog 14 #[v, .slice b lb cb] w fun e w' => e = .returned (.bool true) ∧ w' = w := by
  obtain ⟨a, ca, rfl, _, _, ra⟩ := hx.open bx
  exact sameBytes_any a b xs _ ca lb cb w ra hy rfl hlb
end Go.Proofs.YtjhaanenkeceiaaDoor
end

section
/- Two lists of bytes are alike just if the strings of them are. -/
namespace Go.Proofs.YtjhaanenkeceiaaDoor
open Go.RowKit Go.Lib
set_option linter.unusedVariables false

theorem bytes_inj : ∀ (xs ys : List Int), isBytes xs → isBytes ys → bytesOf xs = bytesOf ys → xs = ys := by
  intro xs
  induction xs with
  | nil => intro ys _ _ h; cases ys with
    | nil => rfl
    | cons y r => simp [bytesOf] at h
  | cons x r ih =>
    intro ys hx hy h
    cases ys with
    | nil => simp [bytesOf] at h
    | cons y s =>
      have h0 := hx 0
      have k0 := hy 0
      simp only [List.getElem?_cons_zero, Option.getD_some] at h0 k0
      simp only [bytesOf, List.map_cons, List.cons.injEq] at h
      have e : x = y := by
        have h1 := congrArg UInt8.toNat h.1
        simp only [UInt8.toNat_ofNat'] at h1
        omega
      subst e
      rw [ih s (fun j => by have := hx (j + 1); simpa using this) (fun j => by have := hy (j + 1); simpa using this) h.2]
theorem str_eq (xs ys : List Int) (hx : isBytes xs) (hy : isBytes ys) : ((strOfNums xs).toList == (strOfNums ys).toList) = decide (xs = ys) := by
  rw [strOfNums_toList, strOfNums_toList]
  by_cases h : xs = ys
  · subst h; simp
  · simp only [h, decide_false]
    exact beq_eq_false_iff_ne.2 (fun e => h (bytes_inj xs ys hx hy e))
end Go.Proofs.YtjhaanenkeceiaaDoor
end

section
/- The record that a journal's sectors speak of, the program's way; it leans on the package's error errNoSector. Conditions: the sectors are whole, at most 2000. -/
namespace Go.Proofs.YtjhaanenkeceiaaDoor
open Go.RowKit
set_option linter.unusedVariables false
set_option linter.unusedSimpArgs false
attribute [local go_sem ↓] Go.wp_at_zero Go.wp_at_succ

theorem own_nilB (W : World) (l : Nat) (hl : l ≤ W.heap.size) : OwB W l W.heap.size (.slice none 0 0) [] := ⟨isBytes_nil, World.ownsRow_nil _ _ _ _, fun k h => by simp [Value.ownBlock] at h⟩
def CLRel (w : World) (S : List (List Int)) (P N m : Nat) (g : Nat) (i : Value) (wr : World) : Prop :=
  ∃ k : Nat, k ≤ m ∧ P + k ≤ S.length ∧ i = .int .i64 k ∧ Hid (wr.heap[g]? = some (.cells (bcells ((catN S P k).take N ++ List.replicate (N - 24 * k) 0)).toArray 5 (0, 0))) ∧ Below w.heap.size w wr

set_option maxRecDepth 100000 in
set_option maxHeartbeats 4000000 in
theorem claimed_any (b : Nat) (x y : Value) (S : List (List Int)) (P : Nat) (q : Int) (l h : Nat) (a : Addr) (w : World) (v0 : VarJ 30 w b x y (P : Int) q) (r : RdBB w l h x S) (hh : h ≤ w.heap.size) (hg : Glob w a) (hS : S.length ≤ 2000) (hP : P ≤ S.length)
    (hw32 : ∀ i, i < S.length → (S[i]?.getD []).length = 32) :
    Calls Tryd.prog 87 #[.pointer (some ⟨b, 0, none⟩)] w fun e w' => ∃ u, e = .returned u ∧ OwB w' w.heap.size w'.heap.size u (claimD S P) ∧ Below w.heap.size w w' := by
  obtain ⟨xa, n, xc, us, rfl, hn, hhd, hcx, hee⟩ := r
  have c0 := v0.c0
  have c2 := v0.c2
  have hP9 : P ≤ 2000 := by omega
  have hn9 : n ≤ 9223372036854775807 := by omega
  have HBX : Hid (Below w.heap.size w w) := Below.refl _ _
  by_cases hPn : P < n
  case neg =>
    have HSA : Hid _ := safeAt_out b n xc xa (P : Int) a w.drew c0 hg (.inr (by omega)) hn9
    have hc : claimD S P = [] := by unfold claimD; rw [if_neg (by omega)]
    rw [hc]
    have HNIL : Hid (∀ W, Below w.heap.size w W → OwB W w.heap.size W.heap.size (.slice none 0 0) []) := fun W hW => own_nilB W _ hW.size
    clear hcx hee hg hc hhd
    go_enter Tryd.func87, Tryd.ntmps87
    go_wp2
    refine wp_region_noPanic ?_
    refine wp_region_held_drew (S := fun w' => w'.cell? ⟨b, 2, none⟩ = some (.int .i64 (P : Int))) (by kernel_rfl) c2 (fun hHeld => ?_)
    refine wpAnyH_take (i := 0) (v := ?_) rfl (by kernel_rfl) (by kernel_rfl) (by kernel_rfl) (fun _ _ _ h => h) (Or.inl ⟨by rfl, ?_⟩) (by assumption) ?_
    rotate_left
    · (intro w_ hSw_; (try dsimp only at hSw_); go_simp; try with_reducible rfl)
    try simp only [Act.put, List.setIfInBounds_toArray, List.set_cons_zero, List.set_cons_succ, List.getElem_toArray, List.getElem_cons_zero, List.getElem_cons_succ]
    refine wpAnyH_take (i := 1) (v := ?_) rfl (by kernel_rfl) (by kernel_rfl) (by kernel_rfl) (fun _ _ _ h => h) (Or.inl ⟨by rfl, ?_⟩) (by assumption) ?_
    rotate_left
    · (intro w_ hSw_; (try dsimp only at hSw_); go_simp; try with_reducible rfl)
    try simp only [Act.put, List.setIfInBounds_toArray, List.set_cons_zero, List.set_cons_succ, List.getElem_toArray, List.getElem_cons_zero, List.getElem_cons_succ]
    refine wpAnyH_take (i := 2) (v := ?_) rfl (by kernel_rfl) (by kernel_rfl) (by kernel_rfl) (fun _ _ _ h => h) (Or.inl ⟨by rfl, ?_⟩) (by assumption) ?_
    rotate_left
    · (intro w_ hSw_; (try dsimp only at hSw_); go_simp; try with_reducible rfl)
    try simp only [Act.put, List.setIfInBounds_toArray, List.set_cons_zero, List.set_cons_succ, List.getElem_toArray, List.getElem_cons_zero, List.getElem_cons_succ]
    refine wpAnyH_take (i := 3) (v := ?_) rfl (by kernel_rfl) (by kernel_rfl) (by kernel_rfl) (fun _ _ _ h => h) (Or.inl ⟨by rfl, ?_⟩) (by assumption) ?_
    rotate_left
    · (intro w_ hSw_; (try dsimp only at hSw_); go_simp; try with_reducible rfl)
    try simp only [Act.put, List.setIfInBounds_toArray, List.set_cons_zero, List.set_cons_succ, List.getElem_toArray, List.getElem_cons_zero, List.getElem_cons_succ]
    refine wpAnyH_take (i := 4) (v := ?_) rfl (by kernel_rfl) (by kernel_rfl) (by kernel_rfl) (fun _ _ _ h => h) (Or.inl ⟨by rfl, ?_⟩) (by assumption) ?_
    rotate_left
    · (intro w_ hSw_; (try dsimp only at hSw_); go_simp; try with_reducible rfl)
    try simp only [Act.put, List.setIfInBounds_toArray, List.set_cons_zero, List.set_cons_succ, List.getElem_toArray, List.getElem_cons_zero, List.getElem_cons_succ]
    refine wpAnyH_take (i := 5) (v := ?_) rfl (by kernel_rfl) (by kernel_rfl) (by kernel_rfl) (fun _ _ _ h => h) (Or.inl ⟨by rfl, ?_⟩) (by assumption) ?_
    rotate_left
    · (intro w_ hSw_; (try dsimp only at hSw_); go_simp; try with_reducible rfl)
    try simp only [Act.put, List.setIfInBounds_toArray, List.set_cons_zero, List.set_cons_succ, List.getElem_toArray, List.getElem_cons_zero, List.getElem_cons_succ]
    refine wpAnyH_take (i := 6) (v := ?_) rfl (by kernel_rfl) (by kernel_rfl) (by kernel_rfl) (fun _ _ _ h => h) (Or.inl ⟨by rfl, ?_⟩) (by assumption) ?_
    rotate_left
    · (intro w_ hSw_; (try dsimp only at hSw_); go_simp; try with_reducible rfl)
    try simp only [Act.put, List.setIfInBounds_toArray, List.set_cons_zero, List.set_cons_succ, List.getElem_toArray, List.getElem_cons_zero, List.getElem_cons_succ]
    refine wpAnyH_ready (rs := [7]) (by kernel_rfl) (by simp) ?_
    refine AllReadyH.cons rfl (fun K hK => ?_) AllReadyH.nil
    go_simp
    refine Calls.mono HSA.out ?_
    rintro e w2 ⟨rfl, m2, hw2⟩
    subst hw2
    go_wp2_with fail
    refine hK.out _ _ (by assumption) (fun hHeld => ?_)
    clear hK K
    try simp only [Act.put, List.setIfInBounds_toArray, List.set_cons_zero, List.set_cons_succ, List.getElem_toArray, List.getElem_cons_zero, List.getElem_cons_succ]
    refine wpAnyH_take (i := 8) (v := ?_) rfl (by kernel_rfl) (by kernel_rfl) (by kernel_rfl) (fun _ _ _ h => h) (Or.inl ⟨by rfl, ?_⟩) (by assumption) ?_
    rotate_left
    · (intro w_ hSw_; (try dsimp only at hSw_); go_simp; try with_reducible rfl)
    try simp only [Act.put, List.setIfInBounds_toArray, List.set_cons_zero, List.set_cons_succ, List.getElem_toArray, List.getElem_cons_zero, List.getElem_cons_succ]
    refine wpAnyH_take (i := 9) (v := ?_) rfl (by kernel_rfl) (by kernel_rfl) (by kernel_rfl) (fun _ _ _ h => h) (Or.inl ⟨by rfl, ?_⟩) (by assumption) ?_
    rotate_left
    · (intro w_ hSw_; (try dsimp only at hSw_); go_simp; try with_reducible rfl)
    try simp only [Act.put, List.setIfInBounds_toArray, List.set_cons_zero, List.set_cons_succ, List.getElem_toArray, List.getElem_cons_zero, List.getElem_cons_succ]
    refine wpAnyH_take (i := 10) (v := ?_) rfl (by kernel_rfl) (by kernel_rfl) (by kernel_rfl) (fun _ _ _ h => h) (Or.inl ⟨by rfl, ?_⟩) (by assumption) ?_
    rotate_left
    · (intro w_ hSw_; (try dsimp only at hSw_); go_simp; try with_reducible rfl)
    try simp only [Act.put, List.setIfInBounds_toArray, List.set_cons_zero, List.set_cons_succ, List.getElem_toArray, List.getElem_cons_zero, List.getElem_cons_succ]
    refine wpAnyH_take (i := 11) (v := ?_) rfl (by kernel_rfl) (by kernel_rfl) (by kernel_rfl) (fun _ _ _ h => h) (Or.inl ⟨by rfl, ?_⟩) (by assumption) ?_
    rotate_left
    · (intro w_ hSw_; (try dsimp only at hSw_); go_simp; try with_reducible rfl)
    try simp only [Act.put, List.setIfInBounds_toArray, List.set_cons_zero, List.set_cons_succ, List.getElem_toArray, List.getElem_cons_zero, List.getElem_cons_succ]
    refine wpAnyH_take (i := 12) (v := ?_) rfl (by kernel_rfl) (by kernel_rfl) (by kernel_rfl) (fun _ _ _ h => h) (Or.inl ⟨by rfl, ?_⟩) (by assumption) ?_
    rotate_left
    · (intro w_ hSw_; (try dsimp only at hSw_); go_simp; try with_reducible rfl)
    try simp only [Act.put, List.setIfInBounds_toArray, List.set_cons_zero, List.set_cons_succ, List.getElem_toArray, List.getElem_cons_zero, List.getElem_cons_succ]
    refine wpAnyH_done (by kernel_rfl) (NoPanic.normal ?_) _
    go_wp2
    go_ret
    first | exact ⟨_, rfl, HNIL.out _ HBX.out, HBX.out⟩ | exact ⟨_, rfl, HNIL.out _ (below_drewN2 HBX.out _), below_drewN2 HBX.out _⟩
  obtain ⟨gx, ox, rfl, hgx0, hgx1, hcc⟩ := hcx.resolve_left (by omega)
  have hre := hee P (by omega)
  obtain ⟨hbz, sa, sn, sc, hse, hsl, hsh, hsr⟩ := hre.reads
  have h9 := safeAt_in b gx ox P n xc (us P) w.drew c0 (hcc P hPn) hPn hn9
  rw [hse] at h9
  have HSA : Hid _ := h9
  have hs32 : sn = 32 := by rw [hsl]; exact hw32 P (by omega)
  subst hs32
  obtain ⟨sb, so, rfl, hsb, hsc⟩ := hsr.2.resolve_left (fun h0 => by rw [h0] at hsl; simp at hsl)
  obtain ⟨N, hN⟩ : ∃ N : Nat, (S[P]?.getD [])[4]?.getD 0 = (N : Int) := ⟨((S[P]?.getD [])[4]?.getD 0).toNat, by have := (hbz 4).1; omega⟩
  have hN255 : N ≤ 255 := by have := (hbz 4).2; omega
  have k4 := hsc 4 (by omega)
  rw [hN] at k4
  have hsz : sizeAt S P = N := by unfold sizeAt; rw [hN]; rfl
  have hsc9 : sc ≤ 9223372036854775807 := by have := hsh.2.1; unfold maxLen at this; omega
  have hsc8 : 32 ≤ sc := hsh.1
  have HSF : Hid (∀ W, Calls Tryd.prog 51 #[.int .i64 (N : Int)] W fun e w' => e = .returned (.int .i64 (manyN N)) ∧ w' = W) := fun W => sectorsFor_any N (by omega) W
  have hm9 : manyN N ≤ 11 := by unfold manyN; split <;> omega
  have HMA : Hid (∀ k, k < manyN N → 24 * k ≤ N ∧ (0 < N → 24 * k < N) ∧ (N = 0 → k = 0)) := manyN_at N
  have HMM : Hid (N ≤ 24 * manyN N) := manyN_most N
  obtain ⟨m, hm⟩ : ∃ m, manyN N = m := ⟨_, rfl⟩
  rw [hm] at HSF HMA hm9 HMM
  have HM : Hid (manyN N = m) := hm
  have HSZ : Hid _ := hsz
  have HCC : Hid _ := hcc
  have HEE : Hid _ := hee
  have HW : Hid _ := hw32
  have HGL : Hid _ := hg
  have HN : Hid (n = S.length) := hn
  have HV : Hid (VarJ _ w b _ _ _ _) := v0
  obtain ⟨i0, hi, hz0, hz1, hz2⟩ := info_parts Tryd.infoB
  clear h9 hre hbz hse hsl hsh hsr hsb hsc hN hsz hm hcc hee hw32 hg hhd hcx v0 hn
  go_enter Tryd.func87, Tryd.ntmps87
  go_wp2
  refine wp_region_noPanic ?_
  refine wp_region_held_drew (S := fun w' => w'.cell? ⟨b, 2, none⟩ = some (.int .i64 (P : Int))) (by kernel_rfl) c2 (fun hHeld => ?_)
  refine wpAnyH_take (i := 0) (v := ?_) rfl (by kernel_rfl) (by kernel_rfl) (by kernel_rfl) (fun _ _ _ h => h) (Or.inl ⟨by rfl, ?_⟩) (by assumption) ?_
  rotate_left
  · (intro w_ hSw_; (try dsimp only at hSw_); go_simp; try with_reducible rfl)
  try simp only [Act.put, List.setIfInBounds_toArray, List.set_cons_zero, List.set_cons_succ, List.getElem_toArray, List.getElem_cons_zero, List.getElem_cons_succ]
  refine wpAnyH_take (i := 1) (v := ?_) rfl (by kernel_rfl) (by kernel_rfl) (by kernel_rfl) (fun _ _ _ h => h) (Or.inl ⟨by rfl, ?_⟩) (by assumption) ?_
  rotate_left
  · (intro w_ hSw_; (try dsimp only at hSw_); go_simp; try with_reducible rfl)
  try simp only [Act.put, List.setIfInBounds_toArray, List.set_cons_zero, List.set_cons_succ, List.getElem_toArray, List.getElem_cons_zero, List.getElem_cons_succ]
  refine wpAnyH_take (i := 2) (v := ?_) rfl (by kernel_rfl) (by kernel_rfl) (by kernel_rfl) (fun _ _ _ h => h) (Or.inl ⟨by rfl, ?_⟩) (by assumption) ?_
  rotate_left
  · (intro w_ hSw_; (try dsimp only at hSw_); go_simp; try with_reducible rfl)
  try simp only [Act.put, List.setIfInBounds_toArray, List.set_cons_zero, List.set_cons_succ, List.getElem_toArray, List.getElem_cons_zero, List.getElem_cons_succ]
  refine wpAnyH_take (i := 3) (v := ?_) rfl (by kernel_rfl) (by kernel_rfl) (by kernel_rfl) (fun _ _ _ h => h) (Or.inl ⟨by rfl, ?_⟩) (by assumption) ?_
  rotate_left
  · (intro w_ hSw_; (try dsimp only at hSw_); go_simp; try with_reducible rfl)
  try simp only [Act.put, List.setIfInBounds_toArray, List.set_cons_zero, List.set_cons_succ, List.getElem_toArray, List.getElem_cons_zero, List.getElem_cons_succ]
  refine wpAnyH_take (i := 4) (v := ?_) rfl (by kernel_rfl) (by kernel_rfl) (by kernel_rfl) (fun _ _ _ h => h) (Or.inl ⟨by rfl, ?_⟩) (by assumption) ?_
  rotate_left
  · (intro w_ hSw_; (try dsimp only at hSw_); go_simp; try with_reducible rfl)
  try simp only [Act.put, List.setIfInBounds_toArray, List.set_cons_zero, List.set_cons_succ, List.getElem_toArray, List.getElem_cons_zero, List.getElem_cons_succ]
  refine wpAnyH_take (i := 5) (v := ?_) rfl (by kernel_rfl) (by kernel_rfl) (by kernel_rfl) (fun _ _ _ h => h) (Or.inl ⟨by rfl, ?_⟩) (by assumption) ?_
  rotate_left
  · (intro w_ hSw_; (try dsimp only at hSw_); go_simp; try with_reducible rfl)
  try simp only [Act.put, List.setIfInBounds_toArray, List.set_cons_zero, List.set_cons_succ, List.getElem_toArray, List.getElem_cons_zero, List.getElem_cons_succ]
  refine wpAnyH_take (i := 6) (v := ?_) rfl (by kernel_rfl) (by kernel_rfl) (by kernel_rfl) (fun _ _ _ h => h) (Or.inl ⟨by rfl, ?_⟩) (by assumption) ?_
  rotate_left
  · (intro w_ hSw_; (try dsimp only at hSw_); go_simp; try with_reducible rfl)
  try simp only [Act.put, List.setIfInBounds_toArray, List.set_cons_zero, List.set_cons_succ, List.getElem_toArray, List.getElem_cons_zero, List.getElem_cons_succ]
  refine wpAnyH_ready (rs := [7]) (by kernel_rfl) (by simp) ?_
  refine AllReadyH.cons rfl (fun K hK => ?_) AllReadyH.nil
  go_simp
  refine Calls.mono HSA.out ?_
  rintro e w2 ⟨rfl, hw2⟩
  subst hw2
  go_wp2_with fail
  refine hK.out _ _ (by assumption) (fun hHeld => ?_)
  clear hK K
  try simp only [Act.put, List.setIfInBounds_toArray, List.set_cons_zero, List.set_cons_succ, List.getElem_toArray, List.getElem_cons_zero, List.getElem_cons_succ]
  refine wpAnyH_take (i := 8) (v := ?_) rfl (by kernel_rfl) (by kernel_rfl) (by kernel_rfl) (fun _ _ _ h => h) (Or.inl ⟨by rfl, ?_⟩) (by assumption) ?_
  rotate_left
  · (intro w_ hSw_; (try dsimp only at hSw_); go_simp; try with_reducible rfl)
  try simp only [Act.put, List.setIfInBounds_toArray, List.set_cons_zero, List.set_cons_succ, List.getElem_toArray, List.getElem_cons_zero, List.getElem_cons_succ]
  refine wpAnyH_take (i := 9) (v := ?_) rfl (by kernel_rfl) (by kernel_rfl) (by kernel_rfl) (fun _ _ _ h => h) (Or.inl ⟨by rfl, ?_⟩) (by assumption) ?_
  rotate_left
  · (intro w_ hSw_; (try dsimp only at hSw_); go_simp; try with_reducible rfl)
  try simp only [Act.put, List.setIfInBounds_toArray, List.set_cons_zero, List.set_cons_succ, List.getElem_toArray, List.getElem_cons_zero, List.getElem_cons_succ]
  refine wpAnyH_take (i := 10) (v := ?_) rfl (by kernel_rfl) (by kernel_rfl) (by kernel_rfl) (fun _ _ _ h => h) (Or.inl ⟨by rfl, ?_⟩) (by assumption) ?_
  rotate_left
  · (intro w_ hSw_; (try dsimp only at hSw_); go_simp; try with_reducible rfl)
  try simp only [Act.put, List.setIfInBounds_toArray, List.set_cons_zero, List.set_cons_succ, List.getElem_toArray, List.getElem_cons_zero, List.getElem_cons_succ]
  refine wpAnyH_take (i := 11) (v := ?_) rfl (by kernel_rfl) (by kernel_rfl) (by kernel_rfl) (fun _ _ _ h => h) (Or.inl ⟨by rfl, ?_⟩) (by assumption) ?_
  rotate_left
  · (intro w_ hSw_; (try dsimp only at hSw_); go_simp; try with_reducible rfl)
  try simp only [Act.put, List.setIfInBounds_toArray, List.set_cons_zero, List.set_cons_succ, List.getElem_toArray, List.getElem_cons_zero, List.getElem_cons_succ]
  refine wpAnyH_take (i := 12) (v := ?_) rfl (by kernel_rfl) (by kernel_rfl) (by kernel_rfl) (fun _ _ _ h => h) (Or.inl ⟨by rfl, ?_⟩) (by assumption) ?_
  rotate_left
  · (intro w_ hSw_; (try dsimp only at hSw_); go_simp; try with_reducible rfl)
  try simp only [Act.put, List.setIfInBounds_toArray, List.set_cons_zero, List.set_cons_succ, List.getElem_toArray, List.getElem_cons_zero, List.getElem_cons_succ]
  refine wpAnyH_done (by kernel_rfl) (NoPanic.normal ?_) _
  go_wp2_with (at_make; refine wpList_make_full _ rfl _ _ 22 rfl w.heap.size 5 i0 (.int .u8 0) 1 Tryd.underlying22 hi hz0 hz1 .u8 .u8 _ _ N rfl rfl rfl rfl (by rw [hz2]; omega) (by unfold maxLen; omega) (Nat.le_refl _) ?_; intro w1 hown hgrow)
  have hb1 : Below w.heap.size w w1 := (Below.drew (Below.refl _ _)).grown hgrow (Nat.le_refl _) (fun k h => by cases h)
  rw [madeCells_bytes] at hown
  have HG1 : Hid (w1.heap[w.heap.size]? = some (.cells (bcells (List.replicate N 0)).toArray 5 (0, 0))) := full_heap hown
  refine Calls.mono (HSF.out w1) ?_
  rintro e w2 ⟨rfl, hw2⟩
  subst hw2
  have HST : Hid (CLRel w S P N m w.heap.size (.int .i64 0) w2) := ⟨0, Nat.zero_le _, by have := HN.out; omega, rfl, by show _ = _; rw [HG1.out]; simp [catN], hb1⟩
  clear hown hgrow hb1 HG1 HSF
  go_wp2
  clear hHeld c0 c2
  go_loopw [29] (fun i wr => CLRel w S P N m w.heap.size i wr) (fun i _ => m - (intOf i).toNat)
  case atStart => exact HST.out
  case round =>
    clear HST HSA k4
    obtain ⟨k, hk, hPk, rfl, HG, hbel⟩ := hrel
    have hs0 := hbel.size
    have V1 := VarJ.step HV.out hbel
    have c00 := V1.c0
    have c02 := V1.c2
    have hnS := HN.out
    have hcl := catN_len HW.out P k hPk
    by_cases hlt : k < m
    · obtain ⟨hk1, hk2, hk3⟩ := HMA.out k hlt
      have hlt9 : (k : Int) < (m : Int) := by omega
      have hk0 : (0 : Int) ≤ (k : Int) := by omega
      have hPk9 : (P : Int) + (k : Int) ≤ 3000 := by omega
      have hwk := wrap_id ((P : Int) + (k : Int)) (by omega) (by omega)
      by_cases hin : P + k < n
      · have hcell : wr.cell? ⟨gx, ox + (P + k), none⟩ = some (us (P + k)) := (hbel.cell (p := ⟨gx, ox + (P + k), none⟩) (by show gx < w.heap.size; omega)).trans (HCC.out (P + k) hin)
        have hre := (HEE.out (P + k) hin).same (SameIn.ofBelow hbel hh)
        obtain ⟨hbz, ta, tn, tc, hte, htl, hth, htr⟩ := hre.reads
        have h9 := safeAt_in b gx ox (P + k) n xc (us (P + k)) wr.drew c00 hcell hin hn9
        rw [hte, Int.natCast_add P k] at h9
        have HSB : Hid _ := h9
        have ht32 : tn = 32 := by rw [htl]; exact HW.out (P + k) (by omega)
        subst ht32
        obtain ⟨tb, tf, rfl, htb, htc⟩ := htr.2.resolve_left (fun h0 => by rw [h0] at htl; simp at htl)
        have htc9 : tc ≤ 9223372036854775807 := by have := hth.2.1; unfold maxLen at this; omega
        have htc8 : 32 ≤ tc := hth.1
        have htc7 : ¬ tc = 6 := by omega
        have HPO : Hid (∀ W, Calls Tryd.prog 53 #[.slice (some ⟨w.heap.size, 0, none⟩) N N, .int .i64 (k : Int)] W (PieceOut (some ⟨w.heap.size, 0, none⟩) N k W)) := fun W => pieceOf_any _ N N k W ⟨Nat.le_refl _, by unfold maxLen; omega, fun h => by cases h⟩ hN255 hk1 (fun h0 => ⟨hk2 h0, _, _, rfl⟩) hk3
        obtain ⟨Y, hY⟩ : ∃ Y, Y = (pieceS S (P + k)).take (N - 24 * k) := ⟨_, rfl⟩
        obtain ⟨X, hX⟩ : ∃ X, X = bcells Y := ⟨_, rfl⟩
        obtain ⟨Ck, hCk⟩ : ∃ Ck, Ck = bcells ((catN S P k).take N ++ List.replicate (N - 24 * k) 0) := ⟨_, rfl⟩
        rw [← hCk] at HG
        have hpl := whole_len HW.out (P + k) (by omega)
        have hYl : Y.length = min (N - 24 * k) 24 := by rw [hY, List.length_take, hpl]
        have hXl : X.length = min (N - 24 * k) 24 := by rw [hX, bcells_length, hYl]
        have HXM : Hid (X.length = Nat.min 26 (Nat.min (N - 24 * k) 24)) := by
          show _ = min 26 (min (N - 24 * k) 24)
          omega
        have HX0 : Hid (0 < X.length → 0 < N) := fun h0 => by omega
        have HX1 : Hid (∀ v ∈ X, v.oneCell' = true) := by show ∀ v ∈ X, v.oneCell' = true; rw [hX]; exact bcells_one _
        have hCl : Ck.length = N := by rw [hCk, bcells_length, List.length_append, List.length_take, hcl, List.length_replicate]; omega
        have HFIT : Hid (24 * k + X.length ≤ Ck.length) := by show _ ≤ _; omega
        have HXS : Hid (∀ j v, X[j]? = some v → wr.drew.drew.cell? ((⟨tb, tf + 6, none⟩ : Addr).add j) = some v) := fun j v hv => by
          rw [add_at]
          have hj : j < X.length := by rcases Nat.lt_or_ge j X.length with h8 | h8
                                       · exact h8
                                       · rw [List.getElem?_eq_none h8] at hv; cases hv
          have h8 := htc (6 + j) (by omega)
          show wr.cell? _ = _
          rw [Nat.add_assoc, h8]
          rw [hX, hY] at hv
          unfold bcells pieceS at hv
          rw [List.getElem?_map, List.getElem?_take, if_pos (by omega), List.getElem?_take, if_pos (by omega), List.getElem?_drop] at hv
          rw [List.getElem?_eq_getElem (by omega)] at hv ⊢
          simpa using hv
        have HSPL : Hid (splice Ck (24 * k) X = bcells ((catN S P (k + 1)).take N ++ List.replicate (N - 24 * (k + 1)) 0)) := by
          show _ = _
          rw [hCk, hX, catN_succ, List.take_append, hcl, List.take_of_length_le (by omega), ← hY]
          unfold splice
          have e1 : (bcells (catN S P k ++ List.replicate (N - 24 * k) 0)).take (24 * k) = bcells (catN S P k) := by
            unfold bcells
            rw [← List.map_take, List.take_append, hcl, Nat.sub_self, List.take_zero, List.append_nil, List.take_of_length_le (by omega)]
          have e2 : (bcells (catN S P k ++ List.replicate (N - 24 * k) 0)).drop (24 * k + (bcells Y).length) = bcells (List.replicate (N - 24 * (k + 1)) 0) := by
            rw [bcells_length]
            unfold bcells
            rw [← List.map_drop, List.drop_append, hcl, List.drop_eq_nil_of_le (by omega), List.nil_append, List.drop_replicate]
            congr 2
            omega
          rw [e1, e2]
          simp [bcells]
        clear h9 hre hbz hte htl hth htr htb htc hY hX hCk hpl hYl hXl hCl hcell hcl hnS V1
        go_wp2
        refine wp_region_noPanic ?_
        refine wp_region_held_drew (S := fun w' => w'.cell? ⟨b, 2, none⟩ = some (.int .i64 (P : Int))) (by kernel_rfl) c02 (fun hHeld => ?_)
        refine wpAnyH_take (i := 0) (v := ?_) rfl (by kernel_rfl) (by kernel_rfl) (by kernel_rfl) (fun _ _ _ h => h) (Or.inl ⟨by rfl, ?_⟩) (by assumption) ?_
        rotate_left
        · (intro w_ hSw_; (try dsimp only at hSw_); go_simp; try with_reducible rfl)
        try simp only [Act.put, List.setIfInBounds_toArray, List.set_cons_zero, List.set_cons_succ, List.getElem_toArray, List.getElem_cons_zero, List.getElem_cons_succ]
        refine wpAnyH_take (i := 1) (v := ?_) rfl (by kernel_rfl) (by kernel_rfl) (by kernel_rfl) (fun _ _ _ h => h) (Or.inl ⟨by rfl, ?_⟩) (by assumption) ?_
        rotate_left
        · (intro w_ hSw_; (try dsimp only at hSw_); go_simp; try with_reducible rfl)
        try simp only [Act.put, List.setIfInBounds_toArray, List.set_cons_zero, List.set_cons_succ, List.getElem_toArray, List.getElem_cons_zero, List.getElem_cons_succ]
        refine wpAnyH_take (i := 2) (v := ?_) rfl (by kernel_rfl) (by kernel_rfl) (by kernel_rfl) (fun _ _ _ h => h) (Or.inl ⟨by rfl, ?_⟩) (by assumption) ?_
        rotate_left
        · (intro w_ hSw_; (try dsimp only at hSw_); go_simp; try with_reducible rfl)
        try simp only [Act.put, List.setIfInBounds_toArray, List.set_cons_zero, List.set_cons_succ, List.getElem_toArray, List.getElem_cons_zero, List.getElem_cons_succ]
        refine wpAnyH_take (i := 3) (v := ?_) rfl (by kernel_rfl) (by kernel_rfl) (by kernel_rfl) (fun _ _ _ h => h) (Or.inl ⟨by rfl, ?_⟩) (by assumption) ?_
        rotate_left
        · (intro w_ hSw_; (try dsimp only at hSw_); go_simp; try with_reducible rfl)
        try simp only [Act.put, List.setIfInBounds_toArray, List.set_cons_zero, List.set_cons_succ, List.getElem_toArray, List.getElem_cons_zero, List.getElem_cons_succ]
        refine wpAnyH_take (i := 4) (v := ?_) rfl (by kernel_rfl) (by kernel_rfl) (by kernel_rfl) (fun _ _ _ h => h) (Or.inl ⟨by rfl, ?_⟩) (by assumption) ?_
        rotate_left
        · (intro w_ hSw_; (try dsimp only at hSw_); go_simp; try with_reducible rfl)
        try simp only [Act.put, List.setIfInBounds_toArray, List.set_cons_zero, List.set_cons_succ, List.getElem_toArray, List.getElem_cons_zero, List.getElem_cons_succ]
        refine wpAnyH_take (i := 5) (v := ?_) rfl (by kernel_rfl) (by kernel_rfl) (by kernel_rfl) (fun _ _ _ h => h) (Or.inl ⟨by rfl, ?_⟩) (by assumption) ?_
        rotate_left
        · (intro w_ hSw_; (try dsimp only at hSw_); go_simp; try with_reducible rfl)
        try simp only [Act.put, List.setIfInBounds_toArray, List.set_cons_zero, List.set_cons_succ, List.getElem_toArray, List.getElem_cons_zero, List.getElem_cons_succ]
        refine wpAnyH_take (i := 6) (v := ?_) rfl (by kernel_rfl) (by kernel_rfl) (by kernel_rfl) (fun _ _ _ h => h) (Or.inl ⟨by rfl, ?_⟩) (by assumption) ?_
        rotate_left
        · (intro w_ hSw_; (try dsimp only at hSw_); go_simp; try with_reducible rfl)
        try simp only [Act.put, List.setIfInBounds_toArray, List.set_cons_zero, List.set_cons_succ, List.getElem_toArray, List.getElem_cons_zero, List.getElem_cons_succ]
        refine wpAnyH_take (i := 7) (v := ?_) rfl (by kernel_rfl) (by kernel_rfl) (by kernel_rfl) (fun _ _ _ h => h) (Or.inl ⟨by rfl, ?_⟩) (by assumption) ?_
        rotate_left
        · (intro w_ hSw_; (try dsimp only at hSw_); go_simp; try with_reducible rfl)
        try simp only [Act.put, List.setIfInBounds_toArray, List.set_cons_zero, List.set_cons_succ, List.getElem_toArray, List.getElem_cons_zero, List.getElem_cons_succ]
        refine wpAnyH_take (i := 8) (v := ?_) rfl (by kernel_rfl) (by kernel_rfl) (by kernel_rfl) (fun _ _ _ h => h) (Or.inl ⟨by rfl, ?_⟩) (by assumption) ?_
        rotate_left
        · (intro w_ hSw_; (try dsimp only at hSw_); go_simp; try with_reducible rfl)
        try simp only [Act.put, List.setIfInBounds_toArray, List.set_cons_zero, List.set_cons_succ, List.getElem_toArray, List.getElem_cons_zero, List.getElem_cons_succ]
        refine wpAnyH_ready (rs := [9]) (by kernel_rfl) (by simp) ?_
        refine AllReadyH.cons rfl (fun K hK => ?_) AllReadyH.nil
        go_simp
        refine Calls.mono HSB.out ?_
        rintro e w3 ⟨rfl, hw3⟩
        subst hw3
        go_wp2_with fail
        refine hK.out _ _ (by assumption) (fun hHeld => ?_)
        clear hK K
        try simp only [Act.put, List.setIfInBounds_toArray, List.set_cons_zero, List.set_cons_succ, List.getElem_toArray, List.getElem_cons_zero, List.getElem_cons_succ]
        refine wpAnyH_take (i := 10) (v := ?_) rfl (by kernel_rfl) (by kernel_rfl) (by kernel_rfl) (fun _ _ _ h => h) (Or.inl ⟨by rfl, ?_⟩) (by assumption) ?_
        rotate_left
        · (intro w_ hSw_; (try dsimp only at hSw_); go_simp; try with_reducible rfl)
        try simp only [Act.put, List.setIfInBounds_toArray, List.set_cons_zero, List.set_cons_succ, List.getElem_toArray, List.getElem_cons_zero, List.getElem_cons_succ]
        refine wpAnyH_take (i := 11) (v := ?_) rfl (by kernel_rfl) (by kernel_rfl) (by kernel_rfl) (fun _ _ _ h => h) (Or.inl ⟨by rfl, ?_⟩) (by assumption) ?_
        rotate_left
        · (intro w_ hSw_; (try dsimp only at hSw_); go_simp; try with_reducible rfl)
        try simp only [Act.put, List.setIfInBounds_toArray, List.set_cons_zero, List.set_cons_succ, List.getElem_toArray, List.getElem_cons_zero, List.getElem_cons_succ]
        refine wpAnyH_take (i := 12) (v := ?_) rfl (by kernel_rfl) (by kernel_rfl) (by kernel_rfl) (fun _ _ _ h => h) (Or.inl ⟨by rfl, ?_⟩) (by assumption) ?_
        rotate_left
        · (intro w_ hSw_; (try dsimp only at hSw_); go_simp; try with_reducible rfl)
        try simp only [Act.put, List.setIfInBounds_toArray, List.set_cons_zero, List.set_cons_succ, List.getElem_toArray, List.getElem_cons_zero, List.getElem_cons_succ]
        refine wpAnyH_take (i := 13) (v := ?_) rfl (by kernel_rfl) (by kernel_rfl) (by kernel_rfl) (fun _ _ _ h => h) (Or.inl ⟨by rfl, ?_⟩) (by assumption) ?_
        rotate_left
        · (intro w_ hSw_; (try dsimp only at hSw_); go_simp; try with_reducible rfl)
        try simp only [Act.put, List.setIfInBounds_toArray, List.set_cons_zero, List.set_cons_succ, List.getElem_toArray, List.getElem_cons_zero, List.getElem_cons_succ]
        refine wpAnyH_take (i := 14) (v := ?_) rfl (by kernel_rfl) (by kernel_rfl) (by kernel_rfl) (fun _ _ _ h => h) (Or.inl ⟨by rfl, ?_⟩) (by assumption) ?_
        rotate_left
        · (intro w_ hSw_; (try dsimp only at hSw_); go_simp; try with_reducible rfl)
        try simp only [Act.put, List.setIfInBounds_toArray, List.set_cons_zero, List.set_cons_succ, List.getElem_toArray, List.getElem_cons_zero, List.getElem_cons_succ]
        refine wpAnyH_done (by kernel_rfl) (NoPanic.normal ?_) _
        go_wp2
        refine wp_region_noPanic ?_
        refine wp_region_held_drew (S := fun _ => True) (by kernel_rfl) trivial (fun hHeld => ?_)
        clear hHeld
        refine wpAnyH_take (i := 0) (v := ?_) rfl (by kernel_rfl) (by kernel_rfl) (by kernel_rfl) (fun _ _ _ h => h) (Or.inl ⟨by rfl, ?_⟩) trivial ?_
        rotate_left
        · (intro w_ hSw_; (try dsimp only at hSw_); go_simp; try with_reducible rfl)
        try simp only [Act.put, List.setIfInBounds_toArray, List.set_cons_zero, List.set_cons_succ, List.getElem_toArray, List.getElem_cons_zero, List.getElem_cons_succ]
        refine wpAnyH_take (i := 1) (v := ?_) rfl (by kernel_rfl) (by kernel_rfl) (by kernel_rfl) (fun _ _ _ h => h) (Or.inl ⟨by rfl, ?_⟩) trivial ?_
        rotate_left
        · (intro w_ hSw_; (try dsimp only at hSw_); go_simp; try with_reducible rfl)
        try simp only [Act.put, List.setIfInBounds_toArray, List.set_cons_zero, List.set_cons_succ, List.getElem_toArray, List.getElem_cons_zero, List.getElem_cons_succ]
        refine wpAnyH_take (i := 3) (v := ?_) rfl (by kernel_rfl) (by kernel_rfl) (by kernel_rfl) (fun _ _ _ h => h) (Or.inl ⟨by rfl, ?_⟩) trivial ?_
        rotate_left
        · (intro w_ hSw_; (try dsimp only at hSw_); go_simp; try with_reducible rfl)
        try simp only [Act.put, List.setIfInBounds_toArray, List.set_cons_zero, List.set_cons_succ, List.getElem_toArray, List.getElem_cons_zero, List.getElem_cons_succ]
        refine wpAnyH_take (i := 4) (v := ?_) rfl (by kernel_rfl) (by kernel_rfl) (by kernel_rfl) (fun _ _ _ h => h) (Or.inl ⟨by rfl, ?_⟩) trivial ?_
        rotate_left
        · (intro w_ hSw_; (try dsimp only at hSw_); go_simp; try with_reducible rfl)
        try simp only [Act.put, List.setIfInBounds_toArray, List.set_cons_zero, List.set_cons_succ, List.getElem_toArray, List.getElem_cons_zero, List.getElem_cons_succ]
        refine wpAnyH_ready (rs := [2]) (by kernel_rfl) (by simp) ?_
        refine AllReadyH.cons rfl (fun K hK => ?_) AllReadyH.nil
        go_simp
        refine Calls.mono (HPO.out _) ?_
        rintro e w7 ⟨a9, c9, rfl, hw7, hc91, hc92, hA9⟩
        subst hw7
        have HA9 : Hid _ := hA9
        clear hA9
        go_wp2_with fail
        refine hK.out _ _ trivial (fun hHeld => ?_)
        clear hK K hHeld
        try simp only [Act.put, List.setIfInBounds_toArray, List.set_cons_zero, List.set_cons_succ, List.getElem_toArray, List.getElem_cons_zero, List.getElem_cons_succ]
        refine wpAnyH_ready (rs := [5]) (by kernel_rfl) (by simp) ?_
        refine AllReadyH.cons rfl (fun K hK => ?_) AllReadyH.nil
        refine step_copy_splice rfl (.tmp 49) (.tmp 51) 22 22 rfl 5 Tryd.underlying22 Tryd.sizeB _ _ _ _ _ _ (by rfl) (by rfl) w.heap.size (24 * k) Ck 5 HG.out X HXM.out (fun h0 => ⟨by have h8 := HA9.out w.heap.size 0 (HX0.out h0) rfl; rw [Nat.zero_add] at h8; exact h8, _, rfl, fun j v hv => HXS.out j v hv⟩) HFIT.out HX1.out w.heap.size w (Below.drew (Below.drew hbel)) (Nat.le_refl _) ?_
        intro w6 HG6 hb6
        refine hK.out _ _ trivial (fun hHeld => ?_)
        clear hK K hHeld
        try simp only [Act.put, List.setIfInBounds_toArray, List.set_cons_zero, List.set_cons_succ, List.getElem_toArray, List.getElem_cons_zero, List.getElem_cons_succ]
        refine wpAnyH_done (by kernel_rfl) (NoPanic.normal ?_) _
        have HR : Hid (CLRel w S P N m w.heap.size (.int .i64 ((k : Int) + 1)) w6) := ⟨k + 1, by omega, by have := HN.out; omega, by go_num, by show _ = _; rw [HG6.out, HSPL.out], hb6⟩
        clear HG HG6 hb6 hbel HXM HX0 HXS HX1 HFIT HSPL HPO HA9 c00 c02
        go_wp2
        refine ⟨?_, by simp [intOf]; omega⟩
        first | exact HR.out | exact ⟨_, HR.out, rfl⟩ | exact ⟨_, _, HR.out, rfl⟩ | exact ⟨_, _, _, HR.out, rfl⟩ | exact ⟨_, _, _, _, HR.out, rfl⟩ | exact ⟨_, _, _, _, _, HR.out, rfl⟩ | exact ⟨_, _, _, _, _, _, HR.out, rfl⟩ | exact ⟨_, _, _, _, _, _, _, HR.out, rfl⟩ | exact ⟨_, _, _, _, _, _, _, _, HR.out, rfl⟩ | exact ⟨_, _, _, _, _, _, _, _, _, HR.out, rfl⟩ | exact ⟨_, _, _, _, _, _, _, _, _, _, HR.out, rfl⟩ | exact ⟨_, _, _, _, _, _, _, _, _, _, _, HR.out, rfl⟩ | exact ⟨_, _, _, _, _, _, _, _, _, _, _, _, HR.out, rfl⟩ | exact ⟨_, _, _, _, _, _, _, _, _, _, _, _, _, HR.out, rfl⟩ | exact ⟨_, _, _, _, _, _, _, _, _, _, _, _, _, _, HR.out, rfl⟩ | exact ⟨_, _, _, _, _, _, _, _, _, _, _, _, _, _, _, HR.out, rfl⟩ | exact ⟨_, _, _, _, _, _, _, _, _, _, _, _, _, _, _, _, HR.out, rfl⟩ | exact ⟨_, _, _, _, _, _, _, _, _, _, _, _, _, _, _, _, _, HR.out, rfl⟩ | exact ⟨_, _, _, _, _, _, _, _, _, _, _, _, _, _, _, _, _, _, HR.out, rfl⟩ | exact ⟨_, _, _, _, _, _, _, _, _, _, _, _, _, _, _, _, _, _, _, HR.out, rfl⟩ | exact ⟨_, _, _, _, _, _, _, _, _, _, _, _, _, _, _, _, _, _, _, _, HR.out, rfl⟩ | exact ⟨_, _, _, _, _, _, _, _, _, _, _, _, _, _, _, _, _, _, _, _, _, HR.out, rfl⟩ | exact ⟨_, _, _, _, _, _, _, _, _, _, _, _, _, _, _, _, _, _, _, _, _, _, HR.out, rfl⟩ | exact ⟨_, _, _, _, _, _, _, _, _, _, _, _, _, _, _, _, _, _, _, _, _, _, _, HR.out, rfl⟩ | exact ⟨_, _, _, _, _, _, _, _, _, _, _, _, _, _, _, _, _, _, _, _, _, _, _, _, HR.out, rfl⟩ | exact ⟨_, _, _, _, _, _, _, _, _, _, _, _, _, _, _, _, _, _, _, _, _, _, _, _, _, HR.out, rfl⟩ | exact ⟨_, _, _, _, _, _, _, _, _, _, _, _, _, _, _, _, _, _, _, _, _, _, _, _, _, _, HR.out, rfl⟩ | exact ⟨_, _, _, _, _, _, _, _, _, _, _, _, _, _, _, _, _, _, _, _, _, _, _, _, _, _, _, HR.out, rfl⟩ | exact ⟨_, _, _, _, _, _, _, _, _, _, _, _, _, _, _, _, _, _, _, _, _, _, _, _, _, _, _, _, HR.out, rfl⟩ | exact ⟨_, _, _, _, _, _, _, _, _, _, _, _, _, _, _, _, _, _, _, _, _, _, _, _, _, _, _, _, _, HR.out, rfl⟩ | exact ⟨_, _, _, _, _, _, _, _, _, _, _, _, _, _, _, _, _, _, _, _, _, _, _, _, _, _, _, _, _, _, HR.out, rfl⟩ | exact ⟨_, _, _, _, _, _, _, _, _, _, _, _, _, _, _, _, _, _, _, _, _, _, _, _, _, _, _, _, _, _, _, HR.out, rfl⟩ | exact ⟨_, _, _, _, _, _, _, _, _, _, _, _, _, _, _, _, _, _, _, _, _, _, _, _, _, _, _, _, _, _, _, _, HR.out, rfl⟩ | exact ⟨_, _, _, _, _, _, _, _, _, _, _, _, _, _, _, _, _, _, _, _, _, _, _, _, _, _, _, _, _, _, _, _, _, HR.out, rfl⟩ | exact ⟨_, _, _, _, _, _, _, _, _, _, _, _, _, _, _, _, _, _, _, _, _, _, _, _, _, _, _, _, _, _, _, _, _, _, HR.out, rfl⟩ | exact ⟨_, _, _, _, _, _, _, _, _, _, _, _, _, _, _, _, _, _, _, _, _, _, _, _, _, _, _, _, _, _, _, _, _, _, _, HR.out, rfl⟩ | exact ⟨_, _, _, _, _, _, _, _, _, _, _, _, _, _, _, _, _, _, _, _, _, _, _, _, _, _, _, _, _, _, _, _, _, _, _, _, HR.out, rfl⟩ | exact ⟨_, _, _, _, _, _, _, _, _, _, _, _, _, _, _, _, _, _, _, _, _, _, _, _, _, _, _, _, _, _, _, _, _, _, _, _, _, HR.out, rfl⟩ | exact ⟨_, _, _, _, _, _, _, _, _, _, _, _, _, _, _, _, _, _, _, _, _, _, _, _, _, _, _, _, _, _, _, _, _, _, _, _, _, _, HR.out, rfl⟩ | exact ⟨_, _, _, _, _, _, _, _, _, _, _, _, _, _, _, _, _, _, _, _, _, _, _, _, _, _, _, _, _, _, _, _, _, _, _, _, _, _, _, HR.out, rfl⟩ | exact ⟨_, _, _, _, _, _, _, _, _, _, _, _, _, _, _, _, _, _, _, _, _, _, _, _, _, _, _, _, _, _, _, _, _, _, _, _, _, _, _, _, HR.out, rfl⟩ | exact ⟨_, _, _, _, _, _, _, _, _, _, _, _, _, _, _, _, _, _, _, _, _, _, _, _, _, _, _, _, _, _, _, _, _, _, _, _, _, _, _, _, _, HR.out, rfl⟩ | exact ⟨_, _, _, _, _, _, _, _, _, _, _, _, _, _, _, _, _, _, _, _, _, _, _, _, _, _, _, _, _, _, _, _, _, _, _, _, _, _, _, _, _, _, HR.out, rfl⟩ | exact ⟨_, _, _, _, _, _, _, _, _, _, _, _, _, _, _, _, _, _, _, _, _, _, _, _, _, _, _, _, _, _, _, _, _, _, _, _, _, _, _, _, _, _, _, HR.out, rfl⟩ | exact ⟨_, _, _, _, _, _, _, _, _, _, _, _, _, _, _, _, _, _, _, _, _, _, _, _, _, _, _, _, _, _, _, _, _, _, _, _, _, _, _, _, _, _, _, _, HR.out, rfl⟩ | exact ⟨_, _, _, _, _, _, _, _, _, _, _, _, _, _, _, _, _, _, _, _, _, _, _, _, _, _, _, _, _, _, _, _, _, _, _, _, _, _, _, _, _, _, _, _, _, HR.out, rfl⟩ | exact ⟨_, _, _, _, _, _, _, _, _, _, _, _, _, _, _, _, _, _, _, _, _, _, _, _, _, _, _, _, _, _, _, _, _, _, _, _, _, _, _, _, _, _, _, _, _, _, HR.out, rfl⟩ | exact ⟨_, _, _, _, _, _, _, _, _, _, _, _, _, _, _, _, _, _, _, _, _, _, _, _, _, _, _, _, _, _, _, _, _, _, _, _, _, _, _, _, _, _, _, _, _, _, _, HR.out, rfl⟩ | exact ⟨_, _, _, _, _, _, _, _, _, _, _, _, _, _, _, _, _, _, _, _, _, _, _, _, _, _, _, _, _, _, _, _, _, _, _, _, _, _, _, _, _, _, _, _, _, _, _, _, HR.out, rfl⟩ | exact ⟨_, _, _, _, _, _, _, _, _, _, _, _, _, _, _, _, _, _, _, _, _, _, _, _, _, _, _, _, _, _, _, _, _, _, _, _, _, _, _, _, _, _, _, _, _, _, _, _, _, HR.out, rfl⟩ | exact ⟨_, _, _, _, _, _, _, _, _, _, _, _, _, _, _, _, _, _, _, _, _, _, _, _, _, _, _, _, _, _, _, _, _, _, _, _, _, _, _, _, _, _, _, _, _, _, _, _, _, _, HR.out, rfl⟩ | exact ⟨_, _, _, _, _, _, _, _, _, _, _, _, _, _, _, _, _, _, _, _, _, _, _, _, _, _, _, _, _, _, _, _, _, _, _, _, _, _, _, _, _, _, _, _, _, _, _, _, _, _, _, HR.out, rfl⟩ | exact ⟨_, _, _, _, _, _, _, _, _, _, _, _, _, _, _, _, _, _, _, _, _, _, _, _, _, _, _, _, _, _, _, _, _, _, _, _, _, _, _, _, _, _, _, _, _, _, _, _, _, _, _, _, HR.out, rfl⟩ | exact ⟨_, _, _, _, _, _, _, _, _, _, _, _, _, _, _, _, _, _, _, _, _, _, _, _, _, _, _, _, _, _, _, _, _, _, _, _, _, _, _, _, _, _, _, _, _, _, _, _, _, _, _, _, _, HR.out, rfl⟩ | exact ⟨_, _, _, _, _, _, _, _, _, _, _, _, _, _, _, _, _, _, _, _, _, _, _, _, _, _, _, _, _, _, _, _, _, _, _, _, _, _, _, _, _, _, _, _, _, _, _, _, _, _, _, _, _, _, HR.out, rfl⟩ | exact ⟨_, _, _, _, _, _, _, _, _, _, _, _, _, _, _, _, _, _, _, _, _, _, _, _, _, _, _, _, _, _, _, _, _, _, _, _, _, _, _, _, _, _, _, _, _, _, _, _, _, _, _, _, _, _, _, HR.out, rfl⟩ | exact ⟨_, _, _, _, _, _, _, _, _, _, _, _, _, _, _, _, _, _, _, _, _, _, _, _, _, _, _, _, _, _, _, _, _, _, _, _, _, _, _, _, _, _, _, _, _, _, _, _, _, _, _, _, _, _, _, _, HR.out, rfl⟩ | exact ⟨_, _, _, _, _, _, _, _, _, _, _, _, _, _, _, _, _, _, _, _, _, _, _, _, _, _, _, _, _, _, _, _, _, _, _, _, _, _, _, _, _, _, _, _, _, _, _, _, _, _, _, _, _, _, _, _, _, HR.out, rfl⟩ | exact ⟨_, _, _, _, _, _, _, _, _, _, _, _, _, _, _, _, _, _, _, _, _, _, _, _, _, _, _, _, _, _, _, _, _, _, _, _, _, _, _, _, _, _, _, _, _, _, _, _, _, _, _, _, _, _, _, _, _, _, HR.out, rfl⟩ | exact ⟨_, _, _, _, _, _, _, _, _, _, _, _, _, _, _, _, _, _, _, _, _, _, _, _, _, _, _, _, _, _, _, _, _, _, _, _, _, _, _, _, _, _, _, _, _, _, _, _, _, _, _, _, _, _, _, _, _, _, _, HR.out, rfl⟩ | exact ⟨_, _, _, _, _, _, _, _, _, _, _, _, _, _, _, _, _, _, _, _, _, _, _, _, _, _, _, _, _, _, _, _, _, _, _, _, _, _, _, _, _, _, _, _, _, _, _, _, _, _, _, _, _, _, _, _, _, _, _, _, HR.out, rfl⟩ | exact ⟨_, _, _, _, _, _, _, _, _, _, _, _, _, _, _, _, _, _, _, _, _, _, _, _, _, _, _, _, _, _, _, _, _, _, _, _, _, _, _, _, _, _, _, _, _, _, _, _, _, _, _, _, _, _, _, _, _, _, _, _, _, HR.out, rfl⟩ | exact ⟨_, _, _, _, _, _, _, _, _, _, _, _, _, _, _, _, _, _, _, _, _, _, _, _, _, _, _, _, _, _, _, _, _, _, _, _, _, _, _, _, _, _, _, _, _, _, _, _, _, _, _, _, _, _, _, _, _, _, _, _, _, _, HR.out, rfl⟩ | exact ⟨_, _, _, _, _, _, _, _, _, _, _, _, _, _, _, _, _, _, _, _, _, _, _, _, _, _, _, _, _, _, _, _, _, _, _, _, _, _, _, _, _, _, _, _, _, _, _, _, _, _, _, _, _, _, _, _, _, _, _, _, _, _, _, HR.out, rfl⟩ | exact ⟨_, _, _, _, _, _, _, _, _, _, _, _, _, _, _, _, _, _, _, _, _, _, _, _, _, _, _, _, _, _, _, _, _, _, _, _, _, _, _, _, _, _, _, _, _, _, _, _, _, _, _, _, _, _, _, _, _, _, _, _, _, _, _, _, HR.out, rfl⟩ | exact ⟨_, _, _, _, _, _, _, _, _, _, _, _, _, _, _, _, _, _, _, _, _, _, _, _, _, _, _, _, _, _, _, _, _, _, _, _, _, _, _, _, _, _, _, _, _, _, _, _, _, _, _, _, _, _, _, _, _, _, _, _, _, _, _, _, _, HR.out, rfl⟩
      · have h9 := safeAt_out b n xc (some ⟨gx, ox, none⟩) ((P : Int) + (k : Int)) a wr.drew c00 (Glob.step (w := w) HGL.out (Below.drew hbel) (Glob.lt (w := w) HGL.out)) (.inr (by omega)) hn9
        have HSB : Hid _ := h9
        have HC : Hid (claimD S P = []) := by
          show _ = _
          unfold claimD
          rw [HSZ.out, HM.out, if_neg (by omega)]
        clear h9 hcl hnS V1
        go_wp2
        refine wp_region_noPanic ?_
        refine wp_region_held_drew (S := fun w' => w'.cell? ⟨b, 2, none⟩ = some (.int .i64 (P : Int))) (by kernel_rfl) c02 (fun hHeld => ?_)
        refine wpAnyH_take (i := 0) (v := ?_) rfl (by kernel_rfl) (by kernel_rfl) (by kernel_rfl) (fun _ _ _ h => h) (Or.inl ⟨by rfl, ?_⟩) (by assumption) ?_
        rotate_left
        · (intro w_ hSw_; (try dsimp only at hSw_); go_simp; try with_reducible rfl)
        try simp only [Act.put, List.setIfInBounds_toArray, List.set_cons_zero, List.set_cons_succ, List.getElem_toArray, List.getElem_cons_zero, List.getElem_cons_succ]
        refine wpAnyH_take (i := 1) (v := ?_) rfl (by kernel_rfl) (by kernel_rfl) (by kernel_rfl) (fun _ _ _ h => h) (Or.inl ⟨by rfl, ?_⟩) (by assumption) ?_
        rotate_left
        · (intro w_ hSw_; (try dsimp only at hSw_); go_simp; try with_reducible rfl)
        try simp only [Act.put, List.setIfInBounds_toArray, List.set_cons_zero, List.set_cons_succ, List.getElem_toArray, List.getElem_cons_zero, List.getElem_cons_succ]
        refine wpAnyH_take (i := 2) (v := ?_) rfl (by kernel_rfl) (by kernel_rfl) (by kernel_rfl) (fun _ _ _ h => h) (Or.inl ⟨by rfl, ?_⟩) (by assumption) ?_
        rotate_left
        · (intro w_ hSw_; (try dsimp only at hSw_); go_simp; try with_reducible rfl)
        try simp only [Act.put, List.setIfInBounds_toArray, List.set_cons_zero, List.set_cons_succ, List.getElem_toArray, List.getElem_cons_zero, List.getElem_cons_succ]
        refine wpAnyH_take (i := 3) (v := ?_) rfl (by kernel_rfl) (by kernel_rfl) (by kernel_rfl) (fun _ _ _ h => h) (Or.inl ⟨by rfl, ?_⟩) (by assumption) ?_
        rotate_left
        · (intro w_ hSw_; (try dsimp only at hSw_); go_simp; try with_reducible rfl)
        try simp only [Act.put, List.setIfInBounds_toArray, List.set_cons_zero, List.set_cons_succ, List.getElem_toArray, List.getElem_cons_zero, List.getElem_cons_succ]
        refine wpAnyH_take (i := 4) (v := ?_) rfl (by kernel_rfl) (by kernel_rfl) (by kernel_rfl) (fun _ _ _ h => h) (Or.inl ⟨by rfl, ?_⟩) (by assumption) ?_
        rotate_left
        · (intro w_ hSw_; (try dsimp only at hSw_); go_simp; try with_reducible rfl)
        try simp only [Act.put, List.setIfInBounds_toArray, List.set_cons_zero, List.set_cons_succ, List.getElem_toArray, List.getElem_cons_zero, List.getElem_cons_succ]
        refine wpAnyH_take (i := 5) (v := ?_) rfl (by kernel_rfl) (by kernel_rfl) (by kernel_rfl) (fun _ _ _ h => h) (Or.inl ⟨by rfl, ?_⟩) (by assumption) ?_
        rotate_left
        · (intro w_ hSw_; (try dsimp only at hSw_); go_simp; try with_reducible rfl)
        try simp only [Act.put, List.setIfInBounds_toArray, List.set_cons_zero, List.set_cons_succ, List.getElem_toArray, List.getElem_cons_zero, List.getElem_cons_succ]
        refine wpAnyH_take (i := 6) (v := ?_) rfl (by kernel_rfl) (by kernel_rfl) (by kernel_rfl) (fun _ _ _ h => h) (Or.inl ⟨by rfl, ?_⟩) (by assumption) ?_
        rotate_left
        · (intro w_ hSw_; (try dsimp only at hSw_); go_simp; try with_reducible rfl)
        try simp only [Act.put, List.setIfInBounds_toArray, List.set_cons_zero, List.set_cons_succ, List.getElem_toArray, List.getElem_cons_zero, List.getElem_cons_succ]
        refine wpAnyH_take (i := 7) (v := ?_) rfl (by kernel_rfl) (by kernel_rfl) (by kernel_rfl) (fun _ _ _ h => h) (Or.inl ⟨by rfl, ?_⟩) (by assumption) ?_
        rotate_left
        · (intro w_ hSw_; (try dsimp only at hSw_); go_simp; try with_reducible rfl)
        try simp only [Act.put, List.setIfInBounds_toArray, List.set_cons_zero, List.set_cons_succ, List.getElem_toArray, List.getElem_cons_zero, List.getElem_cons_succ]
        refine wpAnyH_take (i := 8) (v := ?_) rfl (by kernel_rfl) (by kernel_rfl) (by kernel_rfl) (fun _ _ _ h => h) (Or.inl ⟨by rfl, ?_⟩) (by assumption) ?_
        rotate_left
        · (intro w_ hSw_; (try dsimp only at hSw_); go_simp; try with_reducible rfl)
        try simp only [Act.put, List.setIfInBounds_toArray, List.set_cons_zero, List.set_cons_succ, List.getElem_toArray, List.getElem_cons_zero, List.getElem_cons_succ]
        refine wpAnyH_ready (rs := [9]) (by kernel_rfl) (by simp) ?_
        refine AllReadyH.cons rfl (fun K hK => ?_) AllReadyH.nil
        go_simp
        refine Calls.mono HSB.out ?_
        rintro e w3 ⟨rfl, m3, hw3⟩
        subst hw3
        go_wp2_with fail
        refine hK.out _ _ (by assumption) (fun hHeld => ?_)
        clear hK K
        try simp only [Act.put, List.setIfInBounds_toArray, List.set_cons_zero, List.set_cons_succ, List.getElem_toArray, List.getElem_cons_zero, List.getElem_cons_succ]
        refine wpAnyH_take (i := 10) (v := ?_) rfl (by kernel_rfl) (by kernel_rfl) (by kernel_rfl) (fun _ _ _ h => h) (Or.inl ⟨by rfl, ?_⟩) (by assumption) ?_
        rotate_left
        · (intro w_ hSw_; (try dsimp only at hSw_); go_simp; try with_reducible rfl)
        try simp only [Act.put, List.setIfInBounds_toArray, List.set_cons_zero, List.set_cons_succ, List.getElem_toArray, List.getElem_cons_zero, List.getElem_cons_succ]
        refine wpAnyH_take (i := 11) (v := ?_) rfl (by kernel_rfl) (by kernel_rfl) (by kernel_rfl) (fun _ _ _ h => h) (Or.inl ⟨by rfl, ?_⟩) (by assumption) ?_
        rotate_left
        · (intro w_ hSw_; (try dsimp only at hSw_); go_simp; try with_reducible rfl)
        try simp only [Act.put, List.setIfInBounds_toArray, List.set_cons_zero, List.set_cons_succ, List.getElem_toArray, List.getElem_cons_zero, List.getElem_cons_succ]
        refine wpAnyH_take (i := 12) (v := ?_) rfl (by kernel_rfl) (by kernel_rfl) (by kernel_rfl) (fun _ _ _ h => h) (Or.inl ⟨by rfl, ?_⟩) (by assumption) ?_
        rotate_left
        · (intro w_ hSw_; (try dsimp only at hSw_); go_simp; try with_reducible rfl)
        try simp only [Act.put, List.setIfInBounds_toArray, List.set_cons_zero, List.set_cons_succ, List.getElem_toArray, List.getElem_cons_zero, List.getElem_cons_succ]
        refine wpAnyH_take (i := 13) (v := ?_) rfl (by kernel_rfl) (by kernel_rfl) (by kernel_rfl) (fun _ _ _ h => h) (Or.inl ⟨by rfl, ?_⟩) (by assumption) ?_
        rotate_left
        · (intro w_ hSw_; (try dsimp only at hSw_); go_simp; try with_reducible rfl)
        try simp only [Act.put, List.setIfInBounds_toArray, List.set_cons_zero, List.set_cons_succ, List.getElem_toArray, List.getElem_cons_zero, List.getElem_cons_succ]
        refine wpAnyH_take (i := 14) (v := ?_) rfl (by kernel_rfl) (by kernel_rfl) (by kernel_rfl) (fun _ _ _ h => h) (Or.inl ⟨by rfl, ?_⟩) (by assumption) ?_
        rotate_left
        · (intro w_ hSw_; (try dsimp only at hSw_); go_simp; try with_reducible rfl)
        try simp only [Act.put, List.setIfInBounds_toArray, List.set_cons_zero, List.set_cons_succ, List.getElem_toArray, List.getElem_cons_zero, List.getElem_cons_succ]
        refine wpAnyH_done (by kernel_rfl) (NoPanic.normal ?_) _
        go_wp2
        go_ret
        exact ⟨_, rfl, by rw [HC.out]; exact own_nilB _ _ (below_drewN2 hbel _).size, below_drewN2 hbel _⟩
    · have hkm : k = m := by omega
      subst hkm
      have HC : Hid (claimD S P = (catN S P k).take N) := by
        show _ = _
        unfold claimD
        rw [HSZ.out, HM.out, if_pos (by omega)]
      have HO : Hid (OwB wr w.heap.size wr.heap.size (.slice (some ⟨w.heap.size, 0, none⟩) N N) (claimD S P)) := by
        have hg := HG.out
        have hz9 : N - 24 * k = 0 := by have := HMM.out; omega
        rw [hz9, List.replicate_zero, List.append_nil] at hg
        have hl9 : ((catN S P k).take N).length = N := by rw [List.length_take, hcl]; have := HMM.out; omega
        rw [HC.out]
        refine OwB.of ?_ (full_owns hl9.symm (Nat.le_refl _) (by omega) hg)
        have hcb : ∀ k', isBytes (catN S P k') := fun k' => by
          induction k' with
          | zero => exact isBytes_nil
          | succ k' ih =>
            rw [catN_succ]
            refine isBytes_append ih (isBytes_take (isBytes_drop ?_ _) _)
            by_cases h8 : P + k' < n
            · exact (HEE.out _ h8).1
            · rw [List.getElem?_eq_none (by omega)]; exact isBytes_nil
        exact isBytes_take (hcb k) _
      have hk9 : ¬ (k : Int) < (k : Int) := by omega
      clear HG HC hcl hnS V1
      go_wp2
      go_ret
      exact ⟨_, rfl, HO.out, hbel⟩
end Go.Proofs.YtjhaanenkeceiaaDoor
end

section
/- bytes.Equal, and how the loops over sectors are told. -/
namespace Go.Proofs.YtjhaanenkeceiaaDoor
open Go.RowKit Go.Lib
set_option linter.unusedVariables false
set_option linter.unusedSimpArgs false
attribute [local go_sem ↓] Go.wp_at_zero Go.wp_at_succ

theorem equal_any (u v : Value) (xs ys : List Int) (l h l' h' : Nat) (w : World) (r : RdB w l h u xs) (s : RdB w l' h' v ys) :
    Calls Tryd.prog 91 #[u, v] w fun e w' => e = .returned (.bool (decide (xs = ys))) ∧ w' = w := by
  obtain ⟨bx, a, la, ca, rfl, hla, _, hx⟩ := r.reads
  obtain ⟨by_, b, lb, cb, rfl, hlb, _, hy⟩ := s.reads
  have h1 := conv_any a xs la ca w hx hla
  have h2 := conv_any b ys lb cb w hy hlb
  have hst := str_eq xs ys bx by_
  generalize strOfNums xs = s1 at h1 hst
  generalize strOfNums ys = s2 at h2 hst
  have HST : Hid _ := hst
  clear hx hy hla hlb r s bx by_ hst
  go_enter Tryd.func91, Tryd.ntmps91
  go_wp2
  go_ret
  refine ⟨?_, rfl⟩
  rw [← HST.out]
  rfl
end Go.Proofs.YtjhaanenkeceiaaDoor
end

section
/- Which sector keeps a frame from lying there, the program's way; it leans on the package's error errNoSector. Conditions: the sectors are at most 2000, the frame of at most 20. -/
namespace Go.Proofs.YtjhaanenkeceiaaDoor
open Go.RowKit
set_option linter.unusedVariables false
set_option linter.unusedSimpArgs false
attribute [local go_sem ↓] Go.wp_at_zero Go.wp_at_succ

/-- At the label: so it did not match. -/
def SPJ (w : World) (S : List (List Int)) (P : Nat) (fr : List (List Int)) (a' : Act) (w' : World) : Prop :=
  matchB S P fr = false ∧ Below w.heap.size w w' ∧ ∃ (z : Int) (u0 u1 u2 u3 u4 u6 u7 u8 u9 u10 u11 u12 u13 u14 u15 u16 u17 u18 u19 u20 u21 u22 u23 u24 u25 u26 u27 u28 u29 u30 u31 u32 u33 u34 u35 u36 u37 u38 u39 : Value), 0 ≤ z ∧ a' = { tmps := #[u0, u1, u2, u3, u4, .int .i64 z, u6, u7, u8, u9, u10, u11, u12, u13, u14, u15, u16, u17, u18, u19, u20, u21, u22, u23, u24, u25, u26, u27, u28, u29, u30, u31, u32, u33, u34, u35, u36, u37, u38, u39], defers := [] }
def SPRel (w : World) (S : List (List Int)) (P : Nat) (fr : List (List Int)) (m : Nat) (t i : Value) (wr : World) : Prop :=
  ∃ k : Nat, k ≤ m ∧ P + k ≤ S.length ∧ t = .int .i64 ((P : Int) + (k : Int)) ∧ i = .int .i64 k ∧ Hid (∀ j, j < k → S[P + j]?.getD [] = fr[j]?.getD []) ∧ Below w.heap.size w wr
theorem match_no {S : List (List Int)} {P k : Nat} {fr : List (List Int)} (hk : k < fr.length) (h : S.length ≤ P + k ∨ S[P + k]?.getD [] ≠ fr[k]?.getD []) : matchB S P fr = false := by
  unfold matchB
  rcases h with h | h
  · rw [decide_eq_false (by omega)]; rfl
  · have : (List.range fr.length).all (fun i => S[P + i]?.getD [] == fr[i]?.getD []) = false := by
      rw [List.all_eq_false]
      exact ⟨k, List.mem_range.2 hk, by simpa using h⟩
    rw [this, Bool.and_false]
theorem match_yes {S : List (List Int)} {P : Nat} {fr : List (List Int)} (hk : P + fr.length ≤ S.length) (h : ∀ j, j < fr.length → S[P + j]?.getD [] = fr[j]?.getD []) : matchB S P fr = true := by
  unfold matchB
  rw [decide_eq_true (by omega), Bool.true_and, List.all_eq_true]
  intro j hj
  rw [h j (List.mem_range.1 hj)]
  exact beq_self_eq_true _

set_option maxRecDepth 100000 in
set_option maxHeartbeats 1000000 in
theorem spoiler_any (b : Nat) (x y : Value) (S : List (List Int)) (P : Nat) (q : Int) (l h : Nat) (a : Addr) (w : World) (v0 : VarJ 30 w b x y (P : Int) q) (r : RdBB w l h x S) (hh : h ≤ w.heap.size) (hg : Glob w a) (hS : S.length ≤ 2000) (hP : P ≤ S.length)
    (fx : Value) (fr : List (List Int)) (lf hf : Nat) (rf : RdBB w lf hf fx fr) (hhf : hf ≤ w.heap.size) (hfl : fr.length ≤ 20) :
    Calls Tryd.prog 88 #[.pointer (some ⟨b, 0, none⟩), fx] w fun e w' => ∃ z : Int, e = .returned (.int .i64 z) ∧ (z = -1 ↔ matchB S P fr = true) ∧ Below w.heap.size w w' := by
  obtain ⟨xa, n, xc, us, rfl, hn, hhd, hcx, hee⟩ := r
  obtain ⟨fa, m, fc, vs, rfl, hm, fhd, hcf, hef⟩ := rf
  have c2 := v0.c2
  have hP9 : P ≤ 2000 := by omega
  have hn9 : n ≤ 9223372036854775807 := by omega
  have hm9 : m ≤ 20 := by omega
  have HM : Hid (m = fr.length) := hm
  have HN : Hid (n = S.length) := hn
  have HEE : Hid _ := hee
  have HEF : Hid _ := hef
  have HCX : Hid _ := hcx
  have HCF : Hid _ := hcf
  have HGL : Hid _ := hg
  have HV : Hid (VarJ _ w b _ _ _ _) := v0
  have HST : Hid (SPRel w S P fr m (.int .i64 (P : Int)) (.int .i64 0) w) := ⟨0, Nat.zero_le _, by omega, by simp, rfl, fun j hj => absurd hj (Nat.not_lt_zero _), Below.refl _ _⟩
  clear hn hm hee hef hcx hcf hg v0 hhd fhd
  go_enter Tryd.func88, Tryd.ntmps88
  go_wp2
  refine wp_scope_jumps 0 (SPJ w S P fr) (fun _ _ => 0) (by rfl) ?_ ?_
  · go_wp2
    go_loopw [5, 16] (fun t i wr => SPRel w S P fr m t i wr) (fun _ i _ => m - (intOf i).toNat)
    case atStart => exact HST.out
    case round =>
      clear HST
      obtain ⟨k, hk, hPk, rfl, rfl, HMT, hbel⟩ := hrel
      have V1 := VarJ.step HV.out hbel
      have c00 := V1.c0
      have hwk := wrap_id ((P : Int) + (k : Int)) (by omega) (by omega)
      have hwk1 := wrap_id ((P : Int) + (k : Int) + 1) (by omega) (by omega)
      by_cases hlt : k < m
      · have hlt9 : (k : Int) < (m : Int) := by omega
        have hk0 : (0 : Int) ≤ (k : Int) := by omega
        obtain ⟨fg, fo, hfe, hfg0, hfg1, hcc⟩ := HCF.out.resolve_left (by omega)
        subst hfe
        have kf : wr.cell? ⟨fg, fo + k, none⟩ = some (vs k) := (hbel.cell (p := ⟨fg, fo + k, none⟩) (by show fg < w.heap.size; omega)).trans (hcc k hlt)
        have rfk := (HEF.out k hlt).same (SameIn.ofBelow hbel hhf)
        obtain ⟨va, vn, vc, hve⟩ := rfk.sliced
        rw [hve] at kf rfk
        clear hve hcc
        by_cases hin : P + k < n
        · obtain ⟨gx, ox, hxe, hgx0, hgx1, hcc⟩ := HCX.out.resolve_left (by omega)
          subst hxe
          have hcell : wr.cell? ⟨gx, ox + (P + k), none⟩ = some (us (P + k)) := (hbel.cell (p := ⟨gx, ox + (P + k), none⟩) (by show gx < w.heap.size; omega)).trans (hcc (P + k) hin)
          have rsk := (HEE.out (P + k) hin).same (SameIn.ofBelow hbel hh)
          have h9 := safeAt_in b gx ox (P + k) n xc (us (P + k)) wr c00 hcell hin hn9
          obtain ⟨sa, sn, sc, hse⟩ := rsk.sliced
          rw [hse] at rsk h9
          rw [Int.natCast_add P k] at h9
          have HSB : Hid _ := h9
          have HEQ : Hid _ := equal_any _ _ _ _ _ _ _ _ wr rsk rfk
          clear h9 hse hcell hcc c00 rsk rfk V1
          by_cases heq : S[P + k]?.getD [] = fr[k]?.getD []
          · rw [decide_eq_true heq] at HEQ
            have HR : Hid (SPRel w S P fr m (.int .i64 ((P : Int) + (k : Int) + 1)) (.int .i64 ((k : Int) + 1)) wr) := by
              refine ⟨k + 1, by omega, by have := HN.out; omega, by rw [show ((k + 1 : Nat) : Int) = (k : Int) + 1 by omega, Int.add_assoc], by go_num, fun j hj => ?_, hbel⟩
              by_cases e : j = k
              · rw [e]; exact heq
              · exact HMT.out j (by omega)
            clear HMT hbel heq
            go_wp2_with fail
            refine Calls.mono HSB.out ?_
            rintro e w3 ⟨rfl, hw3⟩
            subst hw3
            go_wp2_with fail
            refine Calls.mono HEQ.out ?_
            rintro e w4 ⟨rfl, hw4⟩
            subst hw4
            clear HSB HEQ
            go_wp2
            exact ⟨HR.out, by simp [intOf]; omega⟩
          · rw [decide_eq_false heq] at HEQ
            have HJ : Hid (matchB S P fr = false ∧ Below w.heap.size w wr) := ⟨match_no (k := k) (by have := HM.out; omega) (.inr heq), hbel⟩
            clear HMT hbel heq
            go_wp2_with fail
            refine Calls.mono HSB.out ?_
            rintro e w3 ⟨rfl, hw3⟩
            subst hw3
            go_wp2_with fail
            refine Calls.mono HEQ.out ?_
            rintro e w4 ⟨rfl, hw4⟩
            subst hw4
            clear HSB HEQ
            go_wp2
            go_step3
            exact ⟨rfl, HJ.out.1, HJ.out.2, _, _, _, _, _, _, _, _, _, _, _, _, _, _, _, _, _, _, _, _, _, _, _, _, _, _, _, _, _, _, _, _, _, _, _, _, _, _, _, _, by omega, rfl⟩
        · have HSB : Hid _ := safeAt_out b n xc xa ((P : Int) + (k : Int)) a wr c00 (Glob.step (w := w) HGL.out hbel (Glob.lt (w := w) HGL.out)) (.inr (by omega)) hn9
          have HJ : Hid (matchB S P fr = false ∧ Below w.heap.size w wr) := ⟨match_no (k := k) (by have := HM.out; omega) (.inl (by have := HN.out; omega)), hbel⟩
          clear HMT hbel c00 rfk V1
          go_wp2_with fail
          refine Calls.mono HSB.out ?_
          rintro e w3 ⟨rfl, m3, hw3⟩
          subst hw3
          clear HSB
          go_wp2
          go_step3
          exact ⟨rfl, HJ.out.1, below_drewN2 HJ.out.2 _, _, _, _, _, _, _, _, _, _, _, _, _, _, _, _, _, _, _, _, _, _, _, _, _, _, _, _, _, _, _, _, _, _, _, _, _, _, _, _, _, by omega, rfl⟩
      · have hkm : k = m := by omega
        subst hkm
        have HY : Hid (matchB S P fr = true) := match_yes (by have := HM.out; omega) (fun j hj => HMT.out j (by have := HM.out; omega))
        have hk9 : ¬ (k : Int) < (k : Int) := by omega
        clear HMT c00 V1
        go_wp2
        simp only [Exit.jump]
        go_ret
        exact ⟨_, rfl, ⟨fun _ => HY.out, fun _ => rfl⟩, hbel⟩
  · rintro a9 w9 ⟨hf, hb, z, u0, u1, u2, u3, u4, u6, u7, u8, u9, u10, u11, u12, u13, u14, u15, u16, u17, u18, u19, u20, u21, u22, u23, u24, u25, u26, u27, u28, u29, u30, u31, u32, u33, u34, u35, u36, u37, u38, u39, hz, rfl⟩
    clear HST HGL HV HCX HCF HEE HEF c2
    go_wp2
    simp only [Exit.jump]
    go_ret
    exact ⟨_, rfl, ⟨fun h => by omega, fun h => by rw [hf] at h; cases h⟩, hb⟩
end Go.Proofs.YtjhaanenkeceiaaDoor
end
