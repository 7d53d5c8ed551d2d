/- Transactions' numbers, parts, replies and messages that came in as arguments, read as data; no condition. -/
import Derived.Test.YtmjfnmlfamikgaaOpenT2
import Derived.Test.YtmjfnmlfamikgaaWires
namespace Go.Proofs.Ytmjfnmlfamikgaa
open Go.RowKit Go.Deep Go.ChangeShapes Go.WideShapes
set_option linter.unusedVariables false
set_option linter.unusedSimpArgs false
set_option maxRecDepth 100000

section
variable {H : Type} {enc : TypeId × Value → H} {w : World} {held : Bool}

theorem trod_fieldsW3 {t : TypeId} {f0 f1 f2 : Field} {fuel : Nat} {cs : List Value} {x : DataW H × List MemPlace} (ht : Try.prog.underlying t = some (.struct #[f0, f1, f2])) (h : DataW.trod enc Try.prog w 0 (fun _ => true) held fuel t cs = some x) :
    cs.length = Try.prog.cellsOf t ∧ ∃ n, (∃ y, DataW.trod enc Try.prog w 0 (fun _ => true) held n f0.type ((cs.drop f0.offset).take (Try.prog.cellsOf f0.type)) = some y) ∧ (∃ y, DataW.trod enc Try.prog w 0 (fun _ => true) held n f1.type ((cs.drop f1.offset).take (Try.prog.cellsOf f1.type)) = some y) ∧ (∃ y, DataW.trod enc Try.prog w 0 (fun _ => true) held n f2.type ((cs.drop f2.offset).take (Try.prog.cellsOf f2.type)) = some y) := by
  obtain ⟨xs, n, _, rfl, hl, hlen, hf⟩ := DataW.trod_struct ht h
  match xs, hlen with
  | [y0, y1, y2], _ => exact ⟨hl, n, ⟨y0, by simpa using hf 0 f0 rfl⟩, ⟨y1, by simpa using hf 1 f1 rfl⟩, ⟨y2, by simpa using hf 2 f2 rfl⟩⟩
theorem trod_fieldsW4 {t : TypeId} {f0 f1 f2 f3 : Field} {fuel : Nat} {cs : List Value} {x : DataW H × List MemPlace} (ht : Try.prog.underlying t = some (.struct #[f0, f1, f2, f3])) (h : DataW.trod enc Try.prog w 0 (fun _ => true) held fuel t cs = some x) :
    cs.length = Try.prog.cellsOf t ∧ ∃ n, (∃ y, DataW.trod enc Try.prog w 0 (fun _ => true) held n f0.type ((cs.drop f0.offset).take (Try.prog.cellsOf f0.type)) = some y) ∧ (∃ y, DataW.trod enc Try.prog w 0 (fun _ => true) held n f1.type ((cs.drop f1.offset).take (Try.prog.cellsOf f1.type)) = some y) ∧ (∃ y, DataW.trod enc Try.prog w 0 (fun _ => true) held n f2.type ((cs.drop f2.offset).take (Try.prog.cellsOf f2.type)) = some y) ∧ (∃ y, DataW.trod enc Try.prog w 0 (fun _ => true) held n f3.type ((cs.drop f3.offset).take (Try.prog.cellsOf f3.type)) = some y) := by
  obtain ⟨xs, n, _, rfl, hl, hlen, hf⟩ := DataW.trod_struct ht h
  match xs, hlen with
  | [y0, y1, y2, y3], _ => exact ⟨hl, n, ⟨y0, by simpa using hf 0 f0 rfl⟩, ⟨y1, by simpa using hf 1 f1 rfl⟩, ⟨y2, by simpa using hf 2 f2 rfl⟩, ⟨y3, by simpa using hf 3 f3 rfl⟩⟩
theorem trod_fieldsW10 {t : TypeId} {f0 f1 f2 f3 f4 f5 f6 f7 f8 f9 : Field} {fuel : Nat} {cs : List Value} {x : DataW H × List MemPlace} (ht : Try.prog.underlying t = some (.struct #[f0, f1, f2, f3, f4, f5, f6, f7, f8, f9])) (h : DataW.trod enc Try.prog w 0 (fun _ => true) held fuel t cs = some x) :
    cs.length = Try.prog.cellsOf t ∧ ∃ n, (∃ y, DataW.trod enc Try.prog w 0 (fun _ => true) held n f0.type ((cs.drop f0.offset).take (Try.prog.cellsOf f0.type)) = some y) ∧ (∃ y, DataW.trod enc Try.prog w 0 (fun _ => true) held n f1.type ((cs.drop f1.offset).take (Try.prog.cellsOf f1.type)) = some y) ∧ (∃ y, DataW.trod enc Try.prog w 0 (fun _ => true) held n f2.type ((cs.drop f2.offset).take (Try.prog.cellsOf f2.type)) = some y) ∧ (∃ y, DataW.trod enc Try.prog w 0 (fun _ => true) held n f3.type ((cs.drop f3.offset).take (Try.prog.cellsOf f3.type)) = some y) ∧ (∃ y, DataW.trod enc Try.prog w 0 (fun _ => true) held n f4.type ((cs.drop f4.offset).take (Try.prog.cellsOf f4.type)) = some y) ∧ (∃ y, DataW.trod enc Try.prog w 0 (fun _ => true) held n f5.type ((cs.drop f5.offset).take (Try.prog.cellsOf f5.type)) = some y) ∧ (∃ y, DataW.trod enc Try.prog w 0 (fun _ => true) held n f6.type ((cs.drop f6.offset).take (Try.prog.cellsOf f6.type)) = some y) ∧ (∃ y, DataW.trod enc Try.prog w 0 (fun _ => true) held n f7.type ((cs.drop f7.offset).take (Try.prog.cellsOf f7.type)) = some y) ∧ (∃ y, DataW.trod enc Try.prog w 0 (fun _ => true) held n f8.type ((cs.drop f8.offset).take (Try.prog.cellsOf f8.type)) = some y) ∧ (∃ y, DataW.trod enc Try.prog w 0 (fun _ => true) held n f9.type ((cs.drop f9.offset).take (Try.prog.cellsOf f9.type)) = some y) := by
  obtain ⟨xs, n, _, rfl, hl, hlen, hf⟩ := DataW.trod_struct ht h
  match xs, hlen with
  | [y0, y1, y2, y3, y4, y5, y6, y7, y8, y9], _ => exact ⟨hl, n, ⟨y0, by simpa using hf 0 f0 rfl⟩, ⟨y1, by simpa using hf 1 f1 rfl⟩, ⟨y2, by simpa using hf 2 f2 rfl⟩, ⟨y3, by simpa using hf 3 f3 rfl⟩, ⟨y4, by simpa using hf 4 f4 rfl⟩, ⟨y5, by simpa using hf 5 f5 rfl⟩, ⟨y6, by simpa using hf 6 f6 rfl⟩, ⟨y7, by simpa using hf 7 f7 rfl⟩, ⟨y8, by simpa using hf 8 f8 rfl⟩, ⟨y9, by simpa using hf 9 f9 rfl⟩⟩
theorem open_txT {fuel : Nat} {cs : List Value} {x : DataW H × List MemPlace} (h : DataW.trod enc Try.prog w 0 (fun _ => true) held fuel 31 cs = some x) :
    ∃ t : TxD, cs = [.int .i64 t.1, .int .i64 t.2.1, .int .i64 t.2.2] := by
  obtain ⟨hl, n, ⟨y0, h0⟩, ⟨y1, h1⟩, ⟨y2, h2⟩⟩ := trod_fieldsW3 Try.underlying31 h
  have k0 : Try.prog.cellsOf 3 = 1 := by kernel_rfl
  have kk : Try.prog.cellsOf 31 = 3 := by kernel_rfl
  rw [kk] at hl
  match cs, hl with
  | c0 :: c1 :: c2 :: [], _ =>
    simp only [k0, List.drop_zero, List.take_succ_cons, List.take_zero, List.drop_succ_cons] at h0 h1 h2
    obtain ⟨p, e0, _, _⟩ := DataW.trod_int Try.underlying3 h0
    simp only [List.cons.injEq, and_true] at e0
    subst e0
    obtain ⟨q, e1, _, _⟩ := DataW.trod_int Try.underlying3 h1
    simp only [List.cons.injEq, and_true] at e1
    subst e1
    obtain ⟨s, e2, _, _⟩ := DataW.trod_int Try.underlying3 h2
    simp only [List.cons.injEq, and_true] at e2
    subst e2
    exact ⟨(p, q, s), rfl⟩
theorem open_txA {b0 : Nat} {r : Reach} {v : Value} {x : DataW H} {p : List MemPlace} (hv : Value.okWide Try.prog w r b0 31 v) (h : DataW.Trod enc Try.prog w 0 (fun _ => true) held 31 v x p) :
    ∃ t : TxD, v = txV t := by
  obtain ⟨cs, rfl, hsz⟩ := okWide_struct Try.underlying31 hv
  obtain ⟨fuel, hf⟩ := h
  obtain ⟨t, e⟩ := open_txT hf
  refine ⟨t, ?_⟩
  obtain ⟨l⟩ := cs
  have e' : l = _ := e
  subst e'
  rfl
theorem open_partT {fuel : Nat} {cs : List Value} {x : DataW H × List MemPlace} (h : DataW.trod enc Try.prog w 0 (fun _ => true) held fuel 33 cs = some x) :
    ∃ (t : PtD) (u : Value), cs = [.int .i64 t.kind, .int .i64 t.h.sh, .int .i64 t.h.ino, .bool t.h.dir, u, .int .i64 t.to.sh, .int .i64 t.to.ino, .bool t.to.dir] ∧ RdV w (Old w) u (.bytes t.asn) := by
  obtain ⟨hl, n, ⟨y0, h0⟩, ⟨y1, h1⟩, ⟨y2, h2⟩, ⟨y3, h3⟩⟩ := trod_fieldsW4 Try.underlying33 h
  have k0 : Try.prog.cellsOf 24 = 1 := by kernel_rfl
  have k1 : Try.prog.cellsOf 3 = 1 := by kernel_rfl
  have k2 : Try.prog.cellsOf 23 = 3 := by kernel_rfl
  have kk : Try.prog.cellsOf 33 = 8 := by kernel_rfl
  rw [kk] at hl
  match cs, hl with
  | c0 :: c1 :: c2 :: c3 :: c4 :: c5 :: c6 :: c7 :: [], _ =>
    simp only [k0, k1, k2, List.drop_zero, List.take_succ_cons, List.take_zero, List.drop_succ_cons] at h0 h1 h2 h3
    obtain ⟨k, e0, _, _⟩ := DataW.trod_int Try.underlying3 h0
    simp only [List.cons.injEq, and_true] at e0
    subst e0
    obtain ⟨g1, e1⟩ := open_handleT h1
    simp only [List.cons.injEq, and_true] at e1
    obtain ⟨rfl, rfl, rfl⟩ := e1
    obtain ⟨zs, r1⟩ := open_bytesT h2
    obtain ⟨g2, e3⟩ := open_handleT h3
    simp only [List.cons.injEq, and_true] at e3
    obtain ⟨rfl, rfl, rfl⟩ := e3
    exact ⟨⟨k, g1, zs, g2⟩, c4, rfl, r1⟩
theorem open_partA {b0 : Nat} {r : Reach} {v : Value} {x : DataW H} {p : List MemPlace} (hv : Value.okWide Try.prog w r b0 33 v) (h : DataW.Trod enc Try.prog w 0 (fun _ => true) held 33 v x p) :
    ∃ t : PtD, ∃ u, v = ptV t u ∧ RdV w (Old w) u (.bytes t.asn) := by
  obtain ⟨cs, rfl, hsz⟩ := okWide_struct Try.underlying33 hv
  obtain ⟨fuel, hf⟩ := h
  obtain ⟨t, u, e, r1⟩ := open_partT hf
  refine ⟨t, u, ?_, r1⟩
  obtain ⟨l⟩ := cs
  have e' : l = _ := e
  subst e'
  rfl
theorem open_replyT {fuel : Nat} {cs : List Value} {x : DataW H × List MemPlace} (h : DataW.trod enc Try.prog w 0 (fun _ => true) held fuel 29 cs = some x) :
    ∃ (t : RpD) (z : Value), cs = [.int .i64 t.code, .int .i64 t.h.sh, .int .i64 t.h.ino, .bool t.h.dir, .int .i64 t.val, z] ∧ RdV w (Old w) z (ensDt t.list) := by
  obtain ⟨hl, n, ⟨y0, h0⟩, ⟨y1, h1⟩, ⟨y2, h2⟩, ⟨y3, h3⟩⟩ := trod_fieldsW4 Try.underlying29 h
  have k0 : Try.prog.cellsOf 27 = 1 := by kernel_rfl
  have k1 : Try.prog.cellsOf 3 = 1 := by kernel_rfl
  have k2 : Try.prog.cellsOf 23 = 3 := by kernel_rfl
  have kk : Try.prog.cellsOf 29 = 6 := by kernel_rfl
  rw [kk] at hl
  match cs, hl with
  | c0 :: c1 :: c2 :: c3 :: c4 :: c5 :: [], _ =>
    simp only [k0, k1, k2, List.drop_zero, List.take_succ_cons, List.take_zero, List.drop_succ_cons] at h0 h1 h2 h3
    obtain ⟨k, e0, _, _⟩ := DataW.trod_int Try.underlying3 h0
    simp only [List.cons.injEq, and_true] at e0
    subst e0
    obtain ⟨g1, e1⟩ := open_handleT h1
    simp only [List.cons.injEq, and_true] at e1
    obtain ⟨rfl, rfl, rfl⟩ := e1
    obtain ⟨q, e2, _, _⟩ := DataW.trod_int Try.underlying3 h2
    simp only [List.cons.injEq, and_true] at e2
    subst e2
    obtain ⟨es, r1⟩ := open_ensT h3
    exact ⟨⟨k, g1, q, es⟩, c5, rfl, r1⟩
theorem open_replyA {b0 : Nat} {r : Reach} {v : Value} {x : DataW H} {p : List MemPlace} (hv : Value.okWide Try.prog w r b0 29 v) (h : DataW.Trod enc Try.prog w 0 (fun _ => true) held 29 v x p) :
    ∃ t : RpD, ∃ z, v = rpV t z ∧ RdV w (Old w) z (ensDt t.list) := by
  obtain ⟨cs, rfl, hsz⟩ := okWide_struct Try.underlying29 hv
  obtain ⟨fuel, hf⟩ := h
  obtain ⟨t, z, e, r1⟩ := open_replyT hf
  refine ⟨t, z, ?_, r1⟩
  obtain ⟨l⟩ := cs
  have e' : l = _ := e
  subst e'
  rfl
end
end Go.Proofs.Ytmjfnmlfamikgaa
