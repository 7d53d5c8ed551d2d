/- Records that came in as arguments, read as data; no condition. -/
import Derived.Test.YtmjfnmlfamikgaaOpenW
import Derived.Test.YtmjfnmlfamikgaaRec0
namespace Go.Proofs.Ytmjfnmlfamikgaa
open Go.RowKit Go.Deep Go.ChangeShapes Go.WideShapes
set_option linter.unusedVariables false
set_option linter.unusedSimpArgs false
set_option maxRecDepth 100000

section
variable {H : Type} {enc : TypeId × Value → H} {w : World} {held : Bool}

theorem trod_fieldsW9 {t : TypeId} {f0 f1 f2 f3 f4 f5 f6 f7 f8 : Field} {fuel : Nat} {cs : List Value} {x : DataW H × List MemPlace} (ht : Try.prog.underlying t = some (.struct #[f0, f1, f2, f3, f4, f5, f6, f7, f8])) (h : DataW.trod enc Try.prog w 0 (fun _ => true) held fuel t cs = some x) :
    cs.length = Try.prog.cellsOf t ∧ ∃ n, (∃ y, DataW.trod enc Try.prog w 0 (fun _ => true) held n f0.type ((cs.drop f0.offset).take (Try.prog.cellsOf f0.type)) = some y) ∧ (∃ y, DataW.trod enc Try.prog w 0 (fun _ => true) held n f1.type ((cs.drop f1.offset).take (Try.prog.cellsOf f1.type)) = some y) ∧ (∃ y, DataW.trod enc Try.prog w 0 (fun _ => true) held n f2.type ((cs.drop f2.offset).take (Try.prog.cellsOf f2.type)) = some y) ∧ (∃ y, DataW.trod enc Try.prog w 0 (fun _ => true) held n f3.type ((cs.drop f3.offset).take (Try.prog.cellsOf f3.type)) = some y) ∧ (∃ y, DataW.trod enc Try.prog w 0 (fun _ => true) held n f4.type ((cs.drop f4.offset).take (Try.prog.cellsOf f4.type)) = some y) ∧ (∃ y, DataW.trod enc Try.prog w 0 (fun _ => true) held n f5.type ((cs.drop f5.offset).take (Try.prog.cellsOf f5.type)) = some y) ∧ (∃ y, DataW.trod enc Try.prog w 0 (fun _ => true) held n f6.type ((cs.drop f6.offset).take (Try.prog.cellsOf f6.type)) = some y) ∧ (∃ y, DataW.trod enc Try.prog w 0 (fun _ => true) held n f7.type ((cs.drop f7.offset).take (Try.prog.cellsOf f7.type)) = some y) ∧ (∃ y, DataW.trod enc Try.prog w 0 (fun _ => true) held n f8.type ((cs.drop f8.offset).take (Try.prog.cellsOf f8.type)) = some y) := by
  obtain ⟨xs, n, _, rfl, hl, hlen, hf⟩ := DataW.trod_struct ht h
  match xs, hlen with
  | [y0, y1, y2, y3, y4, y5, y6, y7, y8], _ => exact ⟨hl, n, ⟨y0, by simpa using hf 0 f0 rfl⟩, ⟨y1, by simpa using hf 1 f1 rfl⟩, ⟨y2, by simpa using hf 2 f2 rfl⟩, ⟨y3, by simpa using hf 3 f3 rfl⟩, ⟨y4, by simpa using hf 4 f4 rfl⟩, ⟨y5, by simpa using hf 5 f5 rfl⟩, ⟨y6, by simpa using hf 6 f6 rfl⟩, ⟨y7, by simpa using hf 7 f7 rfl⟩, ⟨y8, by simpa using hf 8 f8 rfl⟩⟩
theorem open_recT {fuel : Nat} {cs : List Value} {x : DataW H × List MemPlace} (h : DataW.trod enc Try.prog w 0 (fun _ => true) held fuel 35 cs = some x) :
    ∃ (t : MsD) (x y z u : Value), cs = [.int .i64 t.kind, .int .i64 t.fr, .int .i64 t.req, .int .i64 t.op.kind, .int .i64 t.op.dir.sh, .int .i64 t.op.dir.ino, .bool t.op.dir.dir, x, .int .i64 t.op.to.sh, .int .i64 t.op.to.ino, .bool t.op.to.dir, y, .int .i64 t.op.val, .int .i64 t.h.sh, .int .i64 t.h.ino, .bool t.h.dir, .int .i64 t.rp.code, .int .i64 t.rp.h.sh, .int .i64 t.rp.h.ino, .bool t.rp.h.dir, .int .i64 t.rp.val, z, .int .i64 t.tx.1, .int .i64 t.tx.2.1, .int .i64 t.tx.2.2, .int .i64 t.pt.kind, .int .i64 t.pt.h.sh, .int .i64 t.pt.h.ino, .bool t.pt.h.dir, u, .int .i64 t.pt.to.sh, .int .i64 t.pt.to.ino, .bool t.pt.to.dir, .int .i64 t.code] ∧ RdM w (Old w) t x y z u := by
  obtain ⟨hl, n, ⟨y0, h0⟩, ⟨y1, h1⟩, ⟨y2, h2⟩, ⟨y3, h3⟩, ⟨y4, h4⟩, ⟨y5, h5⟩, ⟨y6, h6⟩, ⟨y7, h7⟩, ⟨y8, h8⟩⟩ := trod_fieldsW9 Try.underlying35 h
  have k0 : Try.prog.cellsOf 3 = 1 := by kernel_rfl
  have k1 : Try.prog.cellsOf 23 = 3 := by kernel_rfl
  have k2 : Try.prog.cellsOf 26 = 10 := by kernel_rfl
  have k3 : Try.prog.cellsOf 33 = 8 := by kernel_rfl
  have k4 : Try.prog.cellsOf 29 = 6 := by kernel_rfl
  have k5 : Try.prog.cellsOf 31 = 3 := by kernel_rfl
  have kk : Try.prog.cellsOf 35 = 34 := by kernel_rfl
  rw [kk] at hl
  match cs, hl with
  | c0 :: c1 :: c2 :: c3 :: c4 :: c5 :: c6 :: c7 :: c8 :: c9 :: c10 :: c11 :: c12 :: c13 :: c14 :: c15 :: c16 :: c17 :: c18 :: c19 :: c20 :: c21 :: c22 :: c23 :: c24 :: c25 :: c26 :: c27 :: c28 :: c29 :: c30 :: c31 :: c32 :: c33 :: [], _ =>
    simp only [k0, k1, k2, k3, k4, k5, List.drop_zero, List.take_succ_cons, List.take_zero, List.drop_succ_cons] at h0 h1 h2 h3 h4 h5 h6 h7 h8
    obtain ⟨k, e0, _, _⟩ := DataW.trod_int Try.underlying3 h0
    simp only [List.cons.injEq, and_true] at e0
    subst e0
    obtain ⟨fr, e1, _, _⟩ := DataW.trod_int Try.underlying3 h1
    simp only [List.cons.injEq, and_true] at e1
    subst e1
    obtain ⟨rq, e2, _, _⟩ := DataW.trod_int Try.underlying3 h2
    simp only [List.cons.injEq, and_true] at e2
    subst e2
    obtain ⟨o, xx, yy, e3, s1, s2⟩ := open_opT h3
    simp only [List.cons.injEq, and_true] at e3
    obtain ⟨rfl, rfl, rfl, rfl, rfl, rfl, rfl, rfl, rfl, rfl⟩ := e3
    obtain ⟨hh, e4⟩ := open_handleT h4
    simp only [List.cons.injEq, and_true] at e4
    obtain ⟨rfl, rfl, rfl⟩ := e4
    obtain ⟨rr, zz, e5, s3⟩ := open_replyT h5
    simp only [List.cons.injEq, and_true] at e5
    obtain ⟨rfl, rfl, rfl, rfl, rfl, rfl⟩ := e5
    obtain ⟨tx, e6⟩ := open_txT h6
    simp only [List.cons.injEq, and_true] at e6
    obtain ⟨rfl, rfl, rfl⟩ := e6
    obtain ⟨pp, uu, e7, s4⟩ := open_partT h7
    simp only [List.cons.injEq, and_true] at e7
    obtain ⟨rfl, rfl, rfl, rfl, rfl, rfl, rfl, rfl⟩ := e7
    obtain ⟨cd, e8, _, _⟩ := DataW.trod_int Try.underlying3 h8
    simp only [List.cons.injEq, and_true] at e8
    subst e8
    exact ⟨⟨k, fr, 0, rq, o, rr, tx, pp, cd, hh⟩, _, _, _, _, rfl, s1, s2, s3, s4⟩
theorem open_recA {b0 : Nat} {r : Reach} {v : Value} {x : DataW H} {p : List MemPlace} (hv : Value.okWide Try.prog w r b0 35 v) (h : DataW.Trod enc Try.prog w 0 (fun _ => true) held 35 v x p) :
    ∃ t : MsD, ∃ x y z u, v = rcV t x y z u ∧ RdM w (Old w) t x y z u := by
  obtain ⟨cs, rfl, hsz⟩ := okWide_struct Try.underlying35 hv
  obtain ⟨fuel, hf⟩ := h
  obtain ⟨t, x, y, z, u, e, r1⟩ := open_recT hf
  refine ⟨t, x, y, z, u, ?_, r1⟩
  obtain ⟨l⟩ := cs
  have e' : l = _ := e
  subst e'
  rfl
end
end Go.Proofs.Ytmjfnmlfamikgaa
