/- What the program takes of a message, kind by kind; no condition. -/
import Derived.Test.YtaaongjnpnanmaaWMsg2
import Derived.Test.YtaaongjnpnanmaaVarL
namespace Go.Proofs.Ytaaongjnpnanmaa
open Go.RowKit
set_option linter.unusedVariables false
set_option linter.unusedSimpArgs false
set_option maxRecDepth 100000

theorem VarA.new1 (w : World) (o : Obj) (T : TypeId) (cs : Array Value) : VarA ((w.alloc o).alloc (.cells cs T)) (w.heap.size + 1) T cs := by simpa using VarA.new (w.alloc o) T cs
theorem assert_hit {P : Program} {t xT : TypeId} {d : TypeDesc} (hu : P.underlying t = some d) (hd : (match d with | .interface _ => false | _ => true) = true) (v : Value) (w : World) :
    (Instr.typeAssert (.iface t v) xT t true).run P w = .ok (.tuple #[v, .bool true]) w := by
  cases d <;> simp_all [Instr.typeAssert, run_underlying hu]
theorem assert_miss {P : Program} {t a xT : TypeId} {d : TypeDesc} {z : Value} (hu : P.underlying a = some d) (hd : (match d with | .interface _ => false | _ => true) = true) (hne : t ≠ a) (hz : (P.info? a).map (·.zero) = some (some z)) (v : Value) (w : World) :
    (Instr.typeAssert (.iface t v) xT a true).run P w = .ok (.tuple #[z, .bool false]) w := by
  obtain ⟨j, hj, hz'⟩ := Option.map_eq_some_iff.1 hz
  cases d <;> simp_all [Instr.typeAssert, run_underlying hu, zeroValue, typeInfo]
set_option maxHeartbeats 4000000 in
theorem headOf_any (m : MsD) (a1 a2 a3 a4 : Option Addr) (n1 n2 n3 n4 c1 c2 c3 c4 : Nat) (w : World) :
    Calls Try.prog 80 #[msV m (.slice a1 n1 c1) (.slice a2 n2 c2) (.slice a3 n3 c3) (.slice a4 n4 c4)] w fun e w' => e = .returned (msV ⟨m.kind, m.fr, m.to, 0, op0, rp0, tx0, pt0, 0, hd0⟩ (.slice none 0 0) (.slice none 0 0) (.slice none 0 0) (.slice none 0 0)) ∧ Below w.heap.size w w' := by
  obtain ⟨kd, fr, to, rq, ⟨ok, ⟨op_, oq, od⟩, nm, ⟨tp, tq, td⟩, asn, ov⟩, ⟨rc, ⟨rp_, rq_, rd⟩, rv, es⟩, ⟨xs, xb, xn⟩, ⟨pk, ⟨pp, pq, pd⟩, pas, ⟨sp, sq, sd⟩⟩, cd, ⟨hp, hq, hd⟩⟩ := m
  simp only [op0, rp0, tx0, pt0, hd0]
  go_enter Try.func80, Try.ntmps80
  repeat (first | (with_reducible refine guardStore (ty := 72) ?_; refine wpList_storeF (VarA.new1 _ _ _ _) rfl rfl (by kernel_rfl) rfl (of_decide_eq_true rfl) rfl ?_; intro w' vR t_) | go_values | go_skip | go_guarded | go_step | go_upon)
  refine bodyPost_ret (results_cell_row Try.results80 _ _ _ _ _ _ _ rfl vR Try.underlying72 rfl (by kernel_rfl)) rfl ⟨rfl, ?_⟩
  exact Turned.below (Below.newH2 _ _) (t_.one (S := fun b => w.heap.size ≤ b) (by omega)) (by simp; omega) (fun i hi => hi)
end Go.Proofs.Ytaaongjnpnanmaa
