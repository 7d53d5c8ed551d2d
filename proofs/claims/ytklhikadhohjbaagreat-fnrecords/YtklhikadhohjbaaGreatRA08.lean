/- Joined: DW13 DW14s. -/
import Derived.Test.YtklhikadhohjbaaGreatRDW12
import Derived.Test.YtklhikadhohjbaaGreatRDW10

namespace Go.Proofs.YtklhikadhohjbaaGreat
open Go.RowKit
set_option linter.unusedVariables false
set_option linter.unusedSimpArgs false
set_option maxRecDepth 100000
section
theorem rl_turn {w w' : World} {X : Nat} {v : Value} {d : Dt} {S : Nat → Prop} (r : RdV w (fun b => X < b ∧ b < w.heap.size) v d) (t : Turned S w w') (hS : ∀ b, S b → b ≤ X) : RdV w' (fun b => X < b ∧ b < w'.heap.size) v d :=
 RdV.mono (fun b hb => ⟨hb.1, Nat.lt_of_lt_of_le hb.2 t.size⟩) (RdV.keep (t.keeps (fun b hb e => by have := hS b e; omega)) r)
def RpSaid (w : World) (pb : Nat) (e : Ending) (w' : World) : Prop :=
 ∃ (r : RpD) (a : Option Addr) (n c : Nat), e = .returned (rpV r (.slice a n c)) ∧ RdV w' (fun b => w.heap.size < b ∧ b < w'.heap.size) (.slice a n c) (ensDt r.list) ∧ szEns r.list ≤ 200 ∧ CurAt w' pb ∧ w.grownBy w' (some pb)
def RS (w : World) (pb lo tb : Nat) (tx : Value) (l : List Nd) (X : Nat) (wc : World) : Prop :=
 ∃ co sh ino dr vl la ln lc es, PB 29 #[.int .i64 0, .int .i64 0, .int .i64 0, .bool false, .int .i64 0, .slice none 0 0] w wc pb lo tb tx l ∧ VarA wc X 29 #[.int .i64 co, .int .i64 sh, .int .i64 ino, .bool dr, .int .i64 vl, .slice la ln lc] ∧ RdV wc (fun b => X < b ∧ b < wc.heap.size) (.slice la ln lc) (ensDt es) ∧ szEns es ≤ 200
end
section
theorem rm_turn {w w' : World} {X : Nat} {m : MsD} {x y z u : Value} {S : Nat → Prop} (r : RdM w (fun b => X < b ∧ b < w.heap.size) m x y z u) (t : Turned S w w') (hS : ∀ b, S b → b ≤ X) : RdM w' (fun b => X < b ∧ b < w'.heap.size) m x y z u :=
 ⟨rl_turn r.1 t hS, rl_turn r.2.1 t hS, rl_turn r.2.2.1 t hS, rl_turn r.2.2.2 t hS⟩
theorem rm_grow {w w' : World} {X pb : Nat} {m : MsD} {x y z u : Value} (r : RdM w (fun b => X < b ∧ b < w.heap.size) m x y z u) (hg : w.grownBy w' (some pb)) (hX : pb ≤ X) : RdM w' (fun b => X < b ∧ b < w'.heap.size) m x y z u :=
 rm_turn r (Turned.ofGrown (S := fun b => b = pb) hg (fun k hk => by cases hk; rfl)) (fun b hb => by omega)
theorem rm_end {w w' : World} {X q n : Nat} {m : MsD} {x y z u : Value} (r : RdM w (fun b => X < b ∧ b < w.heap.size) m x y z u) (t : Turned (fun b => b = q) w w') (hq : q ≤ X) (hX : n ≤ X) : RdM w' (fun b => n < b ∧ b < w'.heap.size) m x y z u :=
 ⟨rd_end r.1 t hq hX, rd_end r.2.1 t hq hX, rd_end r.2.2.1 t hq hX, rd_end r.2.2.2 t hq hX⟩
theorem rdB_form {w : World} {S : Nat → Prop} {v : Value} {zs : List Int} (r : RdV w S v (.bytes zs)) : ∃ a n c, v = .slice a n c := by obtain ⟨a, c, rfl⟩ := RdV.sliceB r; exact ⟨_, _, _, rfl⟩
structure SzB (m : MsD) : Prop where
 n : m.op.nm.length ≤ 7
 a : m.op.asn.length ≤ 7
 l : szEns m.rp.list ≤ 200
 u : m.pt.asn.length ≤ 3
theorem SzB.sz {m : MsD} (h : SzB m) : szMs m ≤ 217 := by have := h.n; have := h.a; have := h.l; have := h.u; unfold szMs; omega
end
end Go.Proofs.YtklhikadhohjbaaGreat
