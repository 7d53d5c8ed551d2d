/- Joined: WBy0 VarL WBy1 Szs. -/
import Derived.Test.YtaaongjnpnanmaaJ03
import Derived.Test.YtaaongjnpnanmaaJ02
import Derived.Deep.MidRow
import Derived.Laws.CopyRow
import Derived.BigQuiet
import Derived.Deep.RegionHeld3

section
/- The bytes of handles, operations, replies, parts and messages, as data; no condition. -/
namespace Go.Proofs.Ytaaongjnpnanmaa
open Go.RowKit
set_option linter.unusedVariables false
set_option linter.unusedSimpArgs false
set_option maxRecDepth 100000

def flagB (b : Bool) : List Int := if b then [1] else [0]
def hdB (h : Hd) : List Int := putB h.sh ++ (putB h.ino ++ flagB h.dir)
def opB (o : OpD) : List Int := putB o.kind ++ (hdB o.dir ++ (textB o.nm ++ (hdB o.to ++ (textB o.asn ++ putB o.val))))
def enB (e : En) : List Int := textB e.nm ++ hdB e.h
def ensB (l : List En) : List Int := l.flatMap enB
def rpB (r : RpD) : List Int := putB r.code ++ (hdB r.h ++ (putB r.val ++ (putB r.list.length ++ ensB r.list)))
def txB (t : TxD) : List Int := putB t.1 ++ (putB t.2.1 ++ putB t.2.2)
def ptB (p : PtD) : List Int := putB p.kind ++ (hdB p.h ++ (textB p.asn ++ hdB p.to))
def msRest (m : MsD) : List Int :=
  if m.kind = 0 then putB m.req ++ opB m.op
  else if m.kind = 1 then putB m.req ++ rpB m.rp
  else if m.kind = 2 then txB m.tx ++ ptB m.pt
  else if m.kind = 3 then txB m.tx ++ (ptB m.pt ++ (putB m.code ++ hdB m.h))
  else if m.kind = 5 then txB m.tx ++ putB m.code
  else if m.kind = 6 then txB m.tx ++ (putB m.req ++ hdB m.h)
  else if m.kind = 7 then txB m.tx ++ (putB m.req ++ (putB m.code ++ hdB m.h))
  else txB m.tx
def msB (m : MsD) : List Int := putB m.kind ++ (putB m.fr ++ (putB m.to ++ msRest m))
theorem flagB_bytes (b : Bool) : isBytes (flagB b) := by cases b <;> exact isBytes_cons (by decide) (by decide) isBytes_nil
theorem flagB_len (b : Bool) : (flagB b).length = 1 := by cases b <;> rfl
theorem flagB_put (b : Bool) : putB (if b then 1 else 0) = flagB b := by cases b <;> rfl
theorem hdB_bytes (h : Hd) : isBytes (hdB h) := isBytes_append (putB_bytes _) (isBytes_append (putB_bytes _) (flagB_bytes _))
theorem hdB_len (h : Hd) : (hdB h).length ≤ 11 := by
  have h1 := putB_len h.sh; have h2 := putB_len h.ino; have h3 := flagB_len h.dir
  unfold hdB; rw [List.length_append, List.length_append]; omega
theorem enB_bytes (e : En) (h : isBytes e.nm) : isBytes (enB e) := isBytes_append (textB_bytes h) (hdB_bytes _)
theorem enB_len (e : En) : (enB e).length ≤ 56 := by
  have h1 := textB_len e.nm; have h2 := hdB_len e.h
  unfold enB; rw [List.length_append]; omega
theorem ensB_len (l : List En) : (ensB l).length ≤ 56 * l.length := by
  induction l with
  | nil => simp [ensB]
  | cons e l ih => have := enB_len e; unfold ensB at *; rw [List.flatMap_cons, List.length_append, List.length_cons]; omega
theorem txB_bytes (t : TxD) : isBytes (txB t) := isBytes_append (putB_bytes _) (isBytes_append (putB_bytes _) (putB_bytes _))
theorem txB_len (t : TxD) : (txB t).length ≤ 15 := by
  have h1 := putB_len t.1; have h2 := putB_len t.2.1; have h3 := putB_len t.2.2
  unfold txB; rw [List.length_append, List.length_append]; omega
theorem opB_bytes (o : OpD) (h : isBytes o.nm) (g : isBytes o.asn) : isBytes (opB o) := isBytes_append (putB_bytes _) (isBytes_append (hdB_bytes _) (isBytes_append (textB_bytes h) (isBytes_append (hdB_bytes _) (isBytes_append (textB_bytes g) (putB_bytes _)))))
theorem opB_len (o : OpD) : (opB o).length ≤ 122 := by
  have h1 := putB_len o.kind; have h2 := hdB_len o.dir; have h3 := textB_len o.nm; have h4 := hdB_len o.to; have h5 := textB_len o.asn; have h6 := putB_len o.val
  unfold opB; simp only [List.length_append]; omega
theorem ptB_bytes (p : PtD) (h : isBytes p.asn) : isBytes (ptB p) := isBytes_append (putB_bytes _) (isBytes_append (hdB_bytes _) (isBytes_append (textB_bytes h) (hdB_bytes _)))
theorem ptB_len (p : PtD) : (ptB p).length ≤ 72 := by
  have h1 := putB_len p.kind; have h2 := hdB_len p.h; have h3 := textB_len p.asn; have h4 := hdB_len p.to
  unfold ptB; simp only [List.length_append]; omega
theorem Below.al2 {a b : World} (h : Below a.heap.size a b) (o : Obj) : Below a.heap.size a (b.alloc o) := h.alloc h.size _
/-- A call that hands back bytes of its own. -/
abbrev Ap (f : FuncId) (args : Array Value) (w : World) (zs : List Int) : Prop :=
  Calls Try.prog f args w fun e w' => ∃ v, e = .returned v ∧ isBytes zs ∧ Owns w' w.heap.size v zs ∧ Below w.heap.size w w'
theorem Owns.rdT {w : World} {B : Nat} {v : Value} {zs : List Int} (o : Owns w B v zs) (h : isBytes zs) : RdV w (fun _ => True) v (.bytes zs) := rdS_of_owns h (o.base (Nat.zero_le _)) (fun _ _ => trivial)
theorem specPutR (v : Value) (xs : List Int) (n : Int) (S : Nat → Prop) (w : World) (r : RdV w S v (.bytes xs)) (hl : xs.length ≤ 2000000) : Ap 104 #[v, .int .i64 n] w (xs ++ putB n) := by
  obtain ⟨a, cap, rfl, hh, hr⟩ := r.b.reads
  exact (specPut_any a xs _ cap n w hr rfl (by omega) hh.2.2).mono fun e w' ⟨u, he, ho, hb⟩ => ⟨u, he, isBytes_append hr.1 (putB_bytes n), ho, hb⟩
theorem implPutR (v : Value) (xs : List Int) (n : Int) (S : Nat → Prop) (w : World) (r : RdV w S v (.bytes xs)) (hl : xs.length ≤ 2000000) : Ap 110 #[v, .int .i64 n] w (xs ++ putB n) := by
  obtain ⟨a, cap, rfl, hh, hr⟩ := r.b.reads
  exact (implPut_any a xs _ cap n w hr rfl (by omega)).mono fun e w' ⟨u, he, ho, hb⟩ => ⟨u, he, isBytes_append hr.1 (putB_bytes n), ho, hb⟩
theorem specTextR (v u : Value) (xs ts : List Int) (S S2 : Nat → Prop) (w : World) (r : RdV w S v (.bytes xs)) (r2 : RdV w S2 u (.bytes ts)) (hl : xs.length ≤ 2000000) (hm : ts.length ≤ 2000000) : Ap 121 #[v, u] w (xs ++ textB ts) := by
  obtain ⟨a, cap, rfl, hh, hr⟩ := r.b.reads
  obtain ⟨b, cbp, rfl, gh, gr⟩ := r2.b.reads
  exact (specPutText_any a b xs ts _ cap _ cbp w hr gr rfl rfl hl hm hh.2.2 gh.2.2).mono fun e w' ⟨u, he, ho, hb⟩ => ⟨u, he, isBytes_append hr.1 (textB_bytes gr.1), ho, hb⟩
theorem implTextR (v u : Value) (xs ts : List Int) (S S2 : Nat → Prop) (w : World) (r : RdV w S v (.bytes xs)) (r2 : RdV w S2 u (.bytes ts)) (hl : xs.length ≤ 2000000) (hm : ts.length ≤ 2000000) : Ap 111 #[v, u] w (xs ++ textB ts) := by
  obtain ⟨a, cap, rfl, hh, hr⟩ := r.b.reads
  obtain ⟨b, cbp, rfl, gh, gr⟩ := r2.b.reads
  exact (implPutText_any a b xs ts _ cap _ cbp w hr gr rfl rfl hl hm).mono fun e w' ⟨u, he, ho, hb⟩ => ⟨u, he, isBytes_append hr.1 (textB_bytes gr.1), ho, hb⟩
end Go.Proofs.Ytaaongjnpnanmaa
end

section
/- Loads and stores of whole structs in variables, one step each; no condition. -/
namespace Go.Proofs.Ytaaongjnpnanmaa
open Go.RowKit
set_option linter.unusedVariables false
set_option linter.unusedSimpArgs false
set_option maxRecDepth 100000

theorem storeF_run {P : Program} {w : World} {g off : Nat} {T ty : TypeId} {old vs : Array Value} (hv : VarA w g T old) (hl : off + vs.size ≤ old.size) (hi : (P.info? ty).map (·.size) = some vs.size) (h1 : vs.toList.all (·.oneCell') = true) :
    (storeVar ty ⟨g, off, none⟩ (.agg vs)).run P w = .ok () (w.setRow g (old.toList.take off ++ vs.toList ++ old.toList.drop (off + vs.size)).toArray) := by
  have h := run_storeCells_at (P := P) g off T vs.toList 0 old w hv (by simpa using hl) (fun v hv => (List.all_eq_true.1 h1) v hv)
  cases hq : P.info? ty with
  | none => simp [hq] at hi
  | some i =>
    have hs : vs.size = i.size := by simp [hq] at hi; omega
    simp only [Nat.add_zero, Array.length_toList] at h
    simp [storeVar, sizeOf, typeInfo, hq, Value.cells, hs, h]
theorem VarA.row {w : World} {g : Nat} {T : TypeId} {old new : Array Value} (hv : VarA w g T old) : VarA (w.setRow g new) g T new := setRow_heap w g old new T _ hv
theorem turned_row (w : World) (g : Nat) (new : Array Value) : Turned (fun b => b = g) w (w.setRow g new) := ⟨rfl, rfl, rfl, by simp [World.setRow], fun k _ hk => setRow_other w g k new (fun e => hk e)⟩
/-- A struct stored into a variable, from the cell off on. -/
theorem wpList_storeF {ty t' : TypeId} {dst : Option Tmp} {x y : Operand} {pos : String} {af : Array Edge} {ops : Array Oper} {rest : List Oper} {a : Act} {Q : Exit → Act → World → Prop} {w : World} {g off : Nat} {T : TypeId} {old vs new : Array Value}
    (hv : VarA w g T old) (hx : a.eval x = .pointer (some ⟨g, off, none⟩)) (hy : a.eval y = .agg vs) (hi : (Try.prog.info? ty).map (·.size) = some vs.size) (h1 : vs.toList.all (·.oneCell') = true) (hl : off + vs.size ≤ old.size)
    (hnew : (old.toList.take off ++ vs.toList ++ old.toList.drop (off + vs.size)).toArray = new)
    (hK : ∀ w', VarA w' g T new → Turned (fun b => b = g) w w' → wpList Try.prog ops Q rest (a.put dst undef) w') :
    wpList Try.prog ops Q (⟨dst, .store ty x y, t', pos, af, none⟩ :: rest) a w := by
  refine wpList_plain rfl fun K' hK' => ?_
  unfold Oper.wp execOp
  simp only [hx, hy, Instr.storeAt, Instr.sureAddr, Sem.run_bind, Sem.run_pure, Result.andThen_ok, storeF_run hv hl hi h1]
  rw [hnew]
  exact hK' _ _ (hK _ (VarA.row hv) (turned_row w g new))
theorem guardStore {ty t' : TypeId} {dst : Option Tmp} {x y : Operand} {pos : String} {af : Array Edge} {ops : Array Oper} {rest : List Oper} {a : Act} {Q : Exit → Act → World → Prop} {w : World}
    (h : wpList Try.prog ops Q (⟨dst, .store ty x y, t', pos, af, none⟩ :: rest) a w) : wpList Try.prog ops Q (⟨dst, .store ty x y, t', pos, af, none⟩ :: rest) a w := h
theorem guardLoad {ty t' : TypeId} {dst : Option Tmp} {x : Operand} {pos : String} {af : Array Edge} {ops : Array Oper} {rest : List Oper} {a : Act} {Q : Exit → Act → World → Prop} {w : World}
    (h : wpList Try.prog ops Q (⟨dst, .load ty x, t', pos, af, none⟩ :: rest) a w) : wpList Try.prog ops Q (⟨dst, .load ty x, t', pos, af, none⟩ :: rest) a w := h
theorem rangeA {w : World} {g : Nat} {T : TypeId} {cs : Array Value} {off : Nat} {vs : List Value} (hv : VarA w g T cs) (hvs : (cs.toList.drop off).take vs.length = vs) : w.rangeAt g off vs := by
  intro j v hj
  rw [cell_of_row _ _ _ _ _ _ hv]
  rw [← hvs] at hj
  have hj' : j < vs.length := by
    rw [List.getElem?_take] at hj
    split at hj
    · assumption
    · cases hj
  rw [List.getElem?_take, if_pos hj', List.getElem?_drop] at hj
  simpa using hj
/-- A struct loaded out of a variable, from the cell off on. -/
theorem wpList_loadF {ty t' : TypeId} {dst : Option Tmp} {x : Operand} {pos : String} {af : Array Edge} {ops : Array Oper} {rest : List Oper} {a : Act} {Q : Exit → Act → World → Prop} {w : World} {g off : Nat} {T : TypeId} {cs : Array Value} {vs : List Value} {d : TypeDesc}
    (hv : VarA w g T cs) (hx : a.eval x = .pointer (some ⟨g, off, none⟩)) (hu : Try.prog.underlying ty = some d) (hd : d.isRow = true) (hi : (Try.prog.info? ty).map (·.size) = some vs.length)
    (hvs : (cs.toList.drop off).take vs.length = vs)
    (hK : wpList Try.prog ops Q rest (a.put dst (.agg vs.toArray)) w) :
    wpList Try.prog ops Q (⟨dst, .load ty x, t', pos, af, none⟩ :: rest) a w := by
  refine wpList_plain rfl fun K' hK' => ?_
  unfold Oper.wp execOp
  simp only [hx, Sem.run_bind, run_loadAt_mid w g off ty vs d (rangeA hv hvs) hu hd hi, Sem.run_pure, Result.andThen_ok]
  exact hK' _ _ hK
/-- The variable of a result, read at the end. -/
theorem loadA_run {w : World} {g : Nat} {T ty : TypeId} {cs : Array Value} {d : TypeDesc} (hv : VarA w g T cs) (hu : Try.prog.underlying ty = some d) (hd : d.isRow = true) (hi : (Try.prog.info? ty).map (·.size) = some cs.size) : (loadVar ty ⟨g, 0, none⟩).run Try.prog w = .ok (.agg cs) w := by
  have h := run_loadVar_mid (P := Try.prog) w g 0 ty cs.toList d (rangeA hv (by rw [List.drop_zero, List.take_length])) hu hd (by simpa using hi)
  simpa using h
theorem loadAt_run {w : World} {g : Nat} {T ty : TypeId} {cs : Array Value} {d : TypeDesc} (hv : VarA w g T cs) (hu : Try.prog.underlying ty = some d) (hd : d.isRow = true) (hi : (Try.prog.info? ty).map (·.size) = some cs.size) : (Instr.loadAt ty (.pointer (some ⟨g, 0, none⟩))).run Try.prog w = .ok (.agg cs) w := by
  simp only [Instr.loadAt, Instr.sureAddr, Sem.run_bind, Sem.run_pure, Result.andThen_ok, loadA_run hv hu hd hi]
/-- A whole variable loaded. -/
theorem wpList_loadA {ty t' : TypeId} {dst : Option Tmp} {x : Operand} {pos : String} {af : Array Edge} {ops : Array Oper} {rest : List Oper} {a : Act} {Q : Exit → Act → World → Prop} {w : World} {g : Nat} {T : TypeId} {cs : Array Value} {d : TypeDesc}
    (hv : VarA w g T cs) (hx : a.eval x = .pointer (some ⟨g, 0, none⟩)) (hu : Try.prog.underlying ty = some d) (hd : d.isRow = true) (hi : (Try.prog.info? ty).map (·.size) = some cs.size)
    (hK : wpList Try.prog ops Q rest (a.put dst (.agg cs)) w) :
    wpList Try.prog ops Q (⟨dst, .load ty x, t', pos, af, none⟩ :: rest) a w := by
  refine wpList_plain rfl fun K' hK' => ?_
  unfold Oper.wp execOp
  simp only [hx, Instr.loadAt, Instr.sureAddr, Sem.run_bind, Sem.run_pure, Result.andThen_ok, loadA_run hv hu hd hi]
  exact hK' _ _ hK
theorem loadOp_run {ty t' : TypeId} {dst : Option Tmp} {x : Operand} {pos : String} {af : Array Edge} {gd : Option (Nat × Bool)} {a : Act} {w : World} {g : Nat} {T : TypeId} {cs : Array Value} {d : TypeDesc}
    (hv : VarA w g T cs) (hx : a.eval x = .pointer (some ⟨g, 0, none⟩)) (hu : Try.prog.underlying ty = some d) (hd : d.isRow = true) (hi : (Try.prog.info? ty).map (·.size) = some cs.size) :
    (execOp a.eval ⟨dst, .load ty x, t', pos, af, gd⟩).run Try.prog w = .ok (.value (.agg cs)) w := by
  unfold execOp
  simp only [hx, Sem.run_bind, loadAt_run hv hu hd hi, Sem.run_pure, Result.andThen_ok]
/-- A whole variable loaded, in a region that only reads. -/
theorem wpQuiet_loadA {ty t' : TypeId} {dst : Option Tmp} {x : Operand} {pos : String} {af : Array Edge} {gd : Option (Nat × Bool)} {ops : Array Oper} {rest : List Oper} {a : Act} {Q : Act → Prop} {C : World → Prop} {g : Nat} {T : TypeId} {cs : Array Value} {d : TypeDesc}
    (hv : ∀ w, C w → VarA w g T cs) (hw : Region.wanted ⟨dst, .load ty x, t', pos, af, gd⟩ (yielded ops a.tmps) = true) (hx : a.eval x = .pointer (some ⟨g, 0, none⟩)) (hu : Try.prog.underlying ty = some d) (hd : d.isRow = true) (hi : (Try.prog.info? ty).map (·.size) = some cs.size)
    (h : wpQuiet Try.prog ops C Q rest (a.put dst (.agg cs))) :
    wpQuiet Try.prog ops C Q (⟨dst, .load ty x, t', pos, af, gd⟩ :: rest) a :=
  BigFrame.wpQuiet_want hw fun K hK => ⟨.agg cs, fun w hC => by
    unfold Oper.quietAt execOp
    simp only [hx, Sem.run_bind, loadAt_run (hv w hC) hu hd hi, Sem.run_pure, Result.andThen_ok]
    exact ⟨rfl, rfl⟩, hK _ h⟩
/-- A region that draws its order, while two variables stay as they are. -/
theorem wp_region_two {P : Program} {id : Nat} {ops : Array Oper} {Q : Exit → Act → World → Prop} {a : Act} {w : World} {bx ba : Nat} {Tx Ta : TypeId} {cx ca : Array Value} (hm : P.follows .mixedOrders = true) (vX : VarA w bx Tx cx) (vA : VarA w ba Ta ca)
    (h : (VarA w.drew bx Tx cx ∧ VarA w.drew ba Ta ca) → wpAnyH P .any ops Q (fun W => VarA W bx Tx cx ∧ VarA W ba Ta ca) ops.size (Array.replicate ops.size false) a w.drew) : (Code.region id ops true).wp P Q a w :=
  wp_region_held_drew (S := fun W => VarA W bx Tx cx ∧ VarA W ba Ta ca) hm ⟨vX, vA⟩ h
theorem VarA.dr {w : World} {b : Nat} {T : TypeId} {cs : Array Value} (h : VarA w b T cs) : VarA w.drew b T cs := h
theorem Turned.one {S : Nat → Prop} {g : Nat} {w w' : World} (t : Turned (fun b => b = g) w w') (h : S g) : Turned S w w' := t.wide (fun k e => by subst e; exact h)
end Go.Proofs.Ytaaongjnpnanmaa
end

section
/- The specification writes handles, operations, transactions' numbers and parts. Condition: no more than 2^20 bytes ahead of them. -/
namespace Go.Proofs.Ytaaongjnpnanmaa
open Go.RowKit
set_option linter.unusedVariables false
set_option linter.unusedSimpArgs false
set_option maxRecDepth 100000

set_option maxHeartbeats 8000000 in
theorem specHandF (v : Value) (xs : List Int) (p q : Int) (S S2 : Nat → Prop) (w : World) (r : RdV w S v (.bytes xs)) (hl : xs.length ≤ 1900000) : Ap 109 #[v, Hd.v (p, q, false)] w (xs ++ hdB (p, q, false)) := by
  have h1 := putB_len p
  have h2 := putB_len q
  have HR : Hid (∀ W, Below w.heap.size w W → _) := r.old
  clear r
  go_enter Try.func109, Try.ntmps109
  go_wp2
  go_region_held3 (fun w' => w'.cell? ⟨w.heap.size, 0, none⟩ = some (.int .i64 p) ∧ w'.cell? ⟨w.heap.size, 1, none⟩ = some (.int .i64 q) ∧ w'.cell? ⟨w.heap.size, 2, none⟩ = some (.bool false)) (first | go_keep | (refine ⟨?_, ?_, ?_⟩ <;> assumption)) (first
    | (go_at_call 104; (with_reducible refine Calls.mono (specPutR v xs p _ _ (HR.out _ (by repeat (first | exact Below.refl _ _ | refine Below.al2 ?_ _ | refine Below.drew ?_ | refine below_drewN2 ?_ _))) (by omega)) ?_); rintro e w2 ⟨v1, rfl, z1, o1, b_⟩; have HB1 : Hid (Below w.heap.size w w2) := Below.trans (by repeat (first | exact Below.refl _ _ | refine Below.al2 ?_ _ | refine Below.drew ?_ | refine below_drewN2 ?_ _)) (b_.mono (by simp [World.drew] <;> omega)); have vA1 : VarA w2 w.heap.size 46 #[.int .i64 p, .int .i64 q, .bool false] := VarA.step (VarA.dr (VarA.new w _ _)) b_; clear b_; obtain ⟨c1_0, c1_1, c1_2⟩ := vA1.l3)
    | (go_at_call 104; (with_reducible refine Calls.mono (specPutR v1 (xs ++ putB p) q _ _ ((Owns.step o1 (by repeat (first | exact Below.refl _ _ | refine Below.al2 ?_ _ | refine Below.drew ?_ | refine below_drewN2 ?_ _))).rdT z1) (by simp only [List.length_append]; omega)) ?_); rintro e w3 ⟨v2, rfl, z2, o2, b_⟩; have HB2 : Hid (Below w.heap.size w w3) := HB1.out.trans (Below.mono (Below.trans (by repeat (first | exact Below.refl _ _ | refine Below.al2 ?_ _ | refine Below.drew ?_ | refine below_drewN2 ?_ _)) b_) HB1.out.size); have vA2 : VarA w3 w.heap.size 46 #[.int .i64 p, .int .i64 q, .bool false] := VarA.step vA1 (Below.trans (by repeat (first | exact Below.refl _ _ | refine Below.al2 ?_ _ | refine Below.drew ?_ | refine below_drewN2 ?_ _)) b_); clear b_; obtain ⟨c2_0, c2_1, c2_2⟩ := vA2.l3))
  all_goals
    have hsz := HB1.out.size
    have hs3 := HB2.out.size
    have HO : Hid (Owns w3 w.heap.size v2 (xs ++ putB p ++ putB q)) := o2.base (b' := w.heap.size) (by omega)
    have HZ : Hid _ := z2
    obtain ⟨a0_, a1_, a2_⟩ := vA2.l3
    clear o1 o2 z1 z2 vA1 vA2
    go_wp2_with (at_builtin; go_must (refine wpList_app _ rfl (.tmp 17) (.tmp 18) rfl w.heap.size v2 (xs ++ putB p ++ putB q) [0] rfl (HO.out.alloc _) _ 1 1 rfl rfl (one_new _ 0 (by omega) (by omega)) (by simp only [List.length_append]; omega) (by simp) (by simp; omega) (fun h => by cases h) ?_; intro v3 w4 ho hg))
    go_ret
    exact ⟨v3, rfl, by simpa [hdB, flagB, List.append_assoc] using isBytes_append HZ.out (flagB_bytes false), by simpa [hdB, flagB, List.append_assoc] using ho, (HB2.out.alloc hs3 _).grown hg (by simp; omega) (fun k hk => (HO.out.lt k hk).1)⟩
set_option maxHeartbeats 8000000 in
theorem specHandD (v : Value) (xs : List Int) (p q : Int) (S S2 : Nat → Prop) (w : World) (r : RdV w S v (.bytes xs)) (hl : xs.length ≤ 1900000) : Ap 109 #[v, Hd.v (p, q, true)] w (xs ++ hdB (p, q, true)) := by
  have h1 := putB_len p
  have h2 := putB_len q
  have HR : Hid (∀ W, Below w.heap.size w W → _) := r.old
  clear r
  go_enter Try.func109, Try.ntmps109
  go_wp2
  go_region_held3 (fun w' => w'.cell? ⟨w.heap.size, 0, none⟩ = some (.int .i64 p) ∧ w'.cell? ⟨w.heap.size, 1, none⟩ = some (.int .i64 q) ∧ w'.cell? ⟨w.heap.size, 2, none⟩ = some (.bool true)) (first | go_keep | (refine ⟨?_, ?_, ?_⟩ <;> assumption)) (first
    | (go_at_call 104; (with_reducible refine Calls.mono (specPutR v xs p _ _ (HR.out _ (by repeat (first | exact Below.refl _ _ | refine Below.al2 ?_ _ | refine Below.drew ?_ | refine below_drewN2 ?_ _))) (by omega)) ?_); rintro e w2 ⟨v1, rfl, z1, o1, b_⟩; have HB1 : Hid (Below w.heap.size w w2) := Below.trans (by repeat (first | exact Below.refl _ _ | refine Below.al2 ?_ _ | refine Below.drew ?_ | refine below_drewN2 ?_ _)) (b_.mono (by simp [World.drew] <;> omega)); have vA1 : VarA w2 w.heap.size 46 #[.int .i64 p, .int .i64 q, .bool true] := VarA.step (VarA.dr (VarA.new w _ _)) b_; clear b_; obtain ⟨c1_0, c1_1, c1_2⟩ := vA1.l3)
    | (go_at_call 104; (with_reducible refine Calls.mono (specPutR v1 (xs ++ putB p) q _ _ ((Owns.step o1 (by repeat (first | exact Below.refl _ _ | refine Below.al2 ?_ _ | refine Below.drew ?_ | refine below_drewN2 ?_ _))).rdT z1) (by simp only [List.length_append]; omega)) ?_); rintro e w3 ⟨v2, rfl, z2, o2, b_⟩; have HB2 : Hid (Below w.heap.size w w3) := HB1.out.trans (Below.mono (Below.trans (by repeat (first | exact Below.refl _ _ | refine Below.al2 ?_ _ | refine Below.drew ?_ | refine below_drewN2 ?_ _)) b_) HB1.out.size); have vA2 : VarA w3 w.heap.size 46 #[.int .i64 p, .int .i64 q, .bool true] := VarA.step vA1 (Below.trans (by repeat (first | exact Below.refl _ _ | refine Below.al2 ?_ _ | refine Below.drew ?_ | refine below_drewN2 ?_ _)) b_); clear b_; obtain ⟨c2_0, c2_1, c2_2⟩ := vA2.l3))
  all_goals
    have hsz := HB1.out.size
    have hs3 := HB2.out.size
    have HO : Hid (Owns w3 w.heap.size v2 (xs ++ putB p ++ putB q)) := o2.base (b' := w.heap.size) (by omega)
    have HZ : Hid _ := z2
    obtain ⟨a0_, a1_, a2_⟩ := vA2.l3
    clear o1 o2 z1 z2 vA1 vA2
    go_wp2_with (at_builtin; go_must (refine wpList_app _ rfl (.tmp 14) (.tmp 15) rfl w.heap.size v2 (xs ++ putB p ++ putB q) [1] rfl (HO.out.alloc _) _ 1 1 rfl rfl (one_new _ 1 (by omega) (by omega)) (by simp only [List.length_append]; omega) (by simp) (by simp; omega) (fun h => by cases h) ?_; intro v3 w4 ho hg))
    go_ret
    exact ⟨v3, rfl, by simpa [hdB, flagB, List.append_assoc] using isBytes_append HZ.out (flagB_bytes true), by simpa [hdB, flagB, List.append_assoc] using ho, (HB2.out.alloc hs3 _).grown hg (by simp; omega) (fun k hk => (HO.out.lt k hk).1)⟩
theorem specHandR (v : Value) (xs : List Int) (h : Hd) (S : Nat → Prop) (w : World) (r : RdV w S v (.bytes xs)) (hl : xs.length ≤ 1900000) : Ap 109 #[v, h.v] w (xs ++ hdB h) := by
  obtain ⟨p, q, d⟩ := h
  cases d
  · exact specHandF v xs p q S S w r hl
  · exact specHandD v xs p q S S w r hl
theorem specHandX (v : Value) (xs : List Int) (p q : Int) (d : Bool) (S : Nat → Prop) (w : World) (r : RdV w S v (.bytes xs)) (hl : xs.length ≤ 1900000) : Ap 109 #[v, .agg #[.int .i64 p, .int .i64 q, .bool d]] w (xs ++ hdB (p, q, d)) := specHandR v xs (p, q, d) S w r hl
set_option maxHeartbeats 8000000 in
theorem specTxR (v : Value) (xs : List Int) (t : TxD) (S S2 : Nat → Prop) (w : World) (r : RdV w S v (.bytes xs)) (hl : xs.length ≤ 1800000) : Ap 107 #[v, txV t] w (xs ++ txB t) := by
  obtain ⟨p, q, s⟩ := t
  have h1 := putB_len p
  have h2 := putB_len q
  have h3 := putB_len s
  have HR : Hid (∀ W, Below w.heap.size w W → _) := r.old
  clear r
  go_enter Try.func107, Try.ntmps107
  go_wp2
  go_region_held3 (fun w' => w'.cell? ⟨w.heap.size, 0, none⟩ = some (.int .i64 p) ∧ w'.cell? ⟨w.heap.size, 1, none⟩ = some (.int .i64 q) ∧ w'.cell? ⟨w.heap.size, 2, none⟩ = some (.int .i64 s)) (first | go_keep | (refine ⟨?_, ?_, ?_⟩ <;> assumption)) (first
    | (go_at_call 104; (with_reducible refine Calls.mono (specPutR v xs p _ _ (HR.out _ (by repeat (first | exact Below.refl _ _ | refine Below.al2 ?_ _ | refine Below.drew ?_ | refine below_drewN2 ?_ _))) (by omega)) ?_); rintro e w2 ⟨v1, rfl, z1, o1, b_⟩; have HB1 : Hid (Below w.heap.size w w2) := Below.trans (by repeat (first | exact Below.refl _ _ | refine Below.al2 ?_ _ | refine Below.drew ?_ | refine below_drewN2 ?_ _)) (b_.mono (by simp [World.drew] <;> omega)); have vA1 : VarA w2 w.heap.size 36 #[.int .i64 p, .int .i64 q, .int .i64 s] := VarA.step (VarA.dr (VarA.new w _ _)) b_; clear b_; obtain ⟨c1_0, c1_1, c1_2⟩ := vA1.l3)
    | (go_at_call 104; (with_reducible refine Calls.mono (specPutR v1 (xs ++ putB p) q _ _ ((Owns.step o1 (by repeat (first | exact Below.refl _ _ | refine Below.al2 ?_ _ | refine Below.drew ?_ | refine below_drewN2 ?_ _))).rdT z1) (by simp only [List.length_append]; omega)) ?_); rintro e w3 ⟨v2, rfl, z2, o2, b_⟩; have HB2 : Hid (Below w.heap.size w w3) := HB1.out.trans (Below.mono (Below.trans (by repeat (first | exact Below.refl _ _ | refine Below.al2 ?_ _ | refine Below.drew ?_ | refine below_drewN2 ?_ _)) b_) HB1.out.size); have vA2 : VarA w3 w.heap.size 36 #[.int .i64 p, .int .i64 q, .int .i64 s] := VarA.step vA1 (Below.trans (by repeat (first | exact Below.refl _ _ | refine Below.al2 ?_ _ | refine Below.drew ?_ | refine below_drewN2 ?_ _)) b_); clear b_; obtain ⟨c2_0, c2_1, c2_2⟩ := vA2.l3)
    | (go_at_call 104; (with_reducible refine Calls.mono (specPutR v2 (xs ++ putB p ++ putB q) s _ _ ((Owns.step o2 (by repeat (first | exact Below.refl _ _ | refine Below.al2 ?_ _ | refine Below.drew ?_ | refine below_drewN2 ?_ _))).rdT z2) (by simp only [List.length_append]; omega)) ?_); rintro e w4 ⟨v3, rfl, z3, o3, b_⟩; have HB3 : Hid (Below w.heap.size w w4) := HB2.out.trans (Below.mono (Below.trans (by repeat (first | exact Below.refl _ _ | refine Below.al2 ?_ _ | refine Below.drew ?_ | refine below_drewN2 ?_ _)) b_) HB2.out.size); have vA3 : VarA w4 w.heap.size 36 #[.int .i64 p, .int .i64 q, .int .i64 s] := VarA.step vA2 (Below.trans (by repeat (first | exact Below.refl _ _ | refine Below.al2 ?_ _ | refine Below.drew ?_ | refine below_drewN2 ?_ _)) b_); clear b_; obtain ⟨c3_0, c3_1, c3_2⟩ := vA3.l3))
  all_goals
    go_wp2
    go_ret
    refine ⟨_, rfl, ?_, ?_, HB3.out⟩
    · simpa [txB, List.append_assoc] using z3
    · have o_ := o3.base (b' := w.heap.size) (by first | exact HB2.out.size | omega)
      simpa [txB, List.append_assoc] using o_
set_option maxHeartbeats 8000000 in
theorem specOpR (v : Value) (xs : List Int) (o : OpD) (x y : Value) (S S2 : Nat → Prop) (w : World) (r : RdV w S v (.bytes xs)) (hl : xs.length ≤ 1800000) (q1 : RdV w S2 x (.bytes o.nm)) (q2 : RdV w S2 y (.bytes o.asn)) (hn : o.nm.length ≤ 1048576) (hm : o.asn.length ≤ 1048576) : Ap 105 #[v, opV o x y] w (xs ++ opB o) := by
  obtain ⟨kd, ⟨p, q, d⟩, nm, ⟨p2, q2_, d2⟩, asn, vl⟩ := o
  dsimp only at q1 q2 hn hm ⊢
  have h1 := putB_len kd
  have h2 := hdB_len (p, q, d)
  have h3 := textB_len nm
  have h4 := hdB_len (p2, q2_, d2)
  have h5 := textB_len asn
  have h6 := putB_len vl
  have HX : Hid (∀ W, Below w.heap.size w W → _) := q1.old
  have HY : Hid (∀ W, Below w.heap.size w W → _) := q2.old
  clear q1 q2
  have HR : Hid (∀ W, Below w.heap.size w W → _) := r.old
  clear r
  go_enter Try.func105, Try.ntmps105
  go_wp2
  go_region_held3 (fun w' => w'.cell? ⟨w.heap.size, 0, none⟩ = some (.int .i64 kd) ∧ w'.cell? ⟨w.heap.size, 1, none⟩ = some (.int .i64 p) ∧ w'.cell? ⟨w.heap.size, 2, none⟩ = some (.int .i64 q) ∧ w'.cell? ⟨w.heap.size, 3, none⟩ = some (.bool d) ∧ w'.cell? ⟨w.heap.size, 4, none⟩ = some (x) ∧ w'.cell? ⟨w.heap.size, 5, none⟩ = some (.int .i64 p2) ∧ w'.cell? ⟨w.heap.size, 6, none⟩ = some (.int .i64 q2_) ∧ w'.cell? ⟨w.heap.size, 7, none⟩ = some (.bool d2) ∧ w'.cell? ⟨w.heap.size, 8, none⟩ = some (y) ∧ w'.cell? ⟨w.heap.size, 9, none⟩ = some (.int .i64 vl)) (first | go_keep | (refine ⟨?_, ?_, ?_, ?_, ?_, ?_, ?_, ?_, ?_, ?_⟩ <;> assumption)) (first
    | (go_at_call 104; (with_reducible refine Calls.mono (specPutR v xs kd _ _ (HR.out _ (by repeat (first | exact Below.refl _ _ | refine Below.al2 ?_ _ | refine Below.drew ?_ | refine below_drewN2 ?_ _))) (by omega)) ?_); rintro e w2 ⟨v1, rfl, z1, o1, b_⟩; have HB1 : Hid (Below w.heap.size w w2) := Below.trans (by repeat (first | exact Below.refl _ _ | refine Below.al2 ?_ _ | refine Below.drew ?_ | refine below_drewN2 ?_ _)) (b_.mono (by simp [World.drew] <;> omega)); have vA1 : VarA w2 w.heap.size 70 #[.int .i64 kd, .int .i64 p, .int .i64 q, .bool d, x, .int .i64 p2, .int .i64 q2_, .bool d2, y, .int .i64 vl] := VarA.step (VarA.dr (VarA.new w _ _)) b_; clear b_; obtain ⟨c1_0, c1_1, c1_2, c1_3, c1_4, c1_5, c1_6, c1_7, c1_8, c1_9⟩ := vA1.l10)
    | (go_at_call 109; (with_reducible refine Calls.mono (specHandX v1 (xs ++ putB kd) p q d _ _ ((Owns.step o1 (by repeat (first | exact Below.refl _ _ | refine Below.al2 ?_ _ | refine Below.drew ?_ | refine below_drewN2 ?_ _))).rdT z1) (by simp only [List.length_append]; omega)) ?_); rintro e w3 ⟨v2, rfl, z2, o2, b_⟩; have HB2 : Hid (Below w.heap.size w w3) := HB1.out.trans (Below.mono (Below.trans (by repeat (first | exact Below.refl _ _ | refine Below.al2 ?_ _ | refine Below.drew ?_ | refine below_drewN2 ?_ _)) b_) HB1.out.size); have vA2 : VarA w3 w.heap.size 70 #[.int .i64 kd, .int .i64 p, .int .i64 q, .bool d, x, .int .i64 p2, .int .i64 q2_, .bool d2, y, .int .i64 vl] := VarA.step vA1 (Below.trans (by repeat (first | exact Below.refl _ _ | refine Below.al2 ?_ _ | refine Below.drew ?_ | refine below_drewN2 ?_ _)) b_); clear b_; obtain ⟨c2_0, c2_1, c2_2, c2_3, c2_4, c2_5, c2_6, c2_7, c2_8, c2_9⟩ := vA2.l10)
    | (go_at_call 121; (with_reducible refine Calls.mono (specTextR v2 _ (xs ++ putB kd ++ hdB (p, q, d)) nm _ S2 _ ((Owns.step o2 (by repeat (first | exact Below.refl _ _ | refine Below.al2 ?_ _ | refine Below.drew ?_ | refine below_drewN2 ?_ _))).rdT z2) (HX.out _ (HB2.out.trans (Below.mono (by repeat (first | exact Below.refl _ _ | refine Below.al2 ?_ _ | refine Below.drew ?_ | refine below_drewN2 ?_ _)) HB2.out.size))) (by simp only [List.length_append]; omega) (by omega)) ?_); rintro e w4 ⟨v3, rfl, z3, o3, b_⟩; have HB3 : Hid (Below w.heap.size w w4) := HB2.out.trans (Below.mono (Below.trans (by repeat (first | exact Below.refl _ _ | refine Below.al2 ?_ _ | refine Below.drew ?_ | refine below_drewN2 ?_ _)) b_) HB2.out.size); have vA3 : VarA w4 w.heap.size 70 #[.int .i64 kd, .int .i64 p, .int .i64 q, .bool d, x, .int .i64 p2, .int .i64 q2_, .bool d2, y, .int .i64 vl] := VarA.step vA2 (Below.trans (by repeat (first | exact Below.refl _ _ | refine Below.al2 ?_ _ | refine Below.drew ?_ | refine below_drewN2 ?_ _)) b_); clear b_; obtain ⟨c3_0, c3_1, c3_2, c3_3, c3_4, c3_5, c3_6, c3_7, c3_8, c3_9⟩ := vA3.l10))
  go_wp2
  go_region_held3 (fun w' => w'.cell? ⟨w.heap.size, 0, none⟩ = some (.int .i64 kd) ∧ w'.cell? ⟨w.heap.size, 1, none⟩ = some (.int .i64 p) ∧ w'.cell? ⟨w.heap.size, 2, none⟩ = some (.int .i64 q) ∧ w'.cell? ⟨w.heap.size, 3, none⟩ = some (.bool d) ∧ w'.cell? ⟨w.heap.size, 4, none⟩ = some (x) ∧ w'.cell? ⟨w.heap.size, 5, none⟩ = some (.int .i64 p2) ∧ w'.cell? ⟨w.heap.size, 6, none⟩ = some (.int .i64 q2_) ∧ w'.cell? ⟨w.heap.size, 7, none⟩ = some (.bool d2) ∧ w'.cell? ⟨w.heap.size, 8, none⟩ = some (y) ∧ w'.cell? ⟨w.heap.size, 9, none⟩ = some (.int .i64 vl)) (first | go_keep | (refine ⟨?_, ?_, ?_, ?_, ?_, ?_, ?_, ?_, ?_, ?_⟩ <;> assumption)) (first
    | (go_at_call 109; (with_reducible refine Calls.mono (specHandX v3 (xs ++ putB kd ++ hdB (p, q, d) ++ textB nm) p2 q2_ d2 _ _ ((Owns.step o3 (by repeat (first | exact Below.refl _ _ | refine Below.al2 ?_ _ | refine Below.drew ?_ | refine below_drewN2 ?_ _))).rdT z3) (by simp only [List.length_append]; omega)) ?_); rintro e w5 ⟨v4, rfl, z4, o4, b_⟩; have HB4 : Hid (Below w.heap.size w w5) := HB3.out.trans (Below.mono (Below.trans (by repeat (first | exact Below.refl _ _ | refine Below.al2 ?_ _ | refine Below.drew ?_ | refine below_drewN2 ?_ _)) b_) HB3.out.size); have vA4 : VarA w5 w.heap.size 70 #[.int .i64 kd, .int .i64 p, .int .i64 q, .bool d, x, .int .i64 p2, .int .i64 q2_, .bool d2, y, .int .i64 vl] := VarA.step vA3 (Below.trans (by repeat (first | exact Below.refl _ _ | refine Below.al2 ?_ _ | refine Below.drew ?_ | refine below_drewN2 ?_ _)) b_); clear b_; obtain ⟨c4_0, c4_1, c4_2, c4_3, c4_4, c4_5, c4_6, c4_7, c4_8, c4_9⟩ := vA4.l10)
    | (go_at_call 121; (with_reducible refine Calls.mono (specTextR v4 _ (xs ++ putB kd ++ hdB (p, q, d) ++ textB nm ++ hdB (p2, q2_, d2)) asn _ S2 _ ((Owns.step o4 (by repeat (first | exact Below.refl _ _ | refine Below.al2 ?_ _ | refine Below.drew ?_ | refine below_drewN2 ?_ _))).rdT z4) (HY.out _ (HB4.out.trans (Below.mono (by repeat (first | exact Below.refl _ _ | refine Below.al2 ?_ _ | refine Below.drew ?_ | refine below_drewN2 ?_ _)) HB4.out.size))) (by simp only [List.length_append]; omega) (by omega)) ?_); rintro e w6 ⟨v5, rfl, z5, o5, b_⟩; have HB5 : Hid (Below w.heap.size w w6) := HB4.out.trans (Below.mono (Below.trans (by repeat (first | exact Below.refl _ _ | refine Below.al2 ?_ _ | refine Below.drew ?_ | refine below_drewN2 ?_ _)) b_) HB4.out.size); have vA5 : VarA w6 w.heap.size 70 #[.int .i64 kd, .int .i64 p, .int .i64 q, .bool d, x, .int .i64 p2, .int .i64 q2_, .bool d2, y, .int .i64 vl] := VarA.step vA4 (Below.trans (by repeat (first | exact Below.refl _ _ | refine Below.al2 ?_ _ | refine Below.drew ?_ | refine below_drewN2 ?_ _)) b_); clear b_; obtain ⟨c5_0, c5_1, c5_2, c5_3, c5_4, c5_5, c5_6, c5_7, c5_8, c5_9⟩ := vA5.l10)
    | (go_at_call 104; (with_reducible refine Calls.mono (specPutR v5 (xs ++ putB kd ++ hdB (p, q, d) ++ textB nm ++ hdB (p2, q2_, d2) ++ textB asn) vl _ _ ((Owns.step o5 (by repeat (first | exact Below.refl _ _ | refine Below.al2 ?_ _ | refine Below.drew ?_ | refine below_drewN2 ?_ _))).rdT z5) (by simp only [List.length_append]; omega)) ?_); rintro e w7 ⟨v6, rfl, z6, o6, b_⟩; have HB6 : Hid (Below w.heap.size w w7) := HB5.out.trans (Below.mono (Below.trans (by repeat (first | exact Below.refl _ _ | refine Below.al2 ?_ _ | refine Below.drew ?_ | refine below_drewN2 ?_ _)) b_) HB5.out.size); have vA6 : VarA w7 w.heap.size 70 #[.int .i64 kd, .int .i64 p, .int .i64 q, .bool d, x, .int .i64 p2, .int .i64 q2_, .bool d2, y, .int .i64 vl] := VarA.step vA5 (Below.trans (by repeat (first | exact Below.refl _ _ | refine Below.al2 ?_ _ | refine Below.drew ?_ | refine below_drewN2 ?_ _)) b_); clear b_; obtain ⟨c6_0, c6_1, c6_2, c6_3, c6_4, c6_5, c6_6, c6_7, c6_8, c6_9⟩ := vA6.l10))
  all_goals
    go_wp2
    go_ret
    refine ⟨_, rfl, ?_, ?_, HB6.out⟩
    · simpa [opB, List.append_assoc] using z6
    · have o_ := o6.base (b' := w.heap.size) (by first | exact HB5.out.size | omega)
      simpa [opB, List.append_assoc] using o_
set_option maxHeartbeats 8000000 in
theorem specPartR (v : Value) (xs : List Int) (o : PtD) (x : Value) (S S2 : Nat → Prop) (w : World) (r : RdV w S v (.bytes xs)) (hl : xs.length ≤ 1800000) (q1 : RdV w S2 x (.bytes o.asn)) (hn : o.asn.length ≤ 1048576) : Ap 108 #[v, ptV o x] w (xs ++ ptB o) := by
  obtain ⟨kd, ⟨p, q, d⟩, nm, ⟨p2, q2_, d2⟩⟩ := o
  dsimp only at q1 hn ⊢
  have h1 := putB_len kd
  have h2 := hdB_len (p, q, d)
  have h3 := textB_len nm
  have h4 := hdB_len (p2, q2_, d2)
  have HX : Hid (∀ W, Below w.heap.size w W → _) := q1.old
  clear q1
  have HR : Hid (∀ W, Below w.heap.size w W → _) := r.old
  clear r
  go_enter Try.func108, Try.ntmps108
  go_wp2
  go_region_held3 (fun w' => w'.cell? ⟨w.heap.size, 0, none⟩ = some (.int .i64 kd) ∧ w'.cell? ⟨w.heap.size, 1, none⟩ = some (.int .i64 p) ∧ w'.cell? ⟨w.heap.size, 2, none⟩ = some (.int .i64 q) ∧ w'.cell? ⟨w.heap.size, 3, none⟩ = some (.bool d) ∧ w'.cell? ⟨w.heap.size, 4, none⟩ = some (x) ∧ w'.cell? ⟨w.heap.size, 5, none⟩ = some (.int .i64 p2) ∧ w'.cell? ⟨w.heap.size, 6, none⟩ = some (.int .i64 q2_) ∧ w'.cell? ⟨w.heap.size, 7, none⟩ = some (.bool d2)) (first | go_keep | (refine ⟨?_, ?_, ?_, ?_, ?_, ?_, ?_, ?_⟩ <;> assumption)) (first
    | (go_at_call 104; (with_reducible refine Calls.mono (specPutR v xs kd _ _ (HR.out _ (by repeat (first | exact Below.refl _ _ | refine Below.al2 ?_ _ | refine Below.drew ?_ | refine below_drewN2 ?_ _))) (by omega)) ?_); rintro e w2 ⟨v1, rfl, z1, o1, b_⟩; have HB1 : Hid (Below w.heap.size w w2) := Below.trans (by repeat (first | exact Below.refl _ _ | refine Below.al2 ?_ _ | refine Below.drew ?_ | refine below_drewN2 ?_ _)) (b_.mono (by simp [World.drew] <;> omega)); have vA1 : VarA w2 w.heap.size 48 #[.int .i64 kd, .int .i64 p, .int .i64 q, .bool d, x, .int .i64 p2, .int .i64 q2_, .bool d2] := VarA.step (VarA.dr (VarA.new w _ _)) b_; clear b_; obtain ⟨c1_0, c1_1, c1_2, c1_3, c1_4, c1_5, c1_6, c1_7⟩ := vA1.l8)
    | (go_at_call 109; (with_reducible refine Calls.mono (specHandX v1 (xs ++ putB kd) p q d _ _ ((Owns.step o1 (by repeat (first | exact Below.refl _ _ | refine Below.al2 ?_ _ | refine Below.drew ?_ | refine below_drewN2 ?_ _))).rdT z1) (by simp only [List.length_append]; omega)) ?_); rintro e w3 ⟨v2, rfl, z2, o2, b_⟩; have HB2 : Hid (Below w.heap.size w w3) := HB1.out.trans (Below.mono (Below.trans (by repeat (first | exact Below.refl _ _ | refine Below.al2 ?_ _ | refine Below.drew ?_ | refine below_drewN2 ?_ _)) b_) HB1.out.size); have vA2 : VarA w3 w.heap.size 48 #[.int .i64 kd, .int .i64 p, .int .i64 q, .bool d, x, .int .i64 p2, .int .i64 q2_, .bool d2] := VarA.step vA1 (Below.trans (by repeat (first | exact Below.refl _ _ | refine Below.al2 ?_ _ | refine Below.drew ?_ | refine below_drewN2 ?_ _)) b_); clear b_; obtain ⟨c2_0, c2_1, c2_2, c2_3, c2_4, c2_5, c2_6, c2_7⟩ := vA2.l8)
    | (go_at_call 121; (with_reducible refine Calls.mono (specTextR v2 _ (xs ++ putB kd ++ hdB (p, q, d)) nm _ S2 _ ((Owns.step o2 (by repeat (first | exact Below.refl _ _ | refine Below.al2 ?_ _ | refine Below.drew ?_ | refine below_drewN2 ?_ _))).rdT z2) (HX.out _ (HB2.out.trans (Below.mono (by repeat (first | exact Below.refl _ _ | refine Below.al2 ?_ _ | refine Below.drew ?_ | refine below_drewN2 ?_ _)) HB2.out.size))) (by simp only [List.length_append]; omega) (by omega)) ?_); rintro e w4 ⟨v3, rfl, z3, o3, b_⟩; have HB3 : Hid (Below w.heap.size w w4) := HB2.out.trans (Below.mono (Below.trans (by repeat (first | exact Below.refl _ _ | refine Below.al2 ?_ _ | refine Below.drew ?_ | refine below_drewN2 ?_ _)) b_) HB2.out.size); have vA3 : VarA w4 w.heap.size 48 #[.int .i64 kd, .int .i64 p, .int .i64 q, .bool d, x, .int .i64 p2, .int .i64 q2_, .bool d2] := VarA.step vA2 (Below.trans (by repeat (first | exact Below.refl _ _ | refine Below.al2 ?_ _ | refine Below.drew ?_ | refine below_drewN2 ?_ _)) b_); clear b_; obtain ⟨c3_0, c3_1, c3_2, c3_3, c3_4, c3_5, c3_6, c3_7⟩ := vA3.l8)
    | (go_at_call 109; (with_reducible refine Calls.mono (specHandX v3 (xs ++ putB kd ++ hdB (p, q, d) ++ textB nm) p2 q2_ d2 _ _ ((Owns.step o3 (by repeat (first | exact Below.refl _ _ | refine Below.al2 ?_ _ | refine Below.drew ?_ | refine below_drewN2 ?_ _))).rdT z3) (by simp only [List.length_append]; omega)) ?_); rintro e w5 ⟨v4, rfl, z4, o4, b_⟩; have HB4 : Hid (Below w.heap.size w w5) := HB3.out.trans (Below.mono (Below.trans (by repeat (first | exact Below.refl _ _ | refine Below.al2 ?_ _ | refine Below.drew ?_ | refine below_drewN2 ?_ _)) b_) HB3.out.size); have vA4 : VarA w5 w.heap.size 48 #[.int .i64 kd, .int .i64 p, .int .i64 q, .bool d, x, .int .i64 p2, .int .i64 q2_, .bool d2] := VarA.step vA3 (Below.trans (by repeat (first | exact Below.refl _ _ | refine Below.al2 ?_ _ | refine Below.drew ?_ | refine below_drewN2 ?_ _)) b_); clear b_; obtain ⟨c4_0, c4_1, c4_2, c4_3, c4_4, c4_5, c4_6, c4_7⟩ := vA4.l8))
  all_goals
    go_wp2
    go_ret
    refine ⟨_, rfl, ?_, ?_, HB4.out⟩
    · simpa [ptB, List.append_assoc] using z4
    · have o_ := o4.base (b' := w.heap.size) (by first | exact HB3.out.size | omega)
      simpa [ptB, List.append_assoc] using o_
end Go.Proofs.Ytaaongjnpnanmaa
end

section
/- What the verifier's counting of entries, nodes, trees and operations answers; no condition on them. -/
namespace Go.Proofs.Ytaaongjnpnanmaa
open Go.RowKit
set_option linter.unusedVariables false

def leftT (n s : Nat) : Int := if n ≤ s then (s : Int) - n else -1

/-- f, summed up over the first j. -/
def psum {α : Type} (f : α → Nat) (l : List α) (j : Nat) : Nat := ((l.take j).map f).sum
theorem psum_zero {α : Type} (f : α → Nat) (l : List α) : psum f l 0 = 0 := by simp [psum]
theorem psum_all {α : Type} (f : α → Nat) (l : List α) : psum f l l.length = (l.map f).sum := by simp [psum]
theorem psum_next {α : Type} (f : α → Nat) (l : List α) (d : α) (j : Nat) (h : j < l.length) : psum f l (j + 1) = psum f l j + f (l[j]?.getD d) := by
  unfold psum
  rw [List.take_succ_eq_append_getElem h, List.map_append, List.sum_append]
  simp [h]
theorem psum_le {α : Type} (f : α → Nat) (l : List α) (j : Nat) : psum f l j ≤ (l.map f).sum := by
  have : (l.map f).sum = ((l.take j).map f).sum + ((l.drop j).map f).sum := by rw [← List.sum_append, ← List.map_append, List.take_append_drop]
  unfold psum
  omega

theorem psum_mono0 {α : Type} (f g : α → Nat) (h : ∀ a, f a ≤ g a) (l : List α) : (l.map f).sum ≤ (l.map g).sum := by
  induction l with
  | nil => simp
  | cons x r ih => have := h x; simp; omega

theorem szByteS_d (v : Value) (zs : List Int) (S : Nat → Prop) (s : Nat) (w : World) (r : RdV w S v (.bytes zs)) (hs : s ≤ 1048576) :
    Calls Try.prog 56 #[v, .int .i64 s] w fun e w' => e = .returned (.int .i64 (leftT zs.length s)) ∧ Below w.heap.size w w' := by
  obtain ⟨a, c, rfl, hh, _⟩ := r.b.reads
  have hm : zs.length ≤ 9223372036854775807 := by have := hh.1; have := hh.2.1; unfold maxLen at this; omega
  generalize zs.length = n at hm ⊢
  unfold leftT
  clear hh
  by_cases hle : n ≤ s
  · rw [if_pos hle]
    go_enter Try.func56, Try.ntmps56
    go_wp2
    go_ret
    exact ⟨rfl, Below.refl _ _⟩
  · rw [if_neg hle]
    go_enter Try.func56, Try.ntmps56
    go_wp2
    go_ret
    exact ⟨rfl, Below.refl _ _⟩

set_option maxHeartbeats 1000000 in
theorem szEntry_d (x : Value) (e : En) (S : Nat → Prop) (s : Nat) (w : World) (hs : s ≤ 1048576) (r : RdV w S x (.bytes e.nm)) :
    Calls Try.prog 97 #[enV x e.h, .int .i64 s] w fun ret w' => ret = .returned (.int .i64 (leftT (e.nm.length) s)) ∧ Below w.heap.size w w' := by
  obtain ⟨a, cap, rfl⟩ := r.sliceB
  obtain ⟨nm, ⟨p, q, d⟩⟩ := e
  dsimp only at r ⊢
  have HS : Hid (∀ W, Below w.heap.size w W → _) := fun W hW => szByteS_d _ nm S s W (r.step hW) hs
  clear r
  generalize nm.length = m at HS ⊢
  by_cases hle : m ≤ s
  · have hl : leftT m s = (s : Int) - m := by unfold leftT; rw [if_pos hle]
    rw [hl] at HS ⊢
    clear hl
    go_enter Try.func97, Try.ntmps97
    go_wp2_with fail
    refine Calls.mono (HS.out _ (Below.newH _)) ?_
    rintro e w2 ⟨rfl, b_⟩
    go_wp2
    go_ret
    exact ⟨rfl, (Below.newH (w := w) _).trans (b_.mono (by simp))⟩
  · have hl : leftT m s = -1 := by unfold leftT; rw [if_neg hle]
    rw [hl] at HS ⊢
    clear hl
    go_enter Try.func97, Try.ntmps97
    go_wp2_with fail
    refine Calls.mono (HS.out _ (Below.newH _)) ?_
    rintro e w2 ⟨rfl, b_⟩
    go_wp2
    go_ret
    exact ⟨rfl, (Below.newH (w := w) _).trans (b_.mono (by simp))⟩

set_option maxHeartbeats 2000000 in
theorem szEntryS_d (v : Value) (l : List En) (S : Nat → Prop) (s : Nat) (w : World) (hs : s ≤ 1048576) (r : RdV w S v (ensDt l)) :
    Calls Try.prog 65 #[v, .int .i64 s] w fun e w' => e = .returned (.int .i64 (leftT (szEns l) s)) ∧ Below w.heap.size w w' := by
  obtain ⟨a, cap, rfl, hm⟩ := RdV.sliced r
  have HR : Hid (∀ W, Below w.heap.size w W → RdV W S (.slice a l.length cap) (ensDt l)) := r.old
  have HD : Hid (ensDt l = .rows 89 4 l.length (fun i j => enCell (l[i]?.getD en0) j)) := rfl
  have HX : Hid (szEns l = l.length + psum (fun e : En => e.nm.length) l l.length) := by show _ = _; rw [psum_all]; rfl
  have HU : Hid (∀ j, j < l.length → psum (fun e : En => e.nm.length) l (j + 1) = psum (fun e : En => e.nm.length) l j + (fun e : En => e.nm.length) (l[j]?.getD en0) ∧ psum (fun e : En => e.nm.length) l (j + 1) ≤ psum (fun e : En => e.nm.length) l l.length) := fun j hj => ⟨psum_next _ l _ j hj, by rw [psum_all]; exact psum_le _ l _⟩
  unfold maxLen at hm
  clear r
  rw [HD.out] at HR
  clear HD
  rw [HX.out]
  clear HX
  have HZ0 : Hid (psum (fun e : En => e.nm.length) l 0 = 0) := psum_zero _ _
  generalize psum (fun e : En => e.nm.length) l = P at HU HZ0 ⊢
  generalize l.length = n at hm HR HU ⊢
  by_cases hle : n ≤ s
  · go_enter Try.func65, Try.ntmps65
    go_wp2
    go_loopw [1, 5] (fun q i wr => ∃ j t : Nat, j ≤ n ∧ i = .int .i64 j ∧ q = .int .i64 t ∧ t ≤ s ∧ Hid (t + (n + P j) = s) ∧ Below w.heap.size w wr) (fun _ i _ => n - (intOf i).toNat)
    case atStart => exact ⟨0, s - n, Nat.zero_le _, rfl, by go_num, by omega, by show _ = _; rw [HZ0.out]; omega, Below.refl _ _⟩
    case round =>
      obtain ⟨j, t, hj, rfl, rfl, ht, HS, hbel⟩ := hrel
      by_cases hlt : j < n
      · obtain ⟨b, off, rfl, hbl, _, hx⟩ := RdV.at (HR.out wr hbel) hlt
        obtain ⟨hu1, hu2⟩ := HU.out j hlt
        obtain ⟨e, he⟩ : ∃ e, l[j]?.getD en0 = e := ⟨_, rfl⟩
        obtain ⟨x0, c0, r0⟩ := hx 0 (by omega)
        obtain ⟨x1, c1, r1⟩ := hx 1 (by omega)
        obtain ⟨x2, c2, r2⟩ := hx 2 (by omega)
        obtain ⟨x3, c3, r3⟩ := hx 3 (by omega)
        rw [he] at hu1 r0 r1 r2 r3
        clear hx he
        obtain ⟨nm, ⟨p, q, d⟩⟩ := e
        obtain rfl : x1 = .int .i64 p := r1
        obtain rfl : x2 = .int .i64 q := r2
        obtain rfl : x3 = .bool d := r3
        simp only [Nat.add_zero] at c0
        dsimp only at hu1
        have RS : Hid (RdV wr S x0 (.bytes nm)) := r0
        clear r0
        obtain ⟨xa, xc, rfl⟩ := RdV.sliceB RS.out
        have HSZ : Hid _ := szEntry_d _ ⟨nm, p, q, d⟩ S t wr (by omega) RS.out
        generalize nm.length = m at hu1 HSZ c0
        clear RS
        have hws := hbel.size
        by_cases hmt : m ≤ t
        · have hl : leftT m t = (t : Int) - m := by unfold leftT; rw [if_pos hmt]
          rw [hl] at HSZ
          have HF : Hid (t - m + (n + P (j + 1)) = s) := by show _ = _; have := HS.out; omega
          clear hl hu1 hu2 HS
          go_wp2_with fail
          refine Calls.mono HSZ.out ?_
          rintro e w2 ⟨rfl, hb2⟩
          go_wp2
          go_roundw
          case rel => exact ⟨j + 1, t - m, by omega, by go_num, by go_num, by omega, HF, hbel.trans (hb2.mono hws)⟩
          case measure => simp [intOf]; omega
        · have hl : leftT m t = -1 := by unfold leftT; rw [if_neg hmt]
          rw [hl] at HSZ
          have HF : Hid (leftT (n + P n) s = -1) := by show _ = _; unfold leftT; rw [if_neg (by have := HS.out; omega)]
          clear hl hu1 hu2 HS
          go_wp2_with fail
          refine Calls.mono HSZ.out ?_
          rintro e w2 ⟨rfl, hb2⟩
          go_wp2
          go_ret
          exact ⟨by rw [HF.out]; rfl, hbel.trans (hb2.mono hws)⟩
      · have hjn : j = n := by omega
        subst hjn
        have HF : Hid (leftT (j + P j) s = (t : Int)) := by have := HS.out; show _ = _; unfold leftT; rw [if_pos (by omega)]; omega
        go_wp2
        go_ret
        exact ⟨by rw [HF.out]; rfl, hbel⟩
  · have HF : Hid (leftT (n + P n) s = -1) := by show _ = _; unfold leftT; rw [if_neg (by omega)]
    clear HU HR
    go_enter Try.func65, Try.ntmps65
    go_wp2
    go_ret
    exact ⟨by rw [HF.out]; rfl, Below.refl _ _⟩

set_option maxHeartbeats 1000000 in
theorem szNode_d (x : Value) (n : Nd) (S : Nat → Prop) (s : Nat) (w : World) (hs : s ≤ 1048576) (r : RdV w S x (ensDt n.es)) :
    Calls Try.prog 90 #[ndV n x, .int .i64 s] w fun ret w' => ret = .returned (.int .i64 (leftT (szEns n.es) s)) ∧ Below w.heap.size w w' := by
  obtain ⟨a, cap, rfl, _⟩ := RdV.sliced r
  obtain ⟨⟨p, q, d⟩, ⟨p2, q2, d2⟩, lk, vl, es⟩ := n
  dsimp only at r ⊢
  generalize hq : es.length = n0 at r
  have HQ : Hid _ := hq
  clear hq
  have HS : Hid (∀ W, Below w.heap.size w W → _) := fun W hW => szEntryS_d _ es S s W hs (r.step hW)
  clear r
  generalize szEns es = m at HS ⊢
  by_cases hle : m ≤ s
  · have hl : leftT m s = (s : Int) - m := by unfold leftT; rw [if_pos hle]
    rw [hl] at HS ⊢
    clear hl
    go_enter Try.func90, Try.ntmps90
    go_wp2_with fail
    refine Calls.mono (HS.out _ (Below.newH _)) ?_
    rintro e w2 ⟨rfl, b_⟩
    go_wp2
    go_ret
    exact ⟨rfl, (Below.newH (w := w) _).trans (b_.mono (by simp))⟩
  · have hl : leftT m s = -1 := by unfold leftT; rw [if_neg hle]
    rw [hl] at HS ⊢
    clear hl
    go_enter Try.func90, Try.ntmps90
    go_wp2_with fail
    refine Calls.mono (HS.out _ (Below.newH _)) ?_
    rintro e w2 ⟨rfl, b_⟩
    go_wp2
    go_ret
    exact ⟨rfl, (Below.newH (w := w) _).trans (b_.mono (by simp))⟩

set_option maxHeartbeats 2000000 in
theorem szNodeS_d (v : Value) (l : List Nd) (S : Nat → Prop) (s : Nat) (w : World) (hs : s ≤ 1048576) (r : RdV w S v (ndsDt l)) :
    Calls Try.prog 38 #[v, .int .i64 s] w fun e w' => e = .returned (.int .i64 (leftT (szNds l) s)) ∧ Below w.heap.size w w' := by
  obtain ⟨a, cap, rfl, hm⟩ := RdV.sliced r
  have HR : Hid (∀ W, Below w.heap.size w W → RdV W S (.slice a l.length cap) (ndsDt l)) := r.old
  have HD : Hid (ndsDt l = .rows 83 9 l.length (fun i j => ndCell (l[i]?.getD nd0) j)) := rfl
  have HX : Hid (szNds l = l.length + psum (fun n : Nd => szEns n.es) l l.length) := by show _ = _; rw [psum_all]; rfl
  have HU : Hid (∀ j, j < l.length → psum (fun n : Nd => szEns n.es) l (j + 1) = psum (fun n : Nd => szEns n.es) l j + (fun n : Nd => szEns n.es) (l[j]?.getD nd0) ∧ psum (fun n : Nd => szEns n.es) l (j + 1) ≤ psum (fun n : Nd => szEns n.es) l l.length) := fun j hj => ⟨psum_next _ l _ j hj, by rw [psum_all]; exact psum_le _ l _⟩
  unfold maxLen at hm
  clear r
  rw [HD.out] at HR
  clear HD
  rw [HX.out]
  clear HX
  have HZ0 : Hid (psum (fun n : Nd => szEns n.es) l 0 = 0) := psum_zero _ _
  generalize psum (fun n : Nd => szEns n.es) l = P at HU HZ0 ⊢
  generalize l.length = n at hm HR HU ⊢
  by_cases hle : n ≤ s
  · go_enter Try.func38, Try.ntmps38
    go_wp2
    go_loopw [1, 5] (fun q i wr => ∃ j t : Nat, j ≤ n ∧ i = .int .i64 j ∧ q = .int .i64 t ∧ t ≤ s ∧ Hid (t + (n + P j) = s) ∧ Below w.heap.size w wr) (fun _ i _ => n - (intOf i).toNat)
    case atStart => exact ⟨0, s - n, Nat.zero_le _, rfl, by go_num, by omega, by show _ = _; rw [HZ0.out]; omega, Below.refl _ _⟩
    case round =>
      obtain ⟨j, t, hj, rfl, rfl, ht, HS, hbel⟩ := hrel
      by_cases hlt : j < n
      · obtain ⟨b, off, rfl, hbl, _, hx⟩ := RdV.at (HR.out wr hbel) hlt
        obtain ⟨hu1, hu2⟩ := HU.out j hlt
        obtain ⟨e, he⟩ : ∃ e, l[j]?.getD nd0 = e := ⟨_, rfl⟩
        obtain ⟨x0, c0, r0⟩ := hx 0 (by omega)
        obtain ⟨x1, c1, r1⟩ := hx 1 (by omega)
        obtain ⟨x2, c2, r2⟩ := hx 2 (by omega)
        obtain ⟨x3, c3, r3⟩ := hx 3 (by omega)
        obtain ⟨x4, c4, r4⟩ := hx 4 (by omega)
        obtain ⟨x5, c5, r5⟩ := hx 5 (by omega)
        obtain ⟨x6, c6, r6⟩ := hx 6 (by omega)
        obtain ⟨x7, c7, r7⟩ := hx 7 (by omega)
        obtain ⟨x8, c8, r8⟩ := hx 8 (by omega)
        rw [he] at hu1 r0 r1 r2 r3 r4 r5 r6 r7 r8
        clear hx he
        obtain ⟨⟨p, q, d⟩, ⟨p2, q2, d2⟩, lk, vl, es⟩ := e
        obtain rfl : x0 = .int .i64 p := r0
        obtain rfl : x1 = .int .i64 q := r1
        obtain rfl : x2 = .bool d := r2
        obtain rfl : x3 = .int .i64 p2 := r3
        obtain rfl : x4 = .int .i64 q2 := r4
        obtain rfl : x5 = .bool d2 := r5
        obtain rfl : x6 = .int .i64 lk := r6
        obtain rfl : x7 = .int .i64 vl := r7
        simp only [Nat.add_zero] at c0
        dsimp only at hu1
        have RS : Hid (RdV wr S x8 (ensDt es)) := r8
        clear r8
        obtain ⟨xa, xc, rfl, _⟩ := RdV.sliced RS.out
        have HSZ : Hid _ := szNode_d _ ⟨(p, q, d), (p2, q2, d2), lk, vl, es⟩ S t wr (by omega) RS.out
        generalize szEns es = m at hu1 HSZ
        clear RS
        generalize es.length = xn at HSZ c8
        have hws := hbel.size
        by_cases hmt : m ≤ t
        · have hl : leftT m t = (t : Int) - m := by unfold leftT; rw [if_pos hmt]
          rw [hl] at HSZ
          have HF : Hid (t - m + (n + P (j + 1)) = s) := by show _ = _; have := HS.out; omega
          clear hl hu1 hu2 HS
          go_wp2_with fail
          refine Calls.mono HSZ.out ?_
          rintro e w2 ⟨rfl, hb2⟩
          go_wp2
          go_roundw
          case rel => exact ⟨j + 1, t - m, by omega, by go_num, by go_num, by omega, HF, hbel.trans (hb2.mono hws)⟩
          case measure => simp [intOf]; omega
        · have hl : leftT m t = -1 := by unfold leftT; rw [if_neg hmt]
          rw [hl] at HSZ
          have HF : Hid (leftT (n + P n) s = -1) := by show _ = _; unfold leftT; rw [if_neg (by have := HS.out; omega)]
          clear hl hu1 hu2 HS
          go_wp2_with fail
          refine Calls.mono HSZ.out ?_
          rintro e w2 ⟨rfl, hb2⟩
          go_wp2
          go_ret
          exact ⟨by rw [HF.out]; rfl, hbel.trans (hb2.mono hws)⟩
      · have hjn : j = n := by omega
        subst hjn
        have HF : Hid (leftT (j + P j) s = (t : Int)) := by have := HS.out; show _ = _; unfold leftT; rw [if_pos (by omega)]; omega
        go_wp2
        go_ret
        exact ⟨by rw [HF.out]; rfl, hbel⟩
  · have HF : Hid (leftT (n + P n) s = -1) := by show _ = _; unfold leftT; rw [if_neg (by omega)]
    clear HU HR
    go_enter Try.func38, Try.ntmps38
    go_wp2
    go_ret
    exact ⟨by rw [HF.out]; rfl, Below.refl _ _⟩

set_option maxHeartbeats 1000000 in
theorem szTree_d (x : Value) (l : List Nd) (S : Nat → Prop) (s : Nat) (w : World) (hs : s ≤ 1048576) (r : RdV w S x (ndsDt l)) :
    Calls Try.prog 9 #[.agg #[x], .int .i64 s] w fun ret w' => ret = .returned (.int .i64 (leftT (szNds l) s)) ∧ Below w.heap.size w w' := by
  obtain ⟨a, cap, rfl, _⟩ := RdV.sliced r
  generalize hq : l.length = n0 at r
  have HQ : Hid _ := hq
  clear hq
  have HS : Hid (∀ W, Below w.heap.size w W → _) := fun W hW => szNodeS_d _ l S s W hs (r.step hW)
  clear r
  generalize szNds l = m at HS ⊢
  by_cases hle : m ≤ s
  · have hl : leftT m s = (s : Int) - m := by unfold leftT; rw [if_pos hle]
    rw [hl] at HS ⊢
    clear hl
    go_enter Try.func9, Try.ntmps9
    go_wp2_with fail
    refine Calls.mono (HS.out _ (Below.newH _)) ?_
    rintro e w2 ⟨rfl, b_⟩
    go_wp2
    go_ret
    exact ⟨rfl, (Below.newH (w := w) _).trans (b_.mono (by simp))⟩
  · have hl : leftT m s = -1 := by unfold leftT; rw [if_neg hle]
    rw [hl] at HS ⊢
    clear hl
    go_enter Try.func9, Try.ntmps9
    go_wp2_with fail
    refine Calls.mono (HS.out _ (Below.newH _)) ?_
    rintro e w2 ⟨rfl, b_⟩
    go_wp2
    go_ret
    exact ⟨rfl, (Below.newH (w := w) _).trans (b_.mono (by simp))⟩

set_option maxHeartbeats 2000000 in
theorem szOp_d (x y : Value) (o : OpD) (S : Nat → Prop) (s : Nat) (w : World) (hs : s ≤ 1048576) (r : RdV w S x (.bytes o.nm)) (r2 : RdV w S y (.bytes o.asn)) :
    Calls Try.prog 70 #[opV o x y, .int .i64 s] w fun e w' => e = .returned (.int .i64 (leftT (o.nm.length + o.asn.length) s)) ∧ Below w.heap.size w w' := by
  obtain ⟨a, cap, rfl⟩ := r.sliceB
  obtain ⟨a2, cap2, rfl⟩ := r2.sliceB
  obtain ⟨kd, ⟨p, q, d⟩, nm, ⟨p2, q2, d2⟩, asn, vl⟩ := o
  dsimp only at r r2 ⊢
  have HS : Hid (∀ W, Below w.heap.size w W → _) := fun W hW => szByteS_d _ nm S s W (r.step hW) hs
  have HS2 : Hid (∀ t W, t ≤ 1048576 → Below w.heap.size w W → _) := fun t W ht hW => szByteS_d _ asn S t W (r2.step hW) ht
  clear r r2
  generalize nm.length = n at HS ⊢
  generalize asn.length = m at HS2 ⊢
  by_cases hle : n ≤ s
  · have hl : leftT n s = ((s - n : Nat) : Int) := by unfold leftT; rw [if_pos hle]; omega
    rw [hl] at HS
    have HS3 := HS2.out (s - n)
    generalize hq : s - n = t at HS HS3
    have HQ : Hid _ := hq
    have hts : t ≤ 1048576 := by omega
    clear hl HS2 hq
    by_cases hle2 : m ≤ t
    · have hl : leftT m t = ((t - m : Nat) : Int) := by unfold leftT; rw [if_pos hle2]; omega
      rw [hl] at HS3
      have HF : Hid (leftT (n + m) s = ((t - m : Nat) : Int)) := by have := HQ.out; show _ = _; unfold leftT; rw [if_pos (by omega)]; omega
      have HS4 : Hid _ := HS3
      clear HS3 hl
      generalize t - m = z at HS4 HF
      rw [HF.out]
      go_enter Try.func70, Try.ntmps70
      go_wp2_with fail
      refine Calls.mono (HS.out _ (Below.newH _)) ?_
      rintro e w2 ⟨rfl, b_⟩
      have vA := VarA.step (VarA.new w _ _) b_
      have HB : Hid _ := (Below.newH (w := w) _).trans (b_.mono (by simp))
      clear b_
      obtain ⟨a0_, a1_, a2_, a3_, a4_, a5_, a6_, a7_, a8_, a9_⟩ := vA.l10
      go_wp2_with fail
      refine Calls.mono (HS4.out _ hts HB.out) ?_
      rintro e w3 ⟨rfl, b_⟩
      go_wp2
      go_ret
      exact ⟨rfl, HB.out.trans (b_.mono HB.out.size)⟩
    · have hl : leftT m t = -1 := by unfold leftT; rw [if_neg hle2]
      rw [hl] at HS3
      have HF : Hid (leftT (n + m) s = -1) := by have := HQ.out; show _ = _; unfold leftT; rw [if_neg (by omega)]
      have HS4 : Hid _ := HS3
      clear HS3 hl
      rw [HF.out]
      go_enter Try.func70, Try.ntmps70
      go_wp2_with fail
      refine Calls.mono (HS.out _ (Below.newH _)) ?_
      rintro e w2 ⟨rfl, b_⟩
      have vA := VarA.step (VarA.new w _ _) b_
      have HB : Hid _ := (Below.newH (w := w) _).trans (b_.mono (by simp))
      clear b_
      obtain ⟨a0_, a1_, a2_, a3_, a4_, a5_, a6_, a7_, a8_, a9_⟩ := vA.l10
      go_wp2_with fail
      refine Calls.mono (HS4.out _ hts HB.out) ?_
      rintro e w3 ⟨rfl, b_⟩
      go_wp2
      go_ret
      exact ⟨rfl, HB.out.trans (b_.mono HB.out.size)⟩
  · have hl : leftT n s = -1 := by unfold leftT; rw [if_neg hle]
    rw [hl] at HS
    have HF : Hid (leftT (n + m) s = -1) := by show _ = _; unfold leftT; rw [if_neg (by omega)]
    clear hl HS2
    rw [HF.out]
    go_enter Try.func70, Try.ntmps70
    go_wp2_with fail
    refine Calls.mono (HS.out _ (Below.newH _)) ?_
    rintro e w2 ⟨rfl, b_⟩
    go_wp2
    go_ret
    exact ⟨rfl, (Below.newH (w := w) _).trans (b_.mono (by simp))⟩
end Go.Proofs.Ytaaongjnpnanmaa
end
