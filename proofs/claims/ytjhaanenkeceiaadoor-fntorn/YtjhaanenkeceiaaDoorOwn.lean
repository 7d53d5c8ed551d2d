/- Byte slices of a call's own: how they are read, grown and carried over its steps, and the helpers of the verifier over them. Conditions: at most 2^21 bytes. -/
import Derived.Test.YtjhaanenkeceiaaDoorBytes
import Derived.Laws.CopyOwn
import Derived.WalkSpells
import Derived.Laws.AppendOwnNone
namespace Go.Proofs.YtjhaanenkeceiaaDoor
open Go.RowKit
set_option linter.unusedVariables false

theorem Tryd.sizeB : (Tryd.prog.info? 5).map (·.size) = some 1 := by kernel_rfl

theorem full_heap {w : World} {base : Nat} {e : TypeId} {g n : Nat} {xs : List Value} (h : w.ownsRow base e 1 (.slice (some ⟨g, 0, none⟩) n n) n xs) : w.heap[g]? = some (.cells xs.toArray e (0, 0)) := by
  rcases h.2 with ⟨hv, _⟩ | ⟨g', c, cur, hv, hg, hh, hnc, hm, hs, ht⟩
  · cases hv
  · simp only [Value.slice.injEq, Option.some.injEq, Addr.mk.injEq, and_true, true_and] at hv
    obtain ⟨rfl, rfl⟩ := hv
    rw [hh, ← ht, List.take_of_length_le (by simp; omega)]

theorem full_owns {w : World} {base g : Nat} {zs : List Int} {n : Nat} (hn : n = zs.length) (hg : base ≤ g) (hl : zs.length ≤ 4194304) (h : w.heap[g]? = some (.cells (bcells zs).toArray 5 (0, 0))) : Owns w base (.slice (some ⟨g, 0, none⟩) n n) zs := by
  subst hn
  exact ⟨by simp, .inr ⟨g, zs.length, _, rfl, hg, h, Nat.le_refl _, by unfold maxLen; omega, by simp, by simp [List.take_of_length_le]⟩⟩

theorem Reads.src {w : World} {a : Option Addr} {xs : List Int} (h : Reads w a xs) : 0 < (bcells xs).length → ∃ ad, a = some ad ∧ ∀ j v, (bcells xs)[j]? = some v → w.cell? (ad.add j) = some v := by
  intro h0
  rcases h.2 with rfl | ⟨b, off, rfl, hb, hc⟩
  · simp at h0
  · refine ⟨_, rfl, fun j v hv => ?_⟩
    have hj : j < xs.length := by
      rcases Nat.lt_or_ge j xs.length with h1 | h1
      · exact h1
      · rw [List.getElem?_eq_none (by simpa using h1)] at hv; cases hv
    have := hc j hj
    have e : ((⟨b, off, none⟩ : Addr).add j) = ⟨b, off + j, none⟩ := by
      by_cases h0 : j = 0
      · subst h0; simp [Addr.add]
      · simp [Addr.add, h0]
    rw [e, this, ← hv]
    simp [bcells, hj]

theorem bcells_one (xs : List Int) : ∀ v ∈ bcells xs, v.oneCell' = true := by
  intro v hv
  simp only [bcells, List.mem_map] at hv
  obtain ⟨x, _, rfl⟩ := hv
  rfl

theorem splice_two {α : Type} (Z X Y : List α) (k : Nat) (hk : X.length = k) (hZ : Z.length = k + Y.length) : splice (splice Z 0 X) k Y = X ++ Y := by
  subst hk
  unfold splice
  simp only [List.take_zero, List.nil_append, Nat.zero_add, List.take_left]
  rw [List.drop_append, List.drop_drop]
  have e1 : List.drop (X.length + Y.length) X = [] := List.drop_eq_nil_of_le (by omega)
  have e2 : List.drop (X.length + (X.length + Y.length - X.length)) Z = [] := List.drop_eq_nil_of_le (by omega)
  rw [e1, e2]; simp

theorem isBytes_append {xs ys : List Int} (h : isBytes xs) (k : isBytes ys) : isBytes (xs ++ ys) := by
  intro j
  rw [List.getElem?_append]
  split
  · exact h j
  · exact k _

theorem isBytes_cons {x : Int} {xs : List Int} (h0 : 0 ≤ x) (h1 : x ≤ 255) (h : isBytes xs) : isBytes (x :: xs) := by
  intro j
  cases j with
  | zero => simp; omega
  | succ j => simpa using h j

theorem Owns.base {w : World} {base b' : Nat} {v : Value} {zs : List Int} (h : Owns w base v zs) (hb : b' ≤ base) : Owns w b' v zs := by
  obtain ⟨h1, h2⟩ := h
  refine ⟨h1, ?_⟩
  rcases h2 with h2 | ⟨g, c, cur, hv, hg, r⟩
  · exact .inl h2
  · exact .inr ⟨g, c, cur, hv, by omega, r⟩

theorem reads_none (w : World) (a : Option Addr) : Reads w a [] := ⟨isBytes_nil, .inl rfl⟩

theorem Owns.shape {w : World} {base : Nat} {v : Value} {zs : List Int} (h : Owns w base v zs) : ∃ a cap, v = .slice a zs.length cap ∧ zs.length ≤ cap ∧ cap ≤ maxLen := by
  rcases h.2 with ⟨rfl, h0⟩ | ⟨g, c, cur, hv, hg, hh, hnc, hm, r⟩
  · exact ⟨none, 0, by rw [h0], by omega, Nat.zero_le _⟩
  · exact ⟨_, c, hv, hnc, hm⟩

theorem Reads.srcAt {w : World} {ad : Addr} {xs : List Int} (h : Reads w (some ad) xs) : ∀ j v, (bcells xs)[j]? = some v → w.cell? (ad.add j) = some v := by
  by_cases h0 : 0 < (bcells xs).length
  · obtain ⟨ad', ha, hc⟩ := h.src h0
    simp only [Option.some.injEq] at ha
    subst ha
    exact hc
  · intro j v hv
    rw [List.getElem?_eq_none (by omega)] at hv; cases hv

/-- append(v, x...), v the call's own bytes, x whatever bytes. -/
theorem wpList_app {ops : Array Oper} {rest : List Oper} {o : Oper} {a : Act} {Q : Exit → Act → World → Prop} (w : World) (hgd : o.guard = none) (s x : Operand)
    (ho : o.op = .call { callee := .builtin .append, args := #[s, x], argTypes := #[22, 22] })
    (base : Nat) (v : Value) (zs ys : List Int) (hs : a.eval s = v) (hown : Owns w base v zs) (ao : Option Addr) (m c : Nat) (hx : a.eval x = .slice ao m c) (hm : m = ys.length) (hr : Reads w ao ys)
    (hl : zs.length ≤ 4194304) (hl' : ys.length ≤ 4194304) (hbase : base ≤ w.heap.size)
    (hnil : ao = none → m = 0 ∧ c = 0)
    (h : ∀ v' w', Owns w' base v' (zs ++ ys) → w.grownBy w' v.ownBlock → wpList Tryd.prog ops Q rest (a.put o.dst v') w') : wpList Tryd.prog ops Q (o :: rest) a w := by
  obtain ⟨i0, hi, hz0, hz1, hz2⟩ := info_parts Tryd.infoB
  cases ao with
  | none =>
    obtain ⟨h0, hc0⟩ := hnil rfl
    have : ys = [] := List.eq_nil_of_length_eq_zero (by omega)
    subst this
    subst hm
    subst hc0
    refine wpList_append_own_none (w := w) hgd s x 22 ho base 5 i0 1 Tryd.underlying22 hi v zs.length (bcells zs) hs hown hx ?_
    have := h v w (by rw [List.append_nil]; exact hown) ⟨rfl, rfl, rfl, Nat.le_refl _, fun _ _ _ => rfl⟩
    exact this
  | some ad =>
    refine wpList_append_own w hgd s x 22 ho base 5 i0 (.int .u8 0) 1 1 Tryd.underlying22 hi hz0 hz1 hz2 rfl (by decide) v zs.length (bcells zs) hs hown ad m c (bcells ys) hx (by simp [hm]) hr.srcAt (bcells_one ys) (by unfold maxLen; omega) (by omega) hbase ?_
    intro v' w' ho' hg _
    refine h v' w' ?_ hg
    unfold Owns
    rw [List.length_append, ← hm]
    simpa [bcells] using ho'

theorem one_new (w : World) (x : Int) (h0 : 0 ≤ x) (h1 : x ≤ 255) : Reads (w.alloc (.cells #[.int .u8 x] 5)) (some ⟨w.heap.size, 0, none⟩) [x] := by
  refine ⟨isBytes_cons h0 h1 isBytes_nil, .inr ⟨w.heap.size, 0, rfl, by simp, fun i hi => ?_⟩⟩
  obtain rfl : i = 0 := by simpa using hi
  rw [World.cell?_alloc_at _ _ _ _ rfl]; rfl

theorem Owns.alloc {w : World} {base : Nat} {v : Value} {zs : List Int} (h : Owns w base v zs) (o : Obj) : Owns (w.alloc o) base v zs := World.ownsRow.alloc h o

theorem Owns.lt {w : World} {base : Nat} {v : Value} {zs : List Int} (h : Owns w base v zs) : ∀ k, v.ownBlock = some k → base ≤ k ∧ k < w.heap.size := World.ownsRow.lt h

theorem owns_empty (w : World) : Owns (w.alloc (.cells #[] 5)) w.heap.size (.slice (some ⟨w.heap.size, 0, none⟩) 0 0) [] := World.ownsRow_lit w #[] 0 (Nat.le_refl _) (Nat.zero_le _) rfl

theorem Owns.step {w w' : World} {base : Nat} {v : Value} {zs : List Int} (h : Owns w base v zs) (hb : Below w.heap.size w w') : Owns w' base v zs := h.below hb (fun k hk => (h.lt k hk).2)

theorem Owns.draw {w : World} {base : Nat} {v : Value} {zs : List Int} (h : Owns w base v zs) (n : Nat) : Owns (w.drewN n) base v zs := h.step (below_drewN2 (Below.refl _ _) n)

theorem Owns.other {w w' : World} {base : Nat} {v u : Value} {zs : List Int} (h : Owns w base v zs) (hg : w.grownBy w' u.ownBlock) (hne : ∀ k, v.ownBlock = some k → u.ownBlock ≠ some k) : Owns w' base v zs := by
  refine World.ownsRow.kept h hg ?_
  cases hk : v.ownBlock with
  | none => exact .inl rfl
  | some k => exact .inr (fun e => hne k hk e.symm)

/-- Its block lies before b. -/
def Before (v : Value) (b : Nat) : Prop := ∀ k, v.ownBlock = some k → k < b

/-- Its block lies from b on. -/
def From (v : Value) (b : Nat) : Prop := ∀ k, v.ownBlock = some k → b ≤ k

theorem Owns.before {w : World} {base : Nat} {v : Value} {zs : List Int} (h : Owns w base v zs) : Before v w.heap.size := fun k hk => (h.lt k hk).2

theorem Owns.from {w : World} {base : Nat} {v : Value} {zs : List Int} (h : Owns w base v zs) : From v base := fun k hk => (h.lt k hk).1

theorem Before.le {v : Value} {b c : Nat} (h : Before v b) (hc : b ≤ c) : Before v c := fun k hk => Nat.lt_of_lt_of_le (h k hk) hc

theorem From.le {v : Value} {b c : Nat} (h : From v b) (hc : c ≤ b) : From v c := fun k hk => Nat.le_trans hc (h k hk)

theorem apart {v u : Value} {b : Nat} (h : Before v b) (g : From u b) : ∀ k, v.ownBlock = some k → u.ownBlock ≠ some k := fun k hk e => by have := h k hk; have := g k e; omega

theorem apart' {v u : Value} {b : Nat} (h : Before v b) (g : From u b) : ∀ k, u.ownBlock = some k → v.ownBlock ≠ some k := fun k hk e => by have := h k e; have := g k hk; omega

theorem below_mark {w0 w w' : World} {B : Nat} {v : Value} (h : Below B w0 w) (hg : w.grownBy w' v.ownBlock) (hB : B ≤ w.heap.size) (hf : From v B) : Below B w0 w' := h.grown hg hB (fun k hk => hf k hk)

/-- What is left of a slice of the call's own once its value is opened. -/
theorem Owns.open {w : World} {base : Nat} {v : Value} {zs : List Int} (hz : isBytes zs) (h : Owns w base v zs) : ∃ a cap, v = .slice a zs.length cap ∧ zs.length ≤ cap ∧ cap ≤ maxLen ∧ Reads w a zs := by
  obtain ⟨a, cap, rfl, h1, h2⟩ := h.shape
  exact ⟨a, cap, rfl, h1, h2, (h.reads hz).2⟩

theorem toByteS_v (a : Option Addr) (zs : List Int) (len cap : Nat) (w : World) (h : Reads w a zs) (hlen : len = zs.length) (hl : zs.length ≤ 2097152) :
    Calls Tryd.prog 22 #[.slice a len cap] w fun e w' => ∃ v, e = .returned v ∧ Owns w' w.heap.size v zs ∧ Below w.heap.size w w' := by
  subst hlen
  exact (toByteS_any a zs cap w h hl).mono fun e w' ⟨he, ho, hb, _⟩ => ⟨_, he, ho, hb⟩

theorem eqByteS_v (v u : Value) (xs ys : List Int) (bv bu : Nat) (w : World) (hx : Owns w bv v xs) (hy : Owns w bu u ys) (bx : isBytes xs) (hb : isBytes ys) (hl : xs.length ≤ 2097152) (hm : ys.length ≤ 2097152) :
    Calls Tryd.prog 24 #[v, u] w fun e w' => e = .returned (.bool (xs == ys)) ∧ ∃ n, w' = w.drewN n := by
  obtain ⟨a, ca, rfl, _, _, ra⟩ := hx.open bx
  obtain ⟨b, cb, rfl, _, _, rb⟩ := hy.open hb
  exact eqByteS_any a b xs ys ca cb w ra rb hl hm

theorem same_v (v u : Value) (xs : List Int) (bv bu : Nat) (w : World) (hx : Owns w bv v xs) (hy : Owns w bu u xs) (bx : isBytes xs) (hl : xs.length ≤ 2097152) :
    Calls Tryd.prog 24 #[v, u] w fun e w' => e = .returned (.bool true) ∧ Below w.heap.size w w' :=
  (eqByteS_v v u xs xs bv bu w hx hy bx bx hl hl).mono fun e w' ⟨he, n, h⟩ => ⟨by rw [he, beq_self_eq_true], by rw [h]; exact below_drewN2 (Below.refl _ _) n⟩

theorem mark_v (v : Value) (zs : List Int) (k : Int) (base : Nat) (w : World) (h : Owns w base v zs) (hl : zs.length ≤ 2097152) (h0 : 0 ≤ k) (hk : k ≤ 1099511627776) :
    Calls Tryd.prog 26 #[v, .int .i64 k] w fun e w' => e = .returned (.int .i64 (k + (zs.length : Int))) ∧ Owns w' base v (marks zs.length k.toNat) ∧ w.grownBy w' v.ownBlock := by
  obtain ⟨q, rfl⟩ : ∃ q : Nat, k = (q : Int) := ⟨k.toNat, by omega⟩
  exact (mark_any v zs q base w h hl (by omega)).mono fun e w' ⟨he, ho, hg⟩ => ⟨by rw [he]; simp, ho, hg⟩

theorem held_v (v : Value) (n : Nat) (k : Int) (base : Nat) (w : World) (h : Owns w base v (marks n k.toNat)) (hl : n ≤ 2097152) (h0 : 0 ≤ k) (hk : k ≤ 1099511627776) :
    Calls Tryd.prog 66 #[v, .int .i64 k] w fun e w' => e = .returned (.int .i64 (k + (n : Int))) ∧ Below w.heap.size w w' := by
  obtain ⟨q, rfl⟩ : ∃ q : Nat, k = (q : Int) := ⟨k.toNat, by omega⟩
  obtain ⟨a, ca, rfl, _, _, ra⟩ := h.open (marks_isBytes _ _)
  rw [marks_length]
  exact (held_any a n q ca w ra hl (by omega)).mono fun e w' ⟨he, hw⟩ => ⟨by rw [he]; simp, by rw [hw]; exact Below.refl _ _⟩
end Go.Proofs.YtjhaanenkeceiaaDoor
