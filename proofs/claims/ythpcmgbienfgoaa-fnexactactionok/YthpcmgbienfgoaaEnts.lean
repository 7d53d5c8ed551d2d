/- Entries, nodes, trees and operations as data; no condition. -/
import Derived.Test.YthpcmgbienfgoaaHands
namespace Go.Proofs.Ythpcmgbienfgoaa
open Go.RowKit
set_option linter.unusedVariables false

structure En where
  nm : List Int
  h : Hd
structure Nd where
  h : Hd
  par : Hd
  links : Int
  val : Int
  es : List En
structure OpD where
  kind : Int
  dir : Hd
  nm : List Int
  to : Hd
  asn : List Int
  val : Int

def hd0 : Hd := (0, 0, false)
def en0 : En := ⟨[], hd0⟩
def nd0 : Nd := ⟨hd0, hd0, 0, 0, []⟩
def enCell (e : En) : Nat → Dt
  | 0 => .bytes e.nm
  | 1 => .int e.h.sh
  | 2 => .int e.h.ino
  | _ => .bool e.h.dir
/-- An entry's value, its name's bytes at nm. -/
abbrev enV (nm : Value) (h : Hd) : Value := .agg #[nm, .int .i64 h.sh, .int .i64 h.ino, .bool h.dir]
/-- A node's value, its entries at es. -/
abbrev ndV (n : Nd) (es : Value) : Value := .agg #[.int .i64 n.h.sh, .int .i64 n.h.ino, .bool n.h.dir, .int .i64 n.par.sh, .int .i64 n.par.ino, .bool n.par.dir, .int .i64 n.links, .int .i64 n.val, es]
/-- An operation's value, its texts at x, y. -/
abbrev opV (o : OpD) (x y : Value) : Value := .agg #[.int .i64 o.kind, .int .i64 o.dir.sh, .int .i64 o.dir.ino, .bool o.dir.dir, x, .int .i64 o.to.sh, .int .i64 o.to.ino, .bool o.to.dir, y, .int .i64 o.val]

/-- How much there is of it. -/
def szEns (l : List En) : Nat := l.length + (l.map (fun e => e.nm.length)).sum
def szNds (l : List Nd) : Nat := l.length + (l.map (fun n => szEns n.es)).sum
theorem sum_at {α : Type} (f : α → Nat) : ∀ (l : List α) (i : Nat) (a : α), l[i]? = some a → f a ≤ (l.map f).sum
  | [], i, a, h => by simp at h
  | x :: r, 0, a, h => by simp at h; subst h; simp
  | x :: r, i + 1, a, h => by
    have := sum_at f r i a (by simpa using h)
    simp; omega
theorem szEns_at (l : List En) (i : Nat) : (l[i]?.getD en0).nm.length ≤ szEns l := by
  cases h : l[i]? with
  | none => simp [en0]
  | some a => have := sum_at (fun e : En => e.nm.length) l i a h; simp [szEns]; omega
theorem szNds_at (l : List Nd) (i : Nat) : szEns (l[i]?.getD nd0).es ≤ szNds l := by
  cases h : l[i]? with
  | none => simp [nd0, szEns]
  | some a => have := sum_at (fun n : Nd => szEns n.es) l i a h; simp [szNds]; omega
end Go.Proofs.Ythpcmgbienfgoaa
