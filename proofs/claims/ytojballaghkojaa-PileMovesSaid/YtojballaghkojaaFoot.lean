/- Objects that are changed: what a call keeps that may write a set of blocks. No program's function is spoken of here. -/
import Derived.Test.YtojballaghkojaaRow
import Derived.RangeFuncNested
import Derived.RangeFuncBound
import Derived.RangeFuncCalls
import Derived.RangeFuncLeaves
import Derived.RangeFuncBox
import Derived.Shelf.Abstract
import Derived.OwnWalkIn
import Derived.TacticsInMore
import Derived.LoopNIn
import Derived.LoopIn
import Derived.Maps.AppendAt
namespace Go.Proofs.Ytojballaghkojaa
open Go.RowKit Go.Shelf

/-- whatever was there is as it was, but for the blocks of F -/
structure Kept (F : Nat → Prop) (w w' : World) : Prop where
  os : w'.os = w.os
  tape : w'.tape = w.tape
  output : w'.output = w.output
  size : w.heap.size ≤ w'.heap.size
  block : ∀ k, k < w.heap.size → ¬ F k → w'.heap[k]? = w.heap[k]?
theorem Kept.of {F : Nat → Prop} {w w' : World} (h : Below w.heap.size w w') : Kept F w w' := ⟨h.os, h.tape, h.output, h.size, fun k hk _ => h.block k hk⟩
theorem Kept.refl (F : Nat → Prop) (w : World) : Kept F w w := .of (Below.refl _ _)
theorem Kept.below {F : Nat → Prop} {w w' : World} {n₀ : Nat} (h : Kept F w w') (hF : ∀ k, F k → n₀ ≤ k) (hn : n₀ ≤ w.heap.size) : Below n₀ w w' := ⟨h.os, h.tape, h.output, h.size, fun k hk => h.block k (by omega) (fun hf => by have := hF k hf; omega)⟩
theorem Kept.trans {F F1 : Nat → Prop} {w w1 w2 : World} (h : Kept F w w1) (k : Kept F1 w1 w2) (hF : ∀ b, F1 b → F b ∨ w.heap.size ≤ b) : Kept F w w2 :=
  ⟨k.os.trans h.os, k.tape.trans h.tape, k.output.trans h.output, Nat.le_trans h.size k.size, fun b hb hf => (k.block b (Nat.lt_of_lt_of_le hb h.size) (fun hf1 => by rcases hF b hf1 with h1 | h1; exact hf h1; omega)).trans (h.block b hb hf)⟩
theorem Kept.more {F F1 : Nat → Prop} {w w1 : World} (h : Kept F w w1) (hF : ∀ b, F b → F1 b ∨ w.heap.size ≤ b) : Kept F1 w w1 :=
  ⟨h.os, h.tape, h.output, h.size, fun b hb hf => h.block b hb (fun hf1 => by rcases hF b hf1 with h1 | h1; exact hf h1; omega)⟩
/-- a row that is read stays, if its block is none of them -/
theorem Rd.kept {w w' : World} {B : Nat} {A : Option Addr} {vs : List Value} (h : Rd w B A vs) (hk : ∀ ad, A = some ad → w'.heap[ad.block]? = w.heap[ad.block]?) : Rd w' B A vs := fun hn => by
  obtain ⟨ad, e, hb, hc⟩ := h hn
  exact ⟨ad, e, hb, fun k v hv => (World.cell?_of_block (a := ad.add k) (by rw [add_block]; exact hk ad e)).trans (hc k v hv)⟩
def KpS (n₀ : Nat) (S : Nat → Prop) (W W' : World) : Prop := Below n₀ W W' ∧ ∀ b, S b → W'.heap[b]? = W.heap[b]?
theorem KpS.t {n₀ : Nat} {S : Nat → Prop} {A B C : World} (h : KpS n₀ S A B) (k : KpS n₀ S B C) : KpS n₀ S A C := ⟨h.1.trans k.1, fun b hb => (k.2 b hb).trans (h.2 b hb)⟩
theorem KpS.b {n₀ : Nat} {S : Nat → Prop} {w : World} (hn : n₀ ≤ w.heap.size) (hS : ∀ b, S b → b < w.heap.size) (W : World) (l : Nat) (o o' : Obj) (hl : w.heap.size ≤ l) (h : W.heap[l]? = some o) (h1 : o.isCells = false) (h2 : o.isWalk = false) : KpS n₀ S W (W.putObj l o') :=
  ⟨belowK_b hn W l o o' hl h h1 h2, fun b hb => World.putObj_heap_other (by have := hS b hb; omega)⟩
theorem KpS.refl (n₀ : Nat) (S : Nat → Prop) (W : World) : KpS n₀ S W W := ⟨Below.refl _ _, fun _ _ => rfl⟩
theorem bx_below {W W' : World} {B C : Nat} {t : TypeId} {v : Value} (h : Boxed W B t v) (hb : Below C W W') (hB : B < C) : Boxed W' B t v := (hb.block B hB).trans h
theorem run_equalIn_func_nil {P : Program} (w : World) (d : Nat) (t : TypeId) {a b : Array TypeId} {c : Bool} (h : P.underlying t = some (.func a b c)) (f : Fn) (x y : Array Value) : (Op.equalIn (d + 1) t (.func f x y) .nilFunc).run P w = .ok false w := by
  simp [Op.equalIn, run_underlying h]
theorem run_eql_func_nil {P : Program} (w : World) (t : TypeId) {a b : Array TypeId} {c : Bool} (h : P.underlying t = some (.func a b c)) (f : Fn) (x y : Array Value) : (binOp .eql t (.func f x y) .nilFunc).run P w = .ok (.bool false) w := by
  have h1 : (Op.equal t (.func f x y) .nilFunc).run P w = .ok false w := run_equalIn_func_nil w 9999 t h f x y
  simp only [binOp]
  simp [h1]
end Go.Proofs.Ytojballaghkojaa
