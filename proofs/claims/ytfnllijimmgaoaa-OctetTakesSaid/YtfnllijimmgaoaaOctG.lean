/- What comes into the laws of layer 3: rows of bytes, rows of ints, parts of them. -/
import Derived.Test.YtfnllijimmgaoaaOctF
import Derived.OpenShut
import Derived.Deep.RegionLaw
import Derived.Deep.RegionHeld3
namespace Go.Proofs.Ytfnllijimmgaoaa
open Go.RowKit

/-! ### a region that draws, operation by operation -/
section
variable {P : Program} {ops : Array Oper} {Q : Exit → Act → World → Prop} {S : World → Prop} {md : Region.Mode}
theorem skipH (i d : Nat) {oi : Oper} {fuel : Nat} {listed : Array Bool} {a : Act} {w : World} (hi : ops[i]? = some oi) (hd : oi.dst = some d)
    (hs : Region.noSelect ops = true) (hf : Region.free md ops listed i = true) (hr : (Region.ready md ops listed).contains i = true)
    (hQ : ∀ c a w, Q (.panic c) (a.put (some d) undef) w → Q (.panic c) a w) (hw : Region.wanted oi (yielded ops a.tmps) = false) (hS : S w)
    (h : wpAnyH P md ops Q S fuel (listed.setIfInBounds i true) (a.put (some d) undef) w) : wpAnyH P md ops Q S (fuel + 1) listed a w :=
  wpAnyH_take hi hs hf hr (by rw [hd]; exact hQ) (.inr ⟨hw, rfl⟩) hS (by rw [hd]; exact h)
theorem takeH (i d : Nat) (v : Value) {oi : Oper} {fuel : Nat} {listed : Array Bool} {a : Act} {w : World} (hi : ops[i]? = some oi) (hd : oi.dst = some d)
    (hs : Region.noSelect ops = true) (hf : Region.free md ops listed i = true) (hr : (Region.ready md ops listed).contains i = true)
    (hQ : ∀ c a w, Q (.panic c) (a.put (some d) v) w → Q (.panic c) a w) (hw : Region.wanted oi (yielded ops a.tmps) = true) (he : ∀ w, S w → (execOp a.eval oi).run P w = .ok (.value v) w) (hS : S w)
    (h : wpAnyH P md ops Q S fuel (listed.setIfInBounds i true) (a.put (some d) v) w) : wpAnyH P md ops Q S (fuel + 1) listed a w :=
  wpAnyH_take hi hs hf hr (by rw [hd]; exact hQ) (.inl ⟨hw, he⟩) hS (by rw [hd]; exact h)
end

theorem Byt.pre {w : World} {B : Nat} {A : Option Addr} {l : List UInt8} (h : Byt w B A l) (k : Nat) : Byt w B A (l.take k) := fun hn => by
  have hne : l.map bcell ≠ [] := by intro e; apply hn; rw [List.map_take, e, List.take_nil]
  obtain ⟨ad, e, hb, hc⟩ := h hne
  refine ⟨ad, e, hb, fun j v hj => hc j v ?_⟩
  rw [List.map_take, List.getElem?_take] at hj
  split at hj
  · exact hj
  · cases hj

theorem open_byt {w : World} {a : Option Addr} {len cap : Nat} {zs : List Int} (h : (a = none ∧ len = 0 ∧ cap = 0 ∧ zs = []) ∨ ∃ x, a = some x ∧ len ≤ cap ∧ cap ≤ maxLen ∧ zs.length = cap ∧ (∀ i, i < zs.length → w.cell? (x.add i) = some (.int .u8 (zs.getD i 0))) ∧ ∀ n ∈ zs, (Lit.int .u8 n).wf = true) :
    ∃ l : List UInt8, l.length = len ∧ Byt w w.heap.size a l ∧ len ≤ cap ∧ cap ≤ maxLen := by
  rcases h with ⟨rfl, rfl, rfl, rfl⟩ | ⟨x, rfl, h1, h2, h3, h4, h5⟩
  · exact ⟨[], rfl, Rd.none_ _ _ _, Nat.le_refl _, Nat.zero_le _⟩
  · refine ⟨(zs.take len).map (fun n => UInt8.ofNat n.toNat), by rw [List.length_map, List.length_take]; omega, fun hne => ?_, h1, h2⟩
    have hp : 0 < zs.length := by
      rcases Nat.eq_zero_or_pos zs.length with h0 | h0
      · exact absurd (by rw [List.eq_nil_of_length_eq_zero h0, List.take_nil]; rfl) hne
      · exact h0
    refine ⟨x, rfl, ?_, fun k v hk => ?_⟩
    · have := World.block_lt_of_cell? _ _ (h4 0 hp)
      rwa [add_block] at this
    · rw [List.map_map, List.getElem?_map, List.getElem?_take] at hk
      split at hk
      · cases hz : zs[k]? with
        | none => rw [hz] at hk; cases hk
        | some n =>
          rw [hz] at hk
          injection hk with hk
          subst hk
          obtain ⟨hlt, hn⟩ := List.getElem?_eq_some_iff.1 hz
          have hb := bounds_u8 (h5 n (List.mem_iff_getElem?.2 ⟨k, hz⟩))
          rw [h4 k hlt, List.getD_eq_getElem?_getD, hz]
          show some (Value.int .u8 n) = some (Value.int .u8 ((UInt8.ofNat n.toNat).toNat : Int))
          rw [Oct.toNat_of _ (by omega), Int.toNat_of_nonneg hb.1]
      · cases hk
theorem open_its {w : World} {a : Option Addr} {len cap : Nat} {zs : List Int} (h : (a = none ∧ len = 0 ∧ cap = 0 ∧ zs = []) ∨ ∃ x, a = some x ∧ len ≤ cap ∧ cap ≤ maxLen ∧ zs.length = cap ∧ (∀ i, i < zs.length → w.cell? (x.add i) = some (.int .i64 (zs.getD i 0))) ∧ ∀ n ∈ zs, (Lit.int .i64 n).wf = true) :
    ∃ l : List Int, l.length = len ∧ Its w w.heap.size a l ∧ len ≤ cap ∧ cap ≤ maxLen ∧ ∀ i ∈ l, Oct.I64 i := by
  rcases h with ⟨rfl, rfl, rfl, rfl⟩ | ⟨x, rfl, h1, h2, h3, h4, h5⟩
  · exact ⟨[], rfl, Rd.none_ _ _ _, Nat.le_refl _, Nat.zero_le _, fun i hi => by cases hi⟩
  · refine ⟨zs.take len, by rw [List.length_take]; omega, fun hne => ?_, h1, h2, fun i hi => ?_⟩
    · have hp : 0 < zs.length := by
        rcases Nat.eq_zero_or_pos zs.length with h0 | h0
        · exact absurd (by rw [List.eq_nil_of_length_eq_zero h0, List.take_nil]; rfl) hne
        · exact h0
      refine ⟨x, rfl, ?_, fun k v hk => ?_⟩
      · have := World.block_lt_of_cell? _ _ (h4 0 hp)
        rwa [add_block] at this
      · rw [List.getElem?_map, List.getElem?_take] at hk
        split at hk
        · cases hz : zs[k]? with
          | none => rw [hz] at hk; cases hk
          | some n =>
            rw [hz] at hk
            injection hk with hk
            subst hk
            obtain ⟨hlt, hn⟩ := List.getElem?_eq_some_iff.1 hz
            rw [h4 k hlt, List.getD_eq_getElem?_getD, hz]
            rfl
        · cases hk
    · have := bounds_i64 (h5 i (List.mem_of_mem_take hi))
      unfold Oct.I64
      omega
end Go.Proofs.Ytfnllijimmgaoaa
