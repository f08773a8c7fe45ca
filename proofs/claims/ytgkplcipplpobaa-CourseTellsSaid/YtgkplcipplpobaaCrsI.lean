/- Rows of rows of the call's own (layer 14); all loads of a way, as a list. -/
import Derived.Test.YtgkplcipplpobaaCrsH
import Derived.Test.YtgkplcipplpobaaCrsG
namespace Go.Proofs.Ytgkplcipplpobaa
open Go.RowKit
open Whn (Gr Wh)

theorem Try.info_row14 : (Try.prog.info? 29).map (fun i => (i.zero, i.size, i.bytes)) = some (some (.slice none 0 0), 1, 24) := by kernel_rfl
/-- a row of numbers in a block of numbers -/
def IntRow (w : World) (A : Option Addr) (l : List Int) : Prop := l ≠ [] → ∃ ad cs, A = some ad ∧ w.heap[ad.block]? = some (.cells cs 3) ∧ ∀ j v, (l.map (Value.int .i64))[j]? = some v → w.cell? (ad.add j) = some v
theorem IntRow.its {w : World} {A : Option Addr} {l : List Int} (h : IntRow w A l) : Its w w.heap.size A l := fun hn => by
  obtain ⟨ad, cs, e, hb, hc⟩ := h (fun e => hn (by rw [e]; rfl))
  exact ⟨ad, e, (Array.getElem?_eq_some_iff.1 hb).1, hc⟩
theorem IntRow.grown {w w' : World} {row : Option Nat} {A : Option Addr} {l : List Int} (h : IntRow w A l) (hg : w.grownBy w' row) (hr : ∀ k, row = some k → ∃ cs, w.heap[k]? = some (.cells cs 29)) : IntRow w' A l := fun hn => by
  obtain ⟨ad, cs, e, hb, hc⟩ := h hn
  have hne : some ad.block ≠ row := fun e2 => by
    obtain ⟨cs2, h2⟩ := hr _ e2.symm
    rw [hb] at h2
    simp at h2
  exact ⟨ad, cs, e, (hg.block _ (Array.getElem?_eq_some_iff.1 hb).1 hne).trans hb, fun j v hv => hg.cell (hc j v hv) (by rw [add_block]; exact hne)⟩
theorem IntRow.next {w w' : World} {A : Option Addr} {l : List Int} (h : IntRow w A l) (hb : Below w.heap.size w w') : IntRow w' A l := fun hn => by
  obtain ⟨ad, cs, e, hh, hc⟩ := h hn
  have hlt := (Array.getElem?_eq_some_iff.1 hh).1
  exact ⟨ad, cs, e, (hb.block _ hlt).trans hh, fun j v hv => (hb.cell (by rw [add_block]; exact hlt)).trans (hc j v hv)⟩
theorem IntRow.of_own {w : World} {base n : Nat} {v : Value} {l : List Int} (h : w.ownsRow base 3 1 v n (l.map (Value.int .i64))) : ∃ A c, v = .slice A l.length c ∧ IntRow w A l ∧ l.length ≤ c := by
  have hn : l.length = n := by have := h.1; rw [List.length_map, Nat.mul_one] at this; exact this
  subst hn
  rcases h.2 with ⟨rfl, h0⟩ | ⟨g, cap, cur, rfl, hb, hg, hl, hm, hs, ht⟩
  · refine ⟨none, 0, by rw [h0], fun hn => absurd (List.eq_nil_of_length_eq_zero h0) hn, by omega⟩
  · exact ⟨_, _, rfl, fun _ => ⟨_, cur, rfl, hg, h.cells rfl⟩, hl⟩
/-- a row of such rows, in a block of rows -/
def RRow (w : World) (A : Option Addr) (ls : List (List Int)) : Prop := ls ≠ [] → ∃ ad cs, A = some ad ∧ w.heap[ad.block]? = some (.cells cs 29) ∧ ∀ (k : Nat) (l : List Int), ls[k]? = some l → ∃ Ak ck, w.cell? (ad.add k) = some (.slice Ak l.length ck) ∧ l.length ≤ ck ∧ IntRow w Ak l
theorem RRow.rows2 {w : World} {A : Option Addr} {ls : List (List Int)} (h : RRow w A ls) : Rows2 w w.heap.size A ls := fun hn => by
  obtain ⟨ad, cs, e, hb, hc⟩ := h hn
  refine ⟨ad, e, (Array.getElem?_eq_some_iff.1 hb).1, fun k l hl => ?_⟩
  obtain ⟨Ak, ck, h1, h2, h3⟩ := hc k l hl
  exact ⟨Ak, ck, h1, h3.its, h2⟩
theorem RRow.next {w w' : World} {A : Option Addr} {ls : List (List Int)} (h : RRow w A ls) (hb : Below w.heap.size w w') : RRow w' A ls := fun hn => by
  obtain ⟨ad, cs, e, hh, hc⟩ := h hn
  have hlt := (Array.getElem?_eq_some_iff.1 hh).1
  refine ⟨ad, cs, e, (hb.block _ hlt).trans hh, fun k l hl => ?_⟩
  obtain ⟨Ak, ck, h1, h2, h3⟩ := hc k l hl
  exact ⟨Ak, ck, (hb.cell (by rw [add_block]; exact hlt)).trans h1, h2, h3.next hb⟩
theorem RRow.grown {w w' : World} {row : Option Nat} {A : Option Addr} {ls : List (List Int)} (h : RRow w A ls) (hg : w.grownBy w' row) (hr : ∀ k, row = some k → ∃ cs, w.heap[k]? = some (.cells cs 29)) (hne : ∀ ad, A = some ad → some ad.block ≠ row) : RRow w' A ls := fun hn => by
  obtain ⟨ad, cs, e, hh, hc⟩ := h hn
  have hlt := (Array.getElem?_eq_some_iff.1 hh).1
  refine ⟨ad, cs, e, (hg.block _ hlt (hne ad e)).trans hh, fun k l hl => ?_⟩
  obtain ⟨Ak, ck, h1, h2, h3⟩ := hc k l hl
  exact ⟨Ak, ck, hg.cell h1 (by rw [add_block]; exact hne ad e), h2, h3.grown hg hr⟩
theorem RRow.get {w : World} {A : Option Addr} {ls : List (List Int)} (h : RRow w A ls) {k : Nat} (hk : k < ls.length) : ∃ ad Ak ck l, A = some ad ∧ ad.block < w.heap.size ∧ Hid (ls[k]? = some l) ∧ l ∈ ls ∧ w.cell? (ad.add k) = some (.slice Ak l.length ck) ∧ IntRow w Ak l ∧ l.length ≤ ck := by
  obtain ⟨ad, cs, e, hh, hc⟩ := h (by intro e; subst e; simp at hk)
  obtain ⟨Ak, ck, h1, h2, h3⟩ := hc k _ (List.getElem?_eq_getElem hk)
  exact ⟨ad, Ak, ck, _, e, (Array.getElem?_eq_some_iff.1 hh).1, List.getElem?_eq_getElem hk, List.getElem_mem hk, h1, h3, h2⟩
/-- .. of the call's own -/
def OwR (w : World) (base : Nat) (v : Value) (ls : List (List Int)) : Prop := ∃ vals, w.ownsRow base 29 1 v ls.length vals ∧ ∀ (k : Nat) (l : List Int), ls[k]? = some l → ∃ Ak ck, vals[k]? = some (Value.slice Ak l.length ck) ∧ l.length ≤ ck ∧ IntRow w Ak l
theorem OwR.next {w w' : World} {base : Nat} {v : Value} {ls : List (List Int)} (h : OwR w base v ls) (hb : Below w.heap.size w w') : OwR w' base v ls := by
  obtain ⟨vals, ho, hc⟩ := h
  refine ⟨vals, own_below ho hb, fun k l hl => ?_⟩
  obtain ⟨Ak, ck, h1, h2, h3⟩ := hc k l hl
  exact ⟨Ak, ck, h1, h2, h3.next hb⟩
theorem OwR.rrow {w : World} {base : Nat} {v : Value} {ls : List (List Int)} (h : OwR w base v ls) : ∃ A c, v = .slice A ls.length c ∧ RRow w A ls ∧ ls.length ≤ c ∧ ∀ ad, A = some ad → some ad.block = v.ownBlock := by
  obtain ⟨vals, ho, hc⟩ := h
  rcases ho.2 with ⟨rfl, h0⟩ | ⟨g, cap, cur, rfl, hb, hg, hl, hm, hs, ht⟩
  · exact ⟨none, 0, by rw [h0], fun hn => absurd (List.eq_nil_of_length_eq_zero h0) hn, by omega, fun _ h => by cases h⟩
  · refine ⟨_, _, rfl, fun _ => ⟨_, cur, rfl, hg, fun k l hl => ?_⟩, hl, fun ad e => by rw [← Option.some.inj e]; rfl⟩
    obtain ⟨Ak, ck, h1, h2, h3⟩ := hc k l hl
    exact ⟨Ak, ck, ho.cells rfl k _ h1, h2, h3⟩
theorem OwR.typ {w : World} {base : Nat} {e : TypeId} {v : Value} {n : Nat} {vals : List Value} (h : w.ownsRow base e 1 v n vals) : ∀ k, v.ownBlock = some k → ∃ cs, w.heap[k]? = some (.cells cs e) := fun k hk => by
  rcases h.2 with ⟨rfl, _⟩ | ⟨g, cap, cur, rfl, hb, hg, _⟩
  · cases hk
  · injection hk with hk
    subst hk
    exact ⟨cur, hg⟩
/-- behind an append of one row -/
theorem OwR.push {w w' : World} {base : Nat} {v v' : Value} {ls : List (List Int)} {vals : List Value} {B : Option Addr} {c : Nat} {r : List Int} (ho : w.ownsRow base 29 1 v ls.length vals) (hc : ∀ (k : Nat) (l : List Int), ls[k]? = some l → ∃ Ak ck, vals[k]? = some (Value.slice Ak l.length ck) ∧ l.length ≤ ck ∧ IntRow w Ak l)
    (hr : IntRow w B r) (hrc : r.length ≤ c) (hg : w.grownBy w' v.ownBlock) (ho' : w'.ownsRow base 29 1 v' (ls.length + 1) (vals ++ [.slice B r.length c])) : OwR w' base v' (ls ++ [r]) := by
  have hvl : vals.length = ls.length := by have := ho.1; rwa [Nat.mul_one] at this
  refine ⟨_, by rw [List.length_append, List.length_singleton]; exact ho', fun k l hl => ?_⟩
  rcases Nat.lt_or_ge k ls.length with h | h
  · rw [List.getElem?_append_left h] at hl
    obtain ⟨Ak, ck, h1, h2, h3⟩ := hc k l hl
    exact ⟨Ak, ck, by rw [List.getElem?_append_left (by omega)]; exact h1, h2, h3.grown hg (OwR.typ ho)⟩
  · rw [List.getElem?_append_right h] at hl
    have hk : k = ls.length := by
      have := (List.getElem?_eq_some_iff.1 hl).1
      simp only [List.length_singleton] at this
      omega
    subst hk
    rw [Nat.sub_self] at hl
    injection hl with hl
    subst hl
    exact ⟨B, c, by rw [List.getElem?_append_right (by omega), hvl, Nat.sub_self]; rfl, hrc, hr.grown hg (OwR.typ ho)⟩
/-! ### all loads of a way -/
def addC (v : List Int) (r : List Int) : List (List Int) := v.map fun n => r ++ [n]
def allN (ls : List (List Int)) : Nat → List (List Int)
  | 0 => [[]]
  | k + 1 => (allN ls k).flatMap (addC (ls.getD k []))
/-- what stands in the next row behind i loads and n classes -/
def nxN (L : List (List Int)) (v : List Int) (i n : Nat) : List (List Int) := (L.take i).flatMap (addC v) ++ (addC v (L.getD i [])).take n
theorem nx_zero (L : List (List Int)) (v : List Int) : nxN L v 0 0 = [] := by simp [nxN]
theorem nx_next {L : List (List Int)} {v r : List Int} {i n : Nat} {y : Int} (hr : L[i]? = some r) (hy : v[n]? = some y) : nxN L v i (n + 1) = nxN L v i n ++ [r ++ [y]] := by
  unfold nxN addC
  rw [List.take_add_one, List.getElem?_map, hy, List.getD_eq_getElem?_getD, hr, ← List.append_assoc]
  rfl
theorem nx_row {L : List (List Int)} {v : List Int} {i : Nat} (hi : i < L.length) : nxN L v i v.length = nxN L v (i + 1) 0 := by
  unfold nxN
  have h1 : (addC v (L.getD i [])).take v.length = addC v (L.getD i []) := List.take_of_length_le (by unfold addC; rw [List.length_map]; exact Nat.le_refl _)
  rw [h1, List.take_zero, List.append_nil, List.take_add_one, List.getElem?_eq_getElem hi, List.getD_eq_getElem?_getD, List.getElem?_eq_getElem hi, List.flatMap_append]
  simp
theorem nx_end (L : List (List Int)) (v : List Int) : nxN L v L.length 0 = L.flatMap (addC v) := by simp [nxN]
theorem flatMap_len (v : List Int) : ∀ L : List (List Int), (L.flatMap (addC v)).length = L.length * v.length
  | [] => by simp
  | r :: L => by
    rw [List.flatMap_cons, List.length_append, flatMap_len v L, List.length_cons, Nat.add_mul]
    unfold addC
    rw [List.length_map]
    omega
theorem nx_len {L : List (List Int)} {v : List Int} {i n : Nat} (hL : L.length ≤ 4096) (hv : v.length ≤ 8) : (nxN L v i n).length ≤ 33000 := by
  unfold nxN
  rw [List.length_append, flatMap_len, List.length_take, List.length_take]
  have h1 : min i L.length * v.length ≤ 4096 * 8 := Nat.mul_le_mul (by omega) hv
  have h2 : (addC v (L.getD i [])).length = v.length := by unfold addC; rw [List.length_map]
  omega
theorem allN_len {ls : List (List Int)} (h : ∀ l ∈ ls, l.length ≤ 8) : ∀ k, (allN ls k).length ≤ 8 ^ k
  | 0 => by simp [allN]
  | k + 1 => by
    rw [allN, flatMap_len, Nat.pow_succ]
    refine Nat.mul_le_mul (allN_len h k) ?_
    rw [List.getD_eq_getElem?_getD]
    cases hk : ls[k]? with
    | none => exact Nat.zero_le _
    | some l => exact h l (List.mem_of_getElem? hk)
theorem allN_max {ls : List (List Int)} (h : ∀ l ∈ ls, l.length ≤ 8) {k : Nat} (hk : k ≤ 4) : (allN ls k).length ≤ 4096 :=
  Nat.le_trans (allN_len h k) (Nat.le_trans (Nat.pow_le_pow_right (by omega) hk) (by decide))
theorem allN_row {ls : List (List Int)} : ∀ {k : Nat} {r : List Int}, r ∈ allN ls k → r.length = k
  | 0, r, h => by
    rw [allN, List.mem_singleton] at h
    rw [h]; rfl
  | k + 1, r, h => by
    rw [allN, List.mem_flatMap] at h
    obtain ⟨q, hq, hr⟩ := h
    unfold addC at hr
    obtain ⟨n, _, rfl⟩ := List.mem_map.1 hr
    rw [List.length_append, allN_row hq, List.length_singleton]
end Go.Proofs.Ytgkplcipplpobaa
