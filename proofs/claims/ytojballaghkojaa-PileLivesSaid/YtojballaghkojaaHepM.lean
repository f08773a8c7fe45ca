/- Mathematics of a heap in a row (layer 7): what stands at i is no less than what stands at (i - 1) / 2. No program is spoken of here. -/
import Derived.Test.YtojballaghkojaaPilM
namespace Go.Proofs.Ytojballaghkojaa.Hep
open Pil (It lt)

def le (a b : It) : Prop := a.2 < b.2 ∨ a.2 = b.2 ∧ a.1 ≤ b.1
theorem le_refl (a : It) : le a a := .inr ⟨rfl, Int.le_refl _⟩
theorem le_trans {a b c : It} (h : le a b) (k : le b c) : le a c := by unfold le at *; omega
theorem le_of_lt {a b : It} (h : lt a b) : le a b := by unfold le; unfold lt at h; omega
theorem le_of_not {a b : It} (h : ¬ lt a b) : le b a := by unfold le; unfold lt at h; omega
theorem not_lt_of_le {a b : It} (h : le a b) : ¬ lt b a := by unfold le at h; unfold lt; omega
theorem eq_or_lt {a b : It} (h : le a b) : b = a ∨ lt a b := by
  obtain ⟨a1, a2⟩ := a
  obtain ⟨b1, b2⟩ := b
  unfold le at h
  unfold lt
  simp only at *
  by_cases e : a1 = b1 ∧ a2 = b2
  · left; rw [e.1, e.2]
  · right; omega
/-- what stands at a place -/
def g (l : List It) (i : Nat) : It := l.getD i (0, 0)
theorem g_eq {l : List It} {i : Nat} (h : i < l.length) : l[i]? = some (g l i) := by unfold g; rw [List.getD_eq_getElem?_getD, List.getElem?_eq_getElem h]; rfl
theorem g_of {l : List It} {i : Nat} {x : It} (h : l[i]? = some x) : g l i = x := by unfold g; rw [List.getD_eq_getElem?_getD, h]; rfl
theorem g_set (l : List It) (i : Nat) (x : It) (hi : i < l.length) (j : Nat) : g (l.set i x) j = if j = i then x else g l j := by
  unfold g
  rw [List.getD_eq_getElem?_getD, List.getD_eq_getElem?_getD, List.getElem?_set]
  by_cases h : i = j
  · subst h; rw [if_pos rfl, if_pos hi, if_pos rfl]; rfl
  · rw [if_neg h, if_neg (Ne.symm h)]
def sw (l : List It) (i j : Nat) : List It := (l.set i (g l j)).set j (g l i)
theorem sw_len (l : List It) (i j : Nat) : (sw l i j).length = l.length := by unfold sw; rw [List.length_set, List.length_set]
theorem g_sw {l : List It} {i j : Nat} (hi : i < l.length) (hj : j < l.length) (k : Nat) : g (sw l i j) k = if k = j then g l i else if k = i then g l j else g l k := by
  unfold sw
  rw [g_set _ _ _ (by rw [List.length_set]; exact hj)]
  by_cases h : k = j
  · rw [if_pos h, if_pos h]
  · rw [if_neg h, if_neg h, g_set _ _ _ hi]
theorem ext_g {a b : List It} (hl : a.length = b.length) (h : ∀ i, i < a.length → g a i = g b i) : a = b := by
  apply List.ext_getElem? fun i => ?_
  by_cases hi : i < a.length
  · rw [g_eq hi, g_eq (hl ▸ hi), h i hi]
  · rw [List.getElem?_eq_none (by omega), List.getElem?_eq_none (by omega)]
theorem set_perm {l : List It} {i : Nat} (hi : i < l.length) (x : It) : (g l i :: l.set i x).Perm (x :: l) := by
  induction l generalizing i with
  | nil => simp at hi
  | cons y r ih =>
    cases i with
    | zero => exact .swap x y r
    | succ i =>
      have h := ih (i := i) (by simpa using hi)
      show (g r i :: y :: r.set i x).Perm (x :: y :: r)
      exact ((List.Perm.swap y _ _).trans (h.cons y)).trans (.swap x y r)
theorem sw_perm {l : List It} {i j : Nat} (hi : i < l.length) (hj : j < l.length) : (sw l i j).Perm l := by
  unfold sw
  have h1 := set_perm (l := l.set i (g l j)) (i := j) (by rw [List.length_set]; exact hj) (g l i)
  have h2 := set_perm hi (g l j)
  have e : g (l.set i (g l j)) j = g l j := by rw [g_set _ _ _ hi]; split <;> simp_all
  rw [e] at h1
  exact (List.perm_cons (g l j)).1 (h1.trans h2)

/-- a heap -/
def Ok (l : List It) : Prop := ∀ i, i < l.length → 0 < i → le (g l ((i - 1) / 2)) (g l i)
/-- a heap, but for what stands at k and those around it -/
structure Ud (l : List It) (k : Nat) : Prop where
  rest : ∀ i, i < l.length → 0 < i → i ≠ k → (i - 1) / 2 ≠ k → le (g l ((i - 1) / 2)) (g l i)
  past : ∀ i, i < l.length → 0 < i → (i - 1) / 2 = k → 0 < k → le (g l ((k - 1) / 2)) (g l i)
/-- a heap, but for k, which may be less than what stands above -/
structure Up (l : List It) (k : Nat) : Prop where
  rest : ∀ i, i < l.length → 0 < i → i ≠ k → le (g l ((i - 1) / 2)) (g l i)
  past : ∀ i, i < l.length → 0 < i → (i - 1) / 2 = k → 0 < k → le (g l ((k - 1) / 2)) (g l i)
/-- a heap, but for k, which may be greater than what stands below -/
structure Dn (l : List It) (k : Nat) : Prop where
  rest : ∀ i, i < l.length → 0 < i → (i - 1) / 2 ≠ k → le (g l ((i - 1) / 2)) (g l i)
  past : ∀ i, i < l.length → 0 < i → (i - 1) / 2 = k → 0 < k → le (g l ((k - 1) / 2)) (g l i)
theorem Ok.nil : Ok [] := fun i h => by simp at h
theorem Ok.ud {l : List It} (h : Ok l) (k : Nat) (hk : k < l.length) : Ud l k :=
  ⟨fun i hi h0 _ _ => h i hi h0, fun i hi h0 hp hk0 => le_trans (h k hk hk0) (by have := h i hi h0; rwa [hp] at this)⟩
theorem Ok.dn {l : List It} (h : Ok l) (k : Nat) (hk : k < l.length) : Dn l k := ⟨fun i hi h0 _ => h i hi h0, (h.ud k hk).past⟩
/-- another thing at k -/
theorem Ud.set {l : List It} {k : Nat} (h : Ud l k) (hk : k < l.length) (x : It) : Ud (l.set k x) k := by
  refine ⟨fun i hi h0 h1 h2 => ?_, fun i hi h0 hp hk0 => ?_⟩
  · rw [List.length_set] at hi
    rw [g_set _ _ _ hk, g_set _ _ _ hk, if_neg h2, if_neg h1]
    exact h.rest i hi h0 h1 h2
  · rw [List.length_set] at hi
    rw [g_set _ _ _ hk, g_set _ _ _ hk, if_neg (by omega), if_neg (by omega)]
    exact h.past i hi h0 hp hk0
theorem Up.ud {l : List It} {k : Nat} (h : Up l k) : Ud l k := ⟨fun i hi h0 h1 _ => h.rest i hi h0 h1, h.past⟩
/-- one up -/
theorem Ud.up {l : List It} {k : Nat} (h : Ud l k) (hk : k < l.length) (h0 : 0 < k) (hl : lt (g l k) (g l ((k - 1) / 2))) : Up (sw l k ((k - 1) / 2)) ((k - 1) / 2) := by
  have hp : (k - 1) / 2 < l.length := by omega
  have hpk : (k - 1) / 2 ≠ k := by omega
  refine ⟨fun i hi i0 hne => ?_, fun i hi i0 hpar hp0 => ?_⟩
  · rw [sw_len] at hi
    rw [g_sw hk hp, g_sw hk hp, if_neg hne]
    by_cases hik : i = k
    · subst hik
      rw [if_pos rfl, if_pos rfl]
      exact le_of_lt hl
    · rw [if_neg hik]
      by_cases hq : (i - 1) / 2 = (k - 1) / 2
      · rw [if_pos hq]
        have := h.rest i hi i0 hik (by omega)
        rw [hq] at this
        exact le_trans (le_of_lt hl) this
      · rw [if_neg hq]
        by_cases hq2 : (i - 1) / 2 = k
        · rw [if_pos hq2]
          exact h.past i hi i0 hq2 h0
        · rw [if_neg hq2]
          exact h.rest i hi i0 hik hq2
  · rw [sw_len] at hi
    have hgp : le (g l (((k - 1) / 2 - 1) / 2)) (g l ((k - 1) / 2)) := h.rest _ hp hp0 hpk (by omega)
    rw [g_sw hk hp, g_sw hk hp, if_neg (by omega), if_neg (by omega), if_neg (by omega)]
    by_cases hik : i = k
    · rw [if_pos hik]; exact hgp
    · rw [if_neg hik]
      have := h.rest i hi i0 hik (by omega)
      rw [hpar] at this
      exact le_trans hgp this
theorem Up.ok {l : List It} {k : Nat} (h : Up l k) (hk : k = 0 ∨ ¬ lt (g l k) (g l ((k - 1) / 2))) : Ok l := by
  intro i hi i0
  by_cases hik : i = k
  · subst hik
    rcases hk with h | h
    · omega
    · exact le_of_not h
  · exact h.rest i hi i0 hik
theorem Ud.dn {l : List It} {k : Nat} (h : Ud l k) (hk : k = 0 ∨ ¬ lt (g l k) (g l ((k - 1) / 2))) : Dn l k := by
  refine ⟨fun i hi i0 hne => ?_, h.past⟩
  by_cases hik : i = k
  · subst hik
    rcases hk with h | h
    · omega
    · exact le_of_not h
  · exact h.rest i hi i0 hik hne
/-- one down: c is the lesser one below -/
theorem Dn.down {l : List It} {k c : Nat} (h : Dn l k) (hc : c < l.length) (h0 : 0 < c) (hp : (c - 1) / 2 = k) (hl : lt (g l c) (g l k)) (hmin : ∀ i, i < l.length → 0 < i → (i - 1) / 2 = k → le (g l c) (g l i)) : Dn (sw l c k) c := by
  have hk : k < l.length := by omega
  refine ⟨fun i hi i0 hne => ?_, fun i hi i0 hpar _ => ?_⟩
  · rw [sw_len] at hi
    rw [g_sw hc hk, g_sw hc hk]
    by_cases hik : i = k
    · subst hik
      rw [if_pos rfl, if_neg (by omega), if_neg (by omega)]
      exact h.past c hc h0 hp i0
    · rw [if_neg hik]
      by_cases hic : i = c
      · subst hic
        rw [if_pos rfl, if_pos hp]
        exact le_of_lt hl
      · rw [if_neg hic]
        by_cases hq : (i - 1) / 2 = k
        · rw [if_pos hq]
          exact hmin i hi i0 hq
        · rw [if_neg hq, if_neg hne]
          exact h.rest i hi i0 hq
  · rw [sw_len] at hi
    rw [g_sw hc hk, g_sw hc hk, if_pos hp, if_neg (by omega), if_neg (by omega)]
    have := h.rest i hi i0 (by omega)
    rwa [hpar] at this
theorem Dn.ok {l : List It} {k : Nat} (h : Dn l k) (hk : ∀ i, i < l.length → 0 < i → (i - 1) / 2 = k → ¬ lt (g l i) (g l k)) : Ok l := by
  intro i hi i0
  by_cases hq : (i - 1) / 2 = k
  · rw [hq]; exact le_of_not (hk i hi i0 hq)
  · exact h.rest i hi i0 hq
/-- one more at the end -/
theorem Ok.push {l : List It} (h : Ok l) (x : It) : Up (l ++ [x]) l.length := by
  have hg : ∀ i, i < l.length → g (l ++ [x]) i = g l i := fun i hi => g_of (by rw [List.getElem?_append_left hi]; exact g_eq hi)
  refine ⟨fun i hi i0 hne => ?_, fun i hi i0 hp hk => ?_⟩
  · rw [List.length_append] at hi
    have hil : i < l.length := by simp at hi; omega
    rw [hg i hil, hg _ (by omega)]
    exact h i hil i0
  · rw [List.length_append] at hi
    simp at hi
    omega
/-- the last one in the place of i -/
theorem Ok.take {l : List It} (h : Ok l) (n : Nat) : Ok (l.take n) := by
  have hg : ∀ i, i < (l.take n).length → g (l.take n) i = g l i := fun i hi => g_of (by rw [List.getElem?_take]; rw [List.length_take] at hi; rw [if_pos (by omega)]; exact g_eq (by omega))
  intro i hi i0
  rw [hg i hi, hg _ (by omega)]
  rw [List.length_take] at hi
  exact h i (by omega) i0
theorem Ok.least {l : List It} (h : Ok l) : ∀ i, i < l.length → le (g l 0) (g l i) := by
  intro i
  induction i using Nat.strongRecOn with
  | _ i ih =>
    intro hi
    by_cases h0 : i = 0
    · subst h0; exact le_refl _
    · exact le_trans (ih ((i - 1) / 2) (by omega) (by omega)) (h i hi (by omega))
theorem Ok.top {l : List It} (h : Ok l) (hl : l ≠ []) : Pil.topAt l 0 := by
  have h0 : 0 < l.length := List.length_pos_iff.2 hl
  refine ⟨g l 0, g_eq h0, fun y hy => ?_⟩
  obtain ⟨i, hi, e⟩ := List.mem_iff_getElem.1 hy
  have := h.least i hi
  rw [g_of (List.getElem?_eq_getElem hi), e] at this
  exact eq_or_lt this
theorem sw_take {l : List It} {i : Nat} (hi : i < l.length - 1) : (sw l i (l.length - 1)).take (l.length - 1) = (l.take (l.length - 1)).set i (g l (l.length - 1)) := by
  have hl : 0 < l.length := by omega
  refine ext_g (by simp [sw_len]) fun j hj => ?_
  rw [List.length_take, sw_len] at hj
  have hj' : j < l.length - 1 := by omega
  have e1 : g ((sw l i (l.length - 1)).take (l.length - 1)) j = g (sw l i (l.length - 1)) j := g_of (by rw [List.getElem?_take, if_pos hj']; exact g_eq (by rw [sw_len]; omega))
  rw [e1, g_sw (by omega) (by omega), if_neg (by omega), g_set _ _ _ (by rw [List.length_take]; omega)]
  by_cases h : j = i
  · rw [if_pos h, if_pos h]
  · rw [if_neg h, if_neg h]
    symm
    exact g_of (by rw [List.getElem?_take, if_pos hj']; exact g_eq (by omega))
theorem Dn.ud {l : List It} {k : Nat} (h : Dn l k) : Ud l k := ⟨fun i hi h0 _ h2 => h.rest i hi h0 h2, h.past⟩
/-- one down, whatever stands above: c is the lesser one below -/
theorem Ud.down {l : List It} {k c : Nat} (h : Ud l k) (hc : c < l.length) (h0 : 0 < c) (hp : (c - 1) / 2 = k) (hl : lt (g l c) (g l k)) (hmin : ∀ i, i < l.length → 0 < i → (i - 1) / 2 = k → le (g l c) (g l i)) : Dn (sw l k c) c := by
  have hk : k < l.length := by omega
  refine ⟨fun i hi i0 hne => ?_, fun i hi i0 hpar _ => ?_⟩
  · rw [sw_len] at hi
    rw [g_sw hk hc, g_sw hk hc]
    by_cases hik : i = k
    · subst hik
      rw [if_neg (by omega), if_neg (by omega), if_neg (by omega), if_pos rfl]
      exact h.past c hc h0 hp i0
    · rw [if_neg hne]
      by_cases hic : i = c
      · subst hic
        rw [if_pos hp, if_pos rfl]
        exact le_of_lt hl
      · rw [if_neg hic, if_neg hik]
        by_cases hq : (i - 1) / 2 = k
        · rw [if_pos hq]
          exact hmin i hi i0 hq
        · rw [if_neg hq]
          exact h.rest i hi i0 hik hq
  · rw [sw_len] at hi
    rw [g_sw hk hc, g_sw hk hc, if_neg (by omega), if_pos hp, if_neg (by omega), if_neg (by omega)]
    have := h.rest i hi i0 (by omega) (by omega)
    rwa [hpar] at this
/-- none below is less -/
theorem Ud.stay {l : List It} {k : Nat} (h : Ud l k) (hk : ∀ i, i < l.length → 0 < i → (i - 1) / 2 = k → ¬ lt (g l i) (g l k)) : Up l k := by
  refine ⟨fun i hi i0 hne => ?_, h.past⟩
  by_cases hq : (i - 1) / 2 = k
  · rw [hq]; exact le_of_not (hk i hi i0 hq)
  · exact h.rest i hi i0 hne hq
theorem g_app {t : List It} (r : List It) {i : Nat} (hi : i < t.length) : g (t ++ r) i = g t i := g_of (by rw [List.getElem?_append_left hi]; exact g_eq hi)
theorem sw_app {t : List It} (r : List It) {i j : Nat} (hi : i < t.length) (hj : j < t.length) : sw (t ++ r) i j = sw t i j ++ r := by
  unfold sw
  rw [g_app r hi, g_app r hj, List.set_append_left _ _ hi, List.set_append_left _ _ (by rw [List.length_set]; exact hj)]
theorem sw_comm {l : List It} {i j : Nat} (hi : i < l.length) (hj : j < l.length) : sw l i j = sw l j i := by
  refine ext_g (by rw [sw_len, sw_len]) fun k _ => ?_
  rw [g_sw hi hj, g_sw hj hi]
  by_cases h1 : k = j
  · rw [if_pos h1]
    by_cases h2 : k = i
    · rw [if_pos h2, ← h1, ← h2]
    · rw [if_neg h2, if_pos h1]
  · rw [if_neg h1]
    by_cases h2 : k = i
    · rw [if_pos h2, if_pos h2]
    · rw [if_neg h2, if_neg h2, if_neg h1]
theorem lt_app {t : List It} (r : List It) {i : Nat} (hi : i < t.length) : i < (t ++ r).length := by rw [List.length_append]; omega
theorem snoc {m : List It} {n : Nat} (h : m.length = n + 1) : m = m.take n ++ [g m n] := by
  have e : m.drop n = [g m n] := by
    rw [List.drop_eq_getElem_cons (by omega), List.drop_eq_nil_of_le (by omega), g_of (List.getElem?_eq_getElem (by omega))]
  rw [← e, List.take_append_drop]
/-- the last one in the place of i, and i's at the end -/
def lst (l : List It) (i : Nat) : List It := (sw l i (l.length - 1)).take (l.length - 1)
theorem lst_len {l : List It} {i : Nat} : (lst l i).length = l.length - 1 := by unfold lst; rw [List.length_take, sw_len]; omega
theorem sw_last {l : List It} {i : Nat} (hi : i < l.length) : sw l i (l.length - 1) = lst l i ++ [g l i] := by
  have h := snoc (m := sw l i (l.length - 1)) (n := l.length - 1) (by rw [sw_len]; omega)
  rw [g_sw hi (by omega), if_pos rfl] at h
  exact h
theorem lst_perm {l : List It} {i : Nat} (hi : i < l.length) : (g l i :: lst l i).Perm l :=
  ((List.perm_append_singleton _ _).symm.trans (by rw [← sw_last hi])).trans (sw_perm hi (by omega))
theorem Ok.lst {l : List It} (h : Ok l) {i : Nat} (hi : i < l.length) : Ud (lst l i) i := by
  by_cases e : i < l.length - 1
  · unfold Hep.lst
    rw [sw_take e]
    exact ((h.take _).ud i (by rw [List.length_take]; omega)).set (by rw [List.length_take]; omega) _
  · have e2 : i = l.length - 1 := by omega
    have hs : sw l i (l.length - 1) = l := by
      refine ext_g (sw_len ..) fun j _ => ?_
      rw [g_sw hi (by omega), ← e2]
      split
      · rename_i e; rw [e]
      · rfl
    unfold Hep.lst
    rw [hs]
    refine ⟨fun j hj j0 _ _ => (h.take _) j hj j0, fun j hj j0 hp hk => ?_⟩
    rw [List.length_take] at hj
    omega
theorem lst_end {l : List It} (h : l ≠ []) : Hep.lst l (l.length - 1) ++ [g l (l.length - 1)] = l := by
  have h0 : 0 < l.length := List.length_pos_iff.2 h
  rw [← sw_last (by omega)]
  refine ext_g (sw_len ..) fun j _ => ?_
  rw [g_sw (by omega) (by omega)]
  split
  · rename_i e; rw [e]
  · rfl
theorem Ok.pre {l t : List It} {x : It} (h : Ok l) (e : t ++ [x] = l) : Ok t := by
  have := h.take t.length
  rw [← e, List.take_left] at this
  exact this
theorem Ok.lst_end {l : List It} (h : Ok l) (hl : l ≠ []) : Ok (Hep.lst l (l.length - 1)) := h.pre (Hep.lst_end hl)
end Go.Proofs.Ytojballaghkojaa.Hep
