/- Mathematics of layer 10 (clock): texts of days and of times, and what is read of them. Nothing of a program is spoken of here. -/
import Derived.Test.YtfnjnkmdifigdaaDoorClkT
import Derived.Test.YtfnjnkmdifigdaaDoorWhnM
namespace Go.Proofs.YtfnjnkmdifigdaaDoor.Clk
open Whn (Gr Wh)

/-! ### days -/
def letters : List UInt8 := [109, 116, 119, 104, 102, 115, 117]
/-- the letters of the first k days -/
def dtk (d : Nat) : Nat → List UInt8
  | 0 => []
  | k + 1 => dtk d k ++ (if d.testBit k = true then [letters.getD k 0] else [])
def dt (d : Nat) : List UInt8 := dtk d 7
def pd (s : List UInt8) : Nat × Nat := match (List.range 128).find? fun d => decide (1 ≤ d) && (dt d == s) with
  | some d => (d, 0)
  | none => (0, 3)
theorem dt_inj : ∀ a, a < 128 → ∀ b, b < 128 → dt a = dt b → a = b := by decide +kernel
theorem dt_fine : ∀ a, a < 128 → (dt a).all (fun c => decide (97 ≤ c.toNat)) = true := by decide +kernel
theorem dt_none : ∀ a, a < 128 → dt a = [] → a = 0 := by decide +kernel
theorem dt_len (d : Nat) : (dt d).length ≤ 7 := by
  have : ∀ k, (dtk d k).length ≤ k := by
    intro k
    induction k with
    | zero => exact Nat.le_refl _
    | succ k ih =>
      rw [dtk, List.length_append]
      split <;> simp <;> omega
  exact this 7
theorem pd_dt {d : Nat} (h1 : 1 ≤ d) (h2 : d < 128) : pd (dt d) = (d, 0) := by
  unfold pd
  cases hf : (List.range 128).find? fun e => decide (1 ≤ e) && (dt e == dt d) with
  | none =>
    rw [List.find?_eq_none] at hf
    have := hf d (List.mem_range.2 h2)
    simp at this
    omega
  | some e =>
    have h3 := List.find?_some hf
    have h4 := List.mem_range.1 (List.mem_of_find?_eq_some hf)
    rw [Bool.and_eq_true, decide_eq_true_iff, beq_iff_eq] at h3
    rw [dt_inj e h4 d h2 h3.2]
theorem pd_back {s : List UInt8} (h : (pd s).2 = 0) : dt (pd s).1 = s ∧ 1 ≤ (pd s).1 ∧ (pd s).1 < 128 := by
  unfold pd at h ⊢
  cases hf : (List.range 128).find? fun e => decide (1 ≤ e) && (dt e == s) with
  | none => rw [hf] at h; cases h
  | some e =>
    have h3 := List.find?_some hf
    have h4 := List.mem_range.1 (List.mem_of_find?_eq_some hf)
    rw [Bool.and_eq_true, decide_eq_true_iff, beq_iff_eq] at h3
    exact ⟨h3.2, h3.1, h4⟩
theorem pd_err (s : List UInt8) : (pd s).2 = 0 ∨ pd s = (0, 3) := by
  unfold pd
  split
  · exact .inl rfl
  · exact .inr rfl
theorem pwk_err (s : List UInt8) : (pwk s).2 = 0 ∨ pwk s = (0, 3) ∨ pwk s = (0, 6) := by
  unfold pwk
  split
  · split
    · exact .inl rfl
    · exact .inr (.inr rfl)
  · exact .inr (.inl rfl)

/-! ### times -/
/-- a time's text -/
noncomputable def tt (x : Wh) : List UInt8 := wk x.w ++ 32 :: (dt x.d ++ 32 :: (Dig.wd x.s.toNat ++ 43 :: Dig.wd x.l.toNat))
noncomputable def pt (g : Gr) (x : Wh) : List UInt8 := if Whn.right g x = true then tt x else []
/-- what is read of a text -/
def pz (g : Gr) (s : List UInt8) : Wh × Nat :=
  if Whn.rgrid g = true then
    match Wrd.cut 32 s with
    | [a, b, c] => match Wrd.cut 43 c with
      | [p, q] =>
        if (pwk a).2 = 3 ∨ (pd b).2 = 3 ∨ (Dig.pw p).2 = 3 ∨ (Dig.pw q).2 = 3 then (Whn.zero, 3) else
        if (pwk a).2 = 0 ∧ (Dig.pw p).2 = 0 ∧ (Dig.pw q).2 = 0 ∧ Whn.right g ⟨(pwk a).1, (pd b).1, ((Dig.pw p).1 : Int), ((Dig.pw q).1 : Int)⟩ = true then (⟨(pwk a).1, (pd b).1, ((Dig.pw p).1 : Int), ((Dig.pw q).1 : Int)⟩, 0) else (Whn.zero, 6)
      | _ => (Whn.zero, 3)
    | _ => (Whn.zero, 3)
  else (Whn.zero, 10)
theorem wt_free (l : List (Nat × Nat)) {c : UInt8} (hc : Dig.isD c = false) (h : c ≠ 45) (h2 : c ≠ 44) : c ∉ wt l := by
  unfold wt
  induction l with
  | nil => simp [List.intercalate]
  | cons p l ih =>
    cases l with
    | nil =>
      rw [show [44].intercalate ([p].map rt) = rt p by simp [List.intercalate]]
      exact rt_free hc h
    | cons q l =>
      rw [List.map_cons, List.map_cons, Wrd.inter_cons]
      intro hm
      rcases List.mem_append.1 hm with hm | hm
      · rcases List.mem_append.1 hm with hm | hm
        · exact rt_free hc h hm
        · exact h2 (List.mem_singleton.1 hm)
      · exact ih (by simpa using hm)
theorem wk_free (w : Nat) {c : UInt8} (hc : Dig.isD c = false) (h : c ≠ 45) (h2 : c ≠ 44) : c ∉ wk w := wt_free _ hc h h2
theorem dt_free {d : Nat} (hd : d < 128) {c : UInt8} (hc : c.toNat < 97) : c ∉ dt d := fun hm => by
  have := of_decide_eq_true (List.all_eq_true.1 (dt_fine d hd) c hm)
  omega
/-- what 'right' says of the numbers -/
theorem right_nums {g : Gr} {x : Wh} (h : Whn.right g x = true) : x.w ≠ 0 ∧ x.w < 2 ^ 20 ∧ 1 ≤ x.d ∧ x.d < 128 ∧ ((x.s.toNat : Nat) : Int) = x.s ∧ x.s.toNat < 100 ∧ ((x.l.toNat : Nat) : Int) = x.l ∧ x.l.toNat < 100 := by
  obtain ⟨h0, h1, h2, h3, h4, h5, h6, h7⟩ := (Whn.right_iff g x).1 h
  obtain ⟨g1, g2, g3, g4, g5, g6⟩ := (Whn.rgrid_iff g).1 h0
  have a1 : 2 ^ g.w.toNat ≤ 2 ^ 20 := Nat.pow_le_pow_right (by decide) (by omega)
  have a2 : 2 ^ g.d.toNat ≤ 2 ^ 7 := Nat.pow_le_pow_right (by decide) (by omega)
  exact ⟨h1, Nat.lt_of_lt_of_le h6 a1, by omega, Nat.lt_of_lt_of_le h7 a2, by omega, by omega, by omega, by omega⟩
/-- what may be comes back from its text -/
theorem pz_pt {g : Gr} {x : Wh} (h : Whn.right g x = true) : pz g (pt g x) = (x, 0) := by
  obtain ⟨h1, h2, h3, h4, h5, h6, h7, h8⟩ := right_nums h
  have hd : ∀ n, (32 : UInt8) ∉ Dig.wd n := fun n => wd_free (by decide)
  have hp : ∀ n, (43 : UInt8) ∉ Dig.wd n := fun n => wd_free (by decide)
  have hc : Wrd.cut 32 (pt g x) = [wk x.w, dt x.d, Dig.wd x.s.toNat ++ 43 :: Dig.wd x.l.toNat] := by
    unfold pt tt
    rw [if_pos h, Wrd.cut_append 32 _ _ (wk_free _ (by decide) (by decide) (by decide)), Wrd.cut_append 32 _ _ (dt_free h4 (by decide)), Wrd.cut_one 32]
    intro hm
    rcases List.mem_append.1 hm with hm | hm
    · exact hd _ hm
    · rcases List.mem_cons.1 hm with hm | hm
      · exact absurd hm (by decide)
      · exact hd _ hm
  have hc2 : Wrd.cut 43 (Dig.wd x.s.toNat ++ 43 :: Dig.wd x.l.toNat) = [Dig.wd x.s.toNat, Dig.wd x.l.toNat] := by
    rw [Wrd.cut_append 43 _ _ (hp _), Wrd.cut_one 43 _ (hp _)]
  unfold pz
  rw [if_pos (Whn.right_grid h), hc]
  simp only [hc2, pwk_wk h1 h2, pd_dt h3 h4, Dig.pw_wd x.s.toNat (by omega), Dig.pw_wd x.l.toNat (by omega), h5, h7]
  rw [if_neg (by decide), if_pos ⟨trivial, trivial, trivial, h⟩]
/-- a text that is read is the one that is written, of a time that may be -/
theorem pt_pz {g : Gr} {s : List UInt8} (h : (pz g s).2 = 0) : Whn.right g (pz g s).1 = true ∧ pt g (pz g s).1 = s := by
  have hi := inter_cut 32 s
  unfold pz at h ⊢
  by_cases hg : Whn.rgrid g = true
  · rw [if_pos hg] at h ⊢
    split at h
    · rename_i a b c hc
      rw [hc] at hi
      have hj := inter_cut 43 c
      split at h
      · rename_i p q hq
        rw [hq] at hj
        split at h
        · cases h
        · rename_i h3
          split at h
          · rename_i h0
            obtain ⟨k1, k2, k3, k4⟩ := h0
            have k5 : (pd b).2 = 0 := by
              rcases pd_err b with e | e
              · exact e
              · exact absurd (Or.inr (Or.inl (by rw [e]))) h3
            rw [if_neg h3, if_pos ⟨k1, k2, k3, k4⟩]
            refine ⟨k4, ?_⟩
            unfold pt tt
            rw [if_pos k4]
            simp only [Int.toNat_natCast]
            rw [(wk_pwk k1).1, (pd_back k5).1, (Dig.pw_back p k2).1, (Dig.pw_back q k3).1]
            rw [← hi, ← hj]
            simp [List.intercalate]
          · cases h
      · cases h
    · cases h
  · rw [if_neg hg] at h
    cases h
theorem pz_err (g : Gr) (s : List UInt8) (h : (pz g s).2 ≠ 0) : (pz g s).1 = Whn.zero := by
  unfold pz at h ⊢
  split
  · rename_i hg
    rw [if_pos hg] at h
    split
    · rename_i a b c hc
      rw [hc] at h
      split
      · rename_i p q hq
        simp only [hq] at h
        split
        · rfl
        · rename_i h3
          rw [if_neg h3] at h
          split
          · rename_i h0
            rw [if_pos h0] at h
            exact absurd rfl h
          · rfl
      · rfl
    · rfl
  · rfl
theorem tt_ne (x : Wh) : tt x ≠ [] := by
  unfold tt
  intro e
  have := congrArg List.length e
  simp at this
theorem pt_nil (g : Gr) (x : Wh) : pt g x = [] ↔ Whn.right g x = false := by
  unfold pt
  cases Whn.right g x with
  | true => rw [if_pos rfl]; exact ⟨fun h => absurd h (tt_ne x), fun h => by cases h⟩
  | false => rw [if_neg (by decide)]; exact ⟨fun _ => rfl, fun _ => rfl⟩
theorem pz_nil (g : Gr) : (pz g []).2 ≠ 0 := by
  unfold pz
  split
  · show (3 : Nat) ≠ 0
    decide
  · show (10 : Nat) ≠ 0
    decide
/-- unlike times that may be have unlike texts -/
theorem pt_inj {g : Gr} {a b : Wh} (ha : pt g a ≠ []) (h : pt g a = pt g b) : a = b := by
  have h1 : Whn.right g a = true := by
    cases hr : Whn.right g a with
    | true => rfl
    | false => exact absurd ((pt_nil g a).2 hr) ha
  have h2 : Whn.right g b = true := by
    cases hr : Whn.right g b with
    | true => rfl
    | false => exact absurd (h.trans ((pt_nil g b).2 hr)) ha
  have e1 := pz_pt h1
  rw [h, pz_pt h2] at e1
  exact (congrArg Prod.fst e1).symm
/-- a moment's text -/
def mt (g : Gr) (m : Int) : List UInt8 :=
  if Whn.isM g m = true then Dig.wd ((Whn.wk g m).toNat + 1) ++ 32 :: letters.getD (Whn.dy g m).toNat 0 :: 32 :: Dig.wd (Whn.sl g m).toNat else []
end Go.Proofs.YtfnjnkmdifigdaaDoor.Clk
