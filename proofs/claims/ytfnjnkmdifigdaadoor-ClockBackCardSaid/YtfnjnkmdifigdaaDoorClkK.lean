/- Contracts of layer 10 (clock): Parse. -/
import Derived.Test.YtfnjnkmdifigdaaDoorClkJ
namespace Go.Proofs.YtfnjnkmdifigdaaDoor
open Go.RowKit
open Whn (Gr Wh)

/-! ### what parseWhen reads, and what the document reads -/
theorem pw_bad {s : List UInt8} {c : UInt8} (hc : Dig.isD c = false) (h : c ∈ s) : (Dig.pw s).2 = 3 := by
  unfold Dig.pw
  have : ¬ Dig.formed s = true := fun hf => by
    have := List.all_eq_true.1 ((Dig.formed_iff s).1 hf).1 c h
    rw [hc] at this
    cases this
  rw [if_neg this]
theorem pw_nil : (Dig.pw []).2 = 3 := by decide
theorem pw_err (s : List UInt8) : (Dig.pw s).2 = 0 ∨ (Dig.pw s).2 = 3 ∨ (Dig.pw s).2 = 6 := by
  unfold Dig.pw
  split
  · split
    · exact .inl rfl
    · exact .inr (.inr rfl)
  · exact .inr (.inl rfl)
theorem psN_3 (s : List UInt8) : (psN s).2 = 3 ↔ (Dig.pw s).2 = 3 := by
  unfold psN
  split
  · exact Iff.rfl
  · rename_i h
    have : (Dig.pw s).2 = 0 := by omega
    rw [this]
    split <;> simp
theorem psN_0 (s : List UInt8) : (psN s).2 = 0 ↔ (Dig.pw s).2 = 0 ∧ (Dig.pw s).1 ≤ 96 := by
  unfold psN
  split
  · rename_i h
    exact ⟨fun h2 => absurd h2 h, fun h2 => absurd h2.1 h⟩
  · rename_i h
    split
    · rename_i h2
      exact ⟨(fun h3 => by cases h3), fun h3 => by omega⟩
    · rename_i h2
      exact ⟨fun _ => by omega, fun _ => rfl⟩
theorem psN_v {s : List UInt8} (h : (psN s).2 = 0) : (psN s).1 = (Dig.pw s).1 := by
  obtain ⟨h1, h2⟩ := (psN_0 s).1 h
  unfold psN
  rw [if_neg (by omega), if_neg (by omega)]
theorem psN_le (s : List UInt8) : (psN s).1 ≤ 96 := by
  unfold psN
  split
  · exact Nat.zero_le _
  · split
    · exact Nat.zero_le _
    · simp only; omega
theorem pd_nil : (Clk.pd []).2 = 3 := by
  rcases Clk.pd_err [] with h | h
  · obtain ⟨b1, b2, b3⟩ := Clk.pd_back h
    have := Clk.dt_none _ b3 b1
    omega
  · rw [h]
theorem pd_lt (s : List UInt8) : (Clk.pd s).1 < 128 := by
  rcases Clk.pd_err s with h | h
  · exact (Clk.pd_back h).2.2
  · rw [h]; decide
theorem pwk_lt (s : List UInt8) : (Clk.pwk s).1 < 2 ^ 20 := by
  rcases Clk.pwk_err s with h | h | h
  · exact (Clk.wk_pwk h).2.2
  · rw [h]; decide
  · rw [h]; decide
theorem pws_3 {x1 x2 x3 x4 : Nat × Nat} (h : 3 ∈ [x1.2, x2.2, x3.2, x4.2]) : pwsF x1 x2 x3 x4 = (Whn.zero, 3) := by unfold pwsF; rw [if_pos h]
/-- Parse, as the program does it -/
def pzz (g : Gr) (s : List UInt8) : Wh × Nat :=
  if Whn.rgrid g = true then
    if (pws s).2 ≠ 0 then (Whn.zero, (pws s).2) else if Whn.right g (pws s).1 = true then ((pws s).1, 0) else (Whn.zero, 6)
  else (Whn.zero, 10)
theorem pz_eq (g : Gr) (s : List UInt8) : Clk.pz g s = pzz g s := by
  rcases Classical.em (¬ Whn.rgrid g = true) with hg | hg
  · unfold Clk.pz pzz
    rw [if_neg hg, if_neg hg]
  have hg : Whn.rgrid g = true := Classical.byContradiction hg
  have bad : pws s = (Whn.zero, 3) → pzz g s = (Whn.zero, 3) := fun h => by
    unfold pzz
    rw [if_pos hg, h, if_pos (by decide)]
  have badz : ∀ l, Wrd.cut 32 s = l → (∀ a b c p q, l = [a, b, c] → Wrd.cut 43 c = [p, q] → (Dig.pw p).2 = 3 ∨ (Dig.pw q).2 = 3) → Clk.pz g s = (Whn.zero, 3) := fun l hl h => by
    unfold Clk.pz
    rw [if_pos hg, hl]
    split
    · rename_i a b c
      split
      · rename_i p q hq
        have := h a b c p q rfl hq
        rw [if_pos (by rcases this with h | h <;> simp [h])]
      · rfl
    · rfl
  rcases Clk.lib_cut 32 s with ⟨h1, h2⟩ | ⟨a, r, h1, h2, h3⟩
  · have e : pws s = (Whn.zero, 3) := by
      unfold pws
      rw [h2]
      refine pws_3 ?_
      have : (Lib.cut ([] : List UInt8) [32]).1 = [] := rfl
      simp only [this, pd_nil]
      simp
    rw [bad e, badz _ (Wrd.cut_one 32 s h1) (fun a b c p q h => by cases h)]
  rcases Clk.lib_cut 32 r with ⟨k1, k2⟩ | ⟨b, c, k1, k2, k3⟩
  · have e : pws s = (Whn.zero, 3) := by
      unfold pws
      rw [h3]
      refine pws_3 ?_
      simp only [k2]
      have : (Lib.cut ([] : List UInt8) [43]).1 = [] := rfl
      rw [this]
      have := (psN_3 []).2 pw_nil
      simp [this]
    have hc : Wrd.cut 32 s = [a, r] := by rw [h1, Wrd.cut_append 32 a r h2, Wrd.cut_one 32 r k1]
    rw [bad e, badz _ hc (fun a b c p q h => by cases h)]
  have hcut : Wrd.cut 32 s = a :: b :: Wrd.cut 32 c := by rw [h1, Wrd.cut_append 32 a r h2, k1, Wrd.cut_append 32 b c k2]
  have hpws : pws s = pwsF (Clk.pwk a) (Clk.pd b) (psN (Lib.cut c [43]).1) (psN (Lib.cut c [43]).2.1) := by
    unfold pws
    rw [h3]
    simp only [k3]
  by_cases hc32 : (32 : UInt8) ∈ c
  · have e : pws s = (Whn.zero, 3) := by
      rw [hpws]
      refine pws_3 ?_
      rcases Clk.lib_cut 43 c with ⟨j1, j2⟩ | ⟨p, q, j1, j2, j3⟩
      · rw [j2]
        have := (psN_3 c).2 (pw_bad (c := 32) (by decide) hc32)
        simp [this]
      · rw [j3]
        rw [j1] at hc32
        rcases List.mem_append.1 hc32 with h | h
        · have := (psN_3 p).2 (pw_bad (c := 32) (by decide) h)
          simp [this]
        · rcases List.mem_cons.1 h with h | h
          · exact absurd h (by decide)
          · have := (psN_3 q).2 (pw_bad (c := 32) (by decide) h)
            simp [this]
    rw [bad e, badz _ hcut (fun a' b' c' p q h _ => by
      simp only [List.cons.injEq] at h
      obtain ⟨_, _, h⟩ := h
      have hi := Clk.inter_cut 32 c
      rw [h, show [32].intercalate [c'] = c' by simp [List.intercalate]] at hi
      have := Clk.cut_free 32 c c' (by rw [h]; exact List.mem_singleton.2 rfl)
      rw [hi] at this
      exact absurd hc32 this)]
  have hcut3 : Wrd.cut 32 s = [a, b, c] := by rw [hcut, Wrd.cut_one 32 c hc32]
  rcases Clk.lib_cut 43 c with ⟨j1, j2⟩ | ⟨p, q, j1, j2, j3⟩
  · have e : pws s = (Whn.zero, 3) := by
      rw [hpws, j2]
      refine pws_3 ?_
      have := (psN_3 []).2 pw_nil
      simp [this]
    rw [bad e, badz _ hcut3 (fun a' b' c' p q h h2 => by
      simp only [List.cons.injEq, and_true] at h
      obtain ⟨_, _, rfl⟩ := h
      rw [Wrd.cut_one 43 c j1] at h2
      cases h2)]
  rw [j3] at hpws
  by_cases hq43 : (43 : UInt8) ∈ q
  · have e : pws s = (Whn.zero, 3) := by
      rw [hpws]
      refine pws_3 ?_
      have := (psN_3 q).2 (pw_bad (c := 43) (by decide) hq43)
      simp [this]
    rw [bad e, badz _ hcut3 (fun a' b' c' p' q' h h2 => by
      simp only [List.cons.injEq, and_true] at h
      obtain ⟨_, _, rfl⟩ := h
      rw [j1, Wrd.cut_append 43 p q j2] at h2
      simp only [List.cons.injEq] at h2
      obtain ⟨_, h2⟩ := h2
      have hi := Clk.inter_cut 43 q
      rw [h2, show [43].intercalate [q'] = q' by simp [List.intercalate]] at hi
      have := Clk.cut_free 43 q q' (by rw [h2]; exact List.mem_singleton.2 rfl)
      rw [hi] at this
      exact absurd hq43 this)]
  have hcq : Wrd.cut 43 c = [p, q] := by rw [j1, Wrd.cut_append 43 p q j2, Wrd.cut_one 43 q hq43]
  unfold Clk.pz pzz
  rw [if_pos hg, if_pos hg, hcut3]
  simp only [hcq]
  by_cases h3 : (Clk.pwk a).2 = 3 ∨ (Clk.pd b).2 = 3 ∨ (Dig.pw p).2 = 3 ∨ (Dig.pw q).2 = 3
  · have hp : pws s = (Whn.zero, 3) := by
      rw [hpws]
      refine pws_3 ?_
      rcases h3 with h | h | h | h
      · simp [h]
      · simp [h]
      · simp [(psN_3 p).2 h]
      · simp [(psN_3 q).2 h]
    rw [if_pos h3, hp]
    rfl
  rw [if_neg h3]
  have hd0 : (Clk.pd b).2 = 0 := by
    rcases Clk.pd_err b with h | h
    · exact h
    · exact absurd (Or.inr (Or.inl (by rw [h]))) h3
  have hn3 : ¬ 3 ∈ [(Clk.pwk a).2, (Clk.pd b).2, (psN p).2, (psN q).2] := fun hm => by
    simp only [List.mem_cons, List.not_mem_nil, or_false] at hm
    apply h3
    rcases hm with h | h | h | h
    · exact .inl h.symm
    · exact .inr (.inl h.symm)
    · exact .inr (.inr (.inl ((psN_3 p).1 h.symm)))
    · exact .inr (.inr (.inr ((psN_3 q).1 h.symm)))
  by_cases hok : (Clk.pwk a).2 = 0 ∧ (psN p).2 = 0 ∧ (psN q).2 = 0
  · obtain ⟨o1, o2, o3⟩ := hok
    have hn6 : ¬ 6 ∈ [(Clk.pwk a).2, (Clk.pd b).2, (psN p).2, (psN q).2] := by rw [o1, hd0, o2, o3]; decide
    have hp : pws s = (⟨(Clk.pwk a).1, (Clk.pd b).1, ((Dig.pw p).1 : Int), ((Dig.pw q).1 : Int)⟩, 0) := by
      rw [hpws]
      unfold pwsF
      rw [if_neg hn3, if_neg hn6]
      simp only
      rw [psN_v o2, psN_v o3]
    rw [hp]
    simp only [ne_eq, not_true_eq_false, if_false]
    obtain ⟨o4, _⟩ := (psN_0 p).1 o2
    obtain ⟨o5, _⟩ := (psN_0 q).1 o3
    by_cases hr : Whn.right g ⟨(Clk.pwk a).1, (Clk.pd b).1, ((Dig.pw p).1 : Int), ((Dig.pw q).1 : Int)⟩ = true
    · rw [if_pos ⟨o1, o4, o5, hr⟩, if_pos hr]
    · rw [if_neg (fun h => hr h.2.2.2), if_neg hr]
  · have hn6 : 6 ∈ [(Clk.pwk a).2, (Clk.pd b).2, (psN p).2, (psN q).2] := by
      have e1 : (Clk.pwk a).2 = 0 ∨ (Clk.pwk a).2 = 6 := by
        rcases Clk.pwk_err a with h | h | h
        · exact .inl h
        · exact absurd (Or.inl (by rw [h])) h3
        · exact .inr (by rw [h])
      have e2 : ∀ x, ¬ (Dig.pw x).2 = 3 → (psN x).2 = 0 ∨ (psN x).2 = 6 := fun x hx => by
        unfold psN
        split
        · rename_i h
          rcases pw_err x with h2 | h2 | h2
          · exact absurd h2 h
          · exact absurd h2 hx
          · exact .inr h2
        · split
          · exact .inr rfl
          · exact .inl rfl
      have e3 := e2 p (fun h => h3 (.inr (.inr (.inl h))))
      have e4 := e2 q (fun h => h3 (.inr (.inr (.inr h))))
      rcases e1 with e1 | e1
      · rcases e3 with e3 | e3
        · rcases e4 with e4 | e4
          · exact absurd ⟨e1, e3, e4⟩ hok
          · simp [e4]
        · simp [e3]
      · simp [e1]
    have hp : pws s = (Whn.zero, 6) := by
      rw [hpws]
      unfold pwsF
      rw [if_neg hn3, if_pos hn6]
    rw [hp, if_neg]
    · rfl
    rintro ⟨o1, o2, o3, o4⟩
    apply hok
    obtain ⟨r1, r2, r3, r4, r5, r6, r7, r8⟩ := Clk.right_nums o4
    simp only at r5 r6 r7 r8
    obtain ⟨g0, g1, g2, g3, g4, g5, g6, g7⟩ := (Whn.right_iff g _).1 o4
    obtain ⟨z1, z2, z3, z4, z5, z6⟩ := (Whn.rgrid_iff g).1 g0
    simp only at g3 g4 g5
    exact ⟨o1, (psN_0 p).2 ⟨o2, by omega⟩, (psN_0 q).2 ⟨o3, by omega⟩⟩
theorem pws_ok (s : List UInt8) : Wok (pws s).1 := by
  have hz : Wok Whn.zero := by unfold Wok I64 Whn.zero; simp
  have h1 := pwk_lt
  have h2 := pd_lt
  have h3 := psN_le
  unfold pws pwsF
  split
  · exact hz
  · split
    · exact hz
    · unfold Wok I64
      simp only
      have a1 := h1 (Lib.cut s [32]).1
      have a2 := h2 (Lib.cut (Lib.cut s [32]).2.1 [32]).1
      have a3 := h3 (Lib.cut (Lib.cut (Lib.cut s [32]).2.1 [32]).2.1 [43]).1
      have a4 := h3 (Lib.cut (Lib.cut (Lib.cut s [32]).2.1 [32]).2.1 [43]).2.1
      omega
end Go.Proofs.YtfnjnkmdifigdaaDoor
