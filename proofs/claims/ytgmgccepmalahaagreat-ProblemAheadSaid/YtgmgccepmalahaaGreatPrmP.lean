/- What stands ahead of what is wrong first may be, by itself: mathematics of ProblemAhead. -/
import Derived.Test.YtgmgccepmalahaaGreatPqK
namespace Go.Proofs.YtgmgccepmalahaaGreat
open Go.RowKit
open Whn (Gr Wh)

def c11 (p : Pb) (k : Nat) : Pb := ⟨p.n, p.g, p.rm.take k, List.replicate k (List.replicate k 0), [], [], [], [], [], 0, 0, 0, 0⟩
def c12 (p : Pb) (k : Nat) : Pb := ⟨p.n, p.g, p.rm, p.wk, p.ps.take k, [], [], [], [], 0, 0, 0, 0⟩
def c13 (p : Pb) : Pb := ⟨p.n, p.g, p.rm, p.wk, p.ps, [], [], [], [], 0, 0, 0, 0⟩
def c14 (p : Pb) (k : Nat) : Pb := ⟨p.n, p.g, p.rm, p.wk, p.ps, p.cl, p.cs.take k, [], [], 0, 0, 0, 0⟩
def c15 (p : Pb) (k : Nat) : Pb := ⟨p.n, p.g, p.rm, p.wk, p.ps, p.cl, p.cs, p.st.take k, [], 0, 0, 0, 0⟩
def c16 (p : Pb) (k : Nat) : Pb := ⟨p.n, p.g, p.rm, p.wk, p.ps, p.cl, p.cs, p.st, p.rl.take k, 0, 0, 0, 0⟩
def c17 (p : Pb) : Pb := ⟨p.n, p.g, p.rm, p.wk, p.ps, p.cl, p.cs, p.st, p.rl, 0, 0, 0, 0⟩

theorem getD_take {α : Type} {l : List α} {j k : Nat} (h : j < k) (d : α) : (l.take k).getD j d = l.getD j d := by
  rw [List.getD_eq_getElem?_getD, List.getD_eq_getElem?_getD, List.getElem?_take, if_pos h]
theorem bad_take {ns : List (List UInt8)} {rs : List Bool} {most : Int} {j k : Nat} (h : j < k) : badAt (ns.take k) (rs.take k) most j = badAt ns rs most j := by
  unfold badAt
  rw [getD_take h, getD_take h, List.take_take, Nat.min_eq_left (by omega)]
theorem fst17_pos {ns : List (List UInt8)} {rs : List Bool} {most : Int} (h : 0 ≤ fst17 ns rs most) : ∃ k : Nat, fst17 ns rs most = (k : Int) ∧ k < ns.length ∧ ∀ j, j < k → badAt ns rs most j = false := by
  unfold fst17 at *
  cases hf : (List.range ns.length).find? (badAt ns rs most) with
  | none => rw [hf] at h; exact absurd h (by decide)
  | some k =>
    obtain ⟨_, h2, h3⟩ := List.find?_range_eq_some.1 hf
    exact ⟨k, rfl, List.mem_range.1 h2, fun j hj => by simpa using h3 j hj⟩
theorem fst17_take {ns : List (List UInt8)} {rs : List Bool} {most : Int} {k : Nat} (hb : ∀ j, j < k → badAt ns rs most j = false) : fst17 (ns.take k) (rs.take k) most < 0 := by
  rw [fst17_none (fun j hj => by
    rw [List.length_take] at hj
    rw [bad_take (show j < k by omega)]
    exact hb j (by omega))]
  decide
theorem frl17_pos {n : Int} {l : List Rl} (h : 0 ≤ frl17 n l) : ∃ k : Nat, frl17 n l = (k : Int) ∧ k < l.length ∧ ∀ j, j < k → badR n l j = false := by
  unfold frl17 at *
  cases hf : (List.range l.length).find? (badR n l) with
  | none => rw [hf] at h; exact absurd h (by decide)
  | some k =>
    obtain ⟨_, h2, h3⟩ := List.find?_range_eq_some.1 hf
    exact ⟨k, rfl, List.mem_range.1 h2, fun j hj => by simpa using h3 j hj⟩
theorem frl17_take {n : Int} {l : List Rl} {k : Nat} (hb : ∀ j, j < k → badR n l j = false) : frl17 n (l.take k) < 0 := by
  rw [frl17_none (fun j hj => by
    rw [List.length_take] at hj
    have e : badR n (l.take k) j = badR n l j := by
      unfold badR
      rw [getD_take (show j < k by omega)]
    rw [e]
    exact hb j (by omega))]
  decide
theorem bad_most {ns : List (List UInt8)} {rs : List Bool} {m : Nat} : badAt ns rs (m : Int) m = true := by
  unfold badAt
  rw [decide_eq_true rfl]; rfl
theorem rw_zeros {k : Nat} (h : k ≤ 24) : rwOk (k : Nat) (List.replicate k (List.replicate k 0)) = true := by
  have hc : ∀ i j, cl (List.replicate k (List.replicate k 0)) i j = 0 := fun i j => by
    unfold cl
    rw [List.getD_eq_getElem?_getD, List.getD_eq_getElem?_getD, List.getElem?_replicate]
    split
    · show ((List.replicate k (0 : Int))[j]?).getD 0 = 0
      rw [List.getElem?_replicate]
      split <;> rfl
    · rfl
  unfold rwOk
  rw [decide_eq_true_iff]
  refine ⟨by omega, by omega, by rw [List.length_replicate], fun r hr => ?_, fun i _ j _ => ?_⟩
  · rw [List.eq_of_mem_replicate hr, List.length_replicate, List.length_replicate]
  · unfold cok
    rw [hc, hc]
    exact ⟨by decide, by decide, rfl, fun _ => rfl⟩
theorem chkG_yes {nk rg : Bool} {i0 : Int} {wk : Bool} {n i1 i2 i3 i4 i5 : Int} {wt : Bool} (h1 : nk = true) (h2 : rg = true) (h3 : i0 < 0) (h4 : wk = true) (h5 : i1 < 0) (h6 : i2 < 0) (h7 : i3 < 0) (h8 : i4 < 0) (h9 : i5 < 0) (h10 : wt = true) : chkG nk rg i0 wk n i1 i2 i3 i4 i5 wt = (0, 0) := by
  subst h1; subst h2; subst h4; subst h10
  unfold chkG
  rw [if_neg (by decide), if_neg (by decide), if_neg (by omega), if_neg (by decide), if_neg (by omega), if_neg (by omega), if_neg (by omega), if_neg (by omega), if_neg (by omega), if_neg (by decide)]
theorem wt_zero : wtB [0, 0, 0, 0] = true := by decide
theorem fst_nil (most : Int) : fst17 [] [] most < 0 := by
  show (-1 : Int) < 0
  decide
theorem frl_nil (n : Int) : frl17 n [] < 0 := by
  show (-1 : Int) < 0
  decide
theorem few_of {ns : List (List UInt8)} {rs : List Bool} {m : Nat} {k : Nat} (hb : ∀ j, j < k → badAt ns rs (m : Int) j = false) : k ≤ m := by
  rcases Nat.lt_or_ge m k with h | h
  · have := hb m h
    rw [bad_most] at this
    cases this
  · exact h
/-- what Check may tell, and what stands ahead of it -/
theorem ahead_cases (p : Pb) :
    ((chk p = (0, 0) ∨ chk p = (18, 0)) ∨ chk p = (10, 0)) ∨
    (∃ k : Nat, k ≤ p.rm.length ∧ chk p = (11, (k : Int)) ∧ chk (c11 p k) = (0, 0)) ∨
    (∃ k : Nat, k < p.ps.length ∧ chk p = (12, (k : Int)) ∧ chk (c12 p k) = (0, 0)) ∨
    (∃ k : Nat, k < p.cl.length ∧ chk p = (13, (k : Int)) ∧ chk (c13 p) = (0, 0)) ∨
    (∃ k : Nat, k < p.cs.length ∧ chk p = (14, (k : Int)) ∧ chk (c14 p k) = (0, 0)) ∨
    (∃ k : Nat, k < p.st.length ∧ chk p = (15, (k : Int)) ∧ chk (c15 p k) = (0, 0)) ∨
    (∃ k : Nat, k < p.rl.length ∧ chk p = (16, (k : Int)) ∧ chk (c16 p k) = (0, 0)) ∨
    (chk p = (17, 0) ∧ chk (c17 p) = (0, 0)) := by
  have hc : chk p = chkG (nameOk p.n) (Whn.rgrid p.g) (rmI p) (rwOk (p.rm.length : Nat) p.wk) (p.rm.length : Nat) (psI p) (clI p) (csI p) (stI p) (rlI p) (wtB [p.w0, p.w1, p.w2, p.w3]) := rfl
  have nt : ¬ (true = false) := by decide
  cases hn : nameOk p.n with
  | false =>
    left; left; right
    rw [hc, hn]; unfold chkG; rw [if_pos rfl]
  | true =>
  cases hg : Whn.rgrid p.g with
  | false =>
    left; right
    rw [hc, hn, hg]; unfold chkG; rw [if_neg nt, if_pos rfl]
  | true =>
  by_cases h0 : 0 ≤ rmI p
  · right; left
    obtain ⟨k, hk, hkl, hb⟩ := fst17_pos h0
    have hk : rmI p = (k : Int) := hk
    rw [List.length_map] at hkl
    refine ⟨k, Nat.le_of_lt hkl, by rw [hc, hn, hg]; unfold chkG; rw [if_neg nt, if_neg nt, if_pos h0, hk], ?_⟩
    refine chkG_yes hn hg ?_ ?_ (fst_nil _) (fst_nil _) (fst_nil _) (fst_nil _) (frl_nil _) wt_zero
    · show fst17 ((p.rm.take k).map (·.n)) ((p.rm.take k).map (rmRight p.g)) 24 < 0
      rw [List.map_take, List.map_take]
      exact fst17_take hb
    · show rwOk ((p.rm.take k).length : Nat) _ = true
      rw [List.length_take, Nat.min_eq_left (by omega)]
      exact rw_zeros (few_of (m := 24) hb)
  have hr := fst17_neg (show fst17 (p.rm.map (·.n)) (p.rm.map (rmRight p.g)) 24 < 0 by show rmI p < 0; omega)
  cases hw : rwOk (p.rm.length : Nat) p.wk with
  | false =>
    right; left
    refine ⟨p.rm.length, Nat.le_refl _, by rw [hc, hn, hg, hw]; unfold chkG; rw [if_neg nt, if_neg nt, if_neg h0, if_pos rfl], ?_⟩
    refine chkG_yes hn hg ?_ ?_ (fst_nil _) (fst_nil _) (fst_nil _) (fst_nil _) (frl_nil _) wt_zero
    · show fst17 ((p.rm.take p.rm.length).map (·.n)) ((p.rm.take p.rm.length).map (rmRight p.g)) 24 < 0
      rw [List.take_length]
      show rmI p < 0
      omega
    · show rwOk ((p.rm.take p.rm.length).length : Nat) _ = true
      rw [List.take_length]
      exact rw_zeros (few_of (m := 24) (by rw [List.length_map] at hr; exact hr))
  | true =>
  by_cases h1 : 0 ≤ psI p
  · right; right; left
    obtain ⟨k, hk, hkl, hb⟩ := fst17_pos h1
    have hk : psI p = (k : Int) := hk
    rw [List.length_map] at hkl
    refine ⟨k, hkl, by rw [hc, hn, hg, hw]; unfold chkG; rw [if_neg nt, if_neg nt, if_neg h0, if_neg nt, if_pos h1, hk], ?_⟩
    refine chkG_yes hn hg (show rmI p < 0 by omega) hw ?_ (fst_nil _) (fst_nil _) (fst_nil _) (frl_nil _) wt_zero
    show fst17 ((p.ps.take k).map (·.n)) ((p.ps.take k).map fun y => rmRight p.g (rmOf y)) 24 < 0
    rw [List.map_take, List.map_take]
    exact fst17_take hb
  by_cases h2 : 0 ≤ clI p
  · right; right; right; left
    obtain ⟨k, hk, hkl, hb⟩ := fst17_pos h2
    have hk : clI p = (k : Int) := hk
    rw [List.length_map] at hkl
    exact ⟨k, hkl, by rw [hc, hn, hg, hw]; unfold chkG; rw [if_neg nt, if_neg nt, if_neg h0, if_neg nt, if_neg h1, if_pos h2, hk], chkG_yes hn hg (show rmI p < 0 by omega) hw (show psI p < 0 by omega) (fst_nil _) (fst_nil _) (fst_nil _) (frl_nil _) wt_zero⟩
  by_cases h3 : 0 ≤ csI p
  · right; right; right; right; left
    obtain ⟨k, hk, hkl, hb⟩ := fst17_pos h3
    have hk : csI p = (k : Int) := hk
    rw [List.length_map] at hkl
    refine ⟨k, hkl, by rw [hc, hn, hg, hw]; unfold chkG; rw [if_neg nt, if_neg nt, if_neg h0, if_neg nt, if_neg h1, if_neg h2, if_pos h3, hk], ?_⟩
    refine chkG_yes hn hg (show rmI p < 0 by omega) hw (show psI p < 0 by omega) (show clI p < 0 by omega) ?_ (fst_nil _) (frl_nil _) wt_zero
    show fst17 ((p.cs.take k).map (·.n)) ((p.cs.take k).map (csRight (p.cl.length : Nat))) 16 < 0
    rw [List.map_take, List.map_take]
    exact fst17_take hb
  by_cases h4 : 0 ≤ stI p
  · right; right; right; right; right; left
    obtain ⟨k, hk, hkl, hb⟩ := fst17_pos h4
    have hk : stI p = (k : Int) := hk
    rw [List.length_map] at hkl
    refine ⟨k, hkl, by rw [hc, hn, hg, hw]; unfold chkG; rw [if_neg nt, if_neg nt, if_neg h0, if_neg nt, if_neg h1, if_neg h2, if_neg h3, if_pos h4, hk], ?_⟩
    refine chkG_yes hn hg (show rmI p < 0 by omega) hw (show psI p < 0 by omega) (show clI p < 0 by omega) (show csI p < 0 by omega) ?_ (frl_nil _) wt_zero
    show fst17 ((p.st.take k).map (·.n)) ((p.st.take k).map (stB (p.cs.length : Nat))) 200 < 0
    rw [List.map_take, List.map_take]
    exact fst17_take hb
  by_cases h5 : 0 ≤ rlI p
  · right; right; right; right; right; right; left
    obtain ⟨k, hk, hkl, hb⟩ := frl17_pos h5
    have hk : rlI p = (k : Int) := hk
    refine ⟨k, hkl, by rw [hc, hn, hg, hw]; unfold chkG; rw [if_neg nt, if_neg nt, if_neg h0, if_neg nt, if_neg h1, if_neg h2, if_neg h3, if_neg h4, if_pos h5, hk], ?_⟩
    refine chkG_yes hn hg (show rmI p < 0 by omega) hw (show psI p < 0 by omega) (show clI p < 0 by omega) (show csI p < 0 by omega) (show stI p < 0 by omega) ?_ wt_zero
    show frl17 (p.cl.length : Nat) (p.rl.take k) < 0
    exact frl17_take hb
  cases ht : wtB [p.w0, p.w1, p.w2, p.w3] with
  | false =>
    right; right; right; right; right; right; right
    exact ⟨by rw [hc, hn, hg, hw, ht]; unfold chkG; rw [if_neg nt, if_neg nt, if_neg h0, if_neg nt, if_neg h1, if_neg h2, if_neg h3, if_neg h4, if_neg h5, if_pos rfl],
      chkG_yes hn hg (show rmI p < 0 by omega) hw (show psI p < 0 by omega) (show clI p < 0 by omega) (show csI p < 0 by omega) (show stI p < 0 by omega) (show rlI p < 0 by omega) wt_zero⟩
  | true =>
    left; left; left
    exact chkG_yes hn hg (by omega) hw (by omega) (by omega) (by omega) (by omega) (by omega) ht
end Go.Proofs.YtgmgccepmalahaaGreat
