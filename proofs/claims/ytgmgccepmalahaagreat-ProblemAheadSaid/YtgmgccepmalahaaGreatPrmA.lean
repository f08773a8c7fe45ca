/- Problem's own parts of a rule and a student: within, rightCost, eachOnce, Rule, rightWeigh, IsSorted, rightStudent. -/
import Derived.Test.YtgmgccepmalahaaGreatPqS
import Derived.Test.YtgmgccepmalahaaGreatPqM
import Derived.Test.YtgmgccepmalahaaGreatPqG
namespace Go.Proofs.YtgmgccepmalahaaGreat
open Go.RowKit
open Whn (Gr Wh)

theorem p_w17 (n a b : Int) (w : World) : Calls Tryz.prog 58 #[.int .i64 n, .int .i64 a, .int .i64 b] w (fun e w' => e = .returned (.bool (inB n a b)) ∧ w = w') := by
  by_cases h1 : a ≤ n
  · have h2 := hid (show decide (n ≤ b) = inB n a b by unfold inB; rw [decide_eq_true h1, Bool.true_and])
    go_enter Tryz.func58, Tryz.ntmps58
    go_wp2_with fail
    go_ret
    exact ⟨congrArg (fun z => Ending.returned (Value.bool z)) h2.out, rfl⟩
  · have h2 := hid (show false = inB n a b from (inB_false (by omega)).symm)
    go_enter Tryz.func58, Tryz.ntmps58
    go_wp2_with fail
    go_ret
    exact ⟨congrArg (fun z => Ending.returned (Value.bool z)) h2.out, rfl⟩
set_option maxRecDepth 20000 in
set_option maxHeartbeats 4000000 in
theorem p_rcost17 (x : Rl) (A : Option Addr) (c : Nat) (w : World) : Calls Tryz.prog 61 #[rlv x A c] w (Did (.bool (costB17 x)) w) := by
  have HI := hid (fun n a b w => p_w17 n a b w)
  obtain ⟨R, W, hR, hW, K, hb0⟩ := (Mem.nil w).one (rlc x A c) 45
  obtain ⟨c0, c1, c2, c3, c4, c5⟩ := K.out.rl (B := R) (x := x) (A := A) (c := c) (t := 45) (by simp)
  clear hb0 c0 c1 c2 c3
  obtain ⟨k, l, a, b, h, z⟩ := x
  cases h with
  | true =>
    have Hr := hid (show costB17 ⟨k, l, a, b, true, z⟩ = (z == 0) from rfl)
    generalize costB17 ⟨k, l, a, b, true, z⟩ = q at *
    go_enter Tryz.func61, Tryz.ntmps61
    go_wp2_with fail
    go_ret
    exact Did.mk (by rw [Hr.out]; rfl) K.out.2
  | false =>
    have Hr := hid (show costB17 ⟨k, l, a, b, false, z⟩ = inB z 1 1000 from rfl)
    generalize costB17 ⟨k, l, a, b, false, z⟩ = q at *
    go_enter Tryz.func61, Tryz.ntmps61
    go_wp2_with fail
    refine (HI.out _ _ _ _).mono ?_
    rintro e w1 ⟨rfl, rfl⟩
    go_wp2_with fail
    go_ret
    exact Did.mk (by rw [Hr.out]; rfl) K.out.2
set_option maxRecDepth 20000 in
set_option maxHeartbeats 4000000 in
theorem p_once17 (n : Int) (A : Option Addr) (c : Nat) (l : List Int) (hm : l.length ≤ maxLen) (hc : l.length ≤ c) (w : World) (h : Its w w.heap.size A l) :
    Calls Tryz.prog 59 #[.int .i64 n, .slice A l.length c] w (Did (.bool ((List.range l.length).all (amongB n l))) w) := by
  have HC := hid (fun (k : Nat) (hk : k ≤ l.length) x X (h : Its X X.heap.size A l) => p_ContI A k c (l.take k) (by rw [List.length_take]; omega) (by rw [List.length_take]; omega) x X (its_take h k))
  unfold maxLen at hm
  have H := hid h
  have Hyes := hid (fun (h : ∀ i, i < l.length → amongB n l i = true) => all_range h)
  have Hno := hid (fun i (hi : i < l.length) (h : amongB n l i = false) => no_range hi h)
  have Ham := hid (fun i y (hy : l[i]? = some y) => show amongB n l i = (decide (0 ≤ y) && (decide (y < n) && !decide (y ∈ l.take i))) by unfold amongB; rw [List.getD_eq_getElem?_getD, hy]; rfl)
  generalize (List.range l.length).all (amongB n l) = aa at *
  generalize amongB n l = am at *
  clear h
  go_enter Tryz.func59, Tryz.ntmps59
  go_wp2_with fail
  go_loopw [9] (fun i wr => ∃ (k : Nat), i = .int .i64 k ∧ k ≤ l.length ∧ Hid (Below w.heap.size w wr) ∧ Hid (∀ i, i < k → am i = true)) (fun i _ => l.length - (intOf i).toNat)
  case atStart => exact ⟨0, rfl, Nat.zero_le _, hid (Below.refl _ _), hid (fun i hi => absurd hi (Nat.not_lt_zero i))⟩
  case round =>
    obtain ⟨k, rfl, hk, KB, hsame⟩ := hrel
    have H1 := hid ((H.out.below KB.out (Nat.le_refl _)).more KB.out.size)
    by_cases hlt : k < l.length
    · have HC1 := hid (fun x X h => HC.out k (by omega) x X h)
      have Hn1 := hid (Hno.out k hlt)
      obtain ⟨ad, y, rfl, had, hx, hcy⟩ := Its.get H1.out hlt
      have Hk := hid (Ham.out k y hx.out)
      have b1 : (0 : Int) ≤ (k : Int) := by omega
      have b2 : (k : Int) < l.length := by omega
      have b3 : (k : Int) ≤ (c : Int) := by omega
      clear HC
      by_cases y0 : 0 ≤ y
      · have y1 : ¬ y < 0 := by omega
        by_cases yn : y < n
        · have y2 : ¬ n ≤ y := by omega
          rw [decide_eq_true y0, decide_eq_true yn, Bool.true_and, Bool.true_and] at Hk
          clear y0 yn
          go_wp2_with fail
          refine (HC1.out y _ H1.out).mono ?_
          rintro e w1 ⟨b, rfl, hb, bb⟩
          have KB2 := hid (KB.out.trans (bb.mono KB.out.size))
          cases b with
          | true =>
            have hno := hid (Hn1.out (by rw [Hk.out, decide_eq_true (hb.1 rfl)]; rfl))
            clear hb
            go_wp2_with fail
            go_ret
            exact Did.mk (by rw [hno.out]; rfl) KB2.out
          | false =>
            have hn := hid (show ∀ i, i < k + 1 → am i = true from fun i hi => by
              rcases Nat.lt_succ_iff_lt_or_eq.1 hi with h | rfl
              · exact hsame.out i h
              · rw [Hk.out, decide_eq_false (fun h => by have := hb.2 h; cases this)]; rfl)
            clear hb hsame
            go_wp2_with fail
            exact ⟨⟨k + 1, by go_num, by omega, KB2, hn⟩, by simp [intOf]; omega⟩
        · have y2 : n ≤ y := by omega
          rw [decide_eq_false yn, Bool.false_and, Bool.and_false] at Hk
          have hno := hid (Hn1.out Hk.out)
          clear y0 yn
          go_wp2_with fail
          go_ret
          exact Did.mk (by rw [hno.out]; rfl) KB.out
      · have y1 : y < 0 := by omega
        rw [decide_eq_false y0, Bool.false_and] at Hk
        have hno := hid (Hn1.out Hk.out)
        clear y0
        go_wp2_with fail
        go_ret
        exact Did.mk (by rw [hno.out]; rfl) KB.out
    · have hall := hid (Hyes.out (fun i hi => hsame.out i (by omega)))
      have b2 : ¬ (k : Int) < l.length := by omega
      go_wp2_with fail
      go_ret
      exact Did.mk (by rw [hall.out]; rfl) KB.out
theorem rt_kind {k a b : Int} (h : rtV k a b = true) : (kn15 k || mkB k) = true := by
  unfold rtV at h
  unfold kn15 mkB frB
  by_cases h21 : k = 21
  · subst h21; rfl
  rw [if_neg h21] at h
  by_cases h22 : k = 22 ∨ k = 13
  · rcases h22 with rfl | rfl <;> rfl
  rw [if_neg h22] at h
  by_cases h23 : k = 23
  · subst h23; rfl
  rw [if_neg h23] at h
  by_cases h24 : k = 24
  · subst h24; rfl
  rw [if_neg h24] at h
  have := (Bool.and_eq_true _ _ ▸ h).1
  unfold kn15 frB at this
  rw [this]; rfl
theorem rule_eq (n : Int) (x : Rl) : ruleB n x = (inB (x.l.length : Int) 2 12 && ((List.range x.l.length).all (amongB n x.l) && (rtV x.k x.a x.b && costB17 x))) := by
  unfold ruleB frontB
  have e : inB (x.l.length : Int) 2 12 = decide (2 ≤ x.l.length ∧ x.l.length ≤ 12) := by
    unfold inB; rw [Bool.eq_iff_iff]; simp; omega
  rw [e]
  cases hr : rtV x.k x.a x.b with
  | true => rw [rt_kind hr]; simp
  | false => simp
set_option maxRecDepth 20000 in
set_option maxHeartbeats 8000000 in
theorem p_Rule17 (n : Int) (x : Rl) (A : Option Addr) (c : Nat) (hl : x.l.length ≤ c ∧ c ≤ maxLen) (w : World) (h : Its w w.heap.size A x.l) :
    Calls Tryz.prog 15 #[.int .i64 n, rlv x A c] w (Did (.bool (ruleB n x)) w) := by
  have HI := hid (fun w => p_w17 (x.l.length : Int) 2 12 w)
  have HO := hid (fun X h => p_once17 n A c x.l (by omega) hl.1 X h)
  have HR := hid (fun X => p_RightM x.k x.a x.b X)
  have HC := hid (fun X => p_rcost17 x A c X)
  have Hr := hid (rule_eq n x)
  have H := hid h
  generalize ruleB n x = rr at *
  generalize costB17 x = cc at *
  generalize (List.range x.l.length).all (amongB n x.l) = aa at *
  generalize rtV x.k x.a x.b = rt at *
  obtain ⟨R, W, hR, hW, K, hb0⟩ := (Mem.nil w).one (rlc x A c) 45
  obtain ⟨c0, c1, c2, c3, c4, c5⟩ := K.out.rl (B := R) (x := x) (A := A) (c := c) (t := 45) (by simp)
  generalize inB (x.l.length : Int) 2 12 = ii at *
  clear h hb0
  cases ii with
  | false =>
    go_enter Tryz.func15, Tryz.ntmps15
    go_wp2_with fail
    refine (HI.out _).mono ?_
    rintro e w1 ⟨rfl, rfl⟩
    go_wp2_with fail
    go_ret
    exact Did.mk (by rw [Hr.out]; rfl) K.out.2
  | true =>
    cases aa with
    | false =>
      go_enter Tryz.func15, Tryz.ntmps15
      go_wp2_with fail
      refine (HI.out _).mono ?_
      rintro e w1 ⟨rfl, rfl⟩
      go_wp2_with fail
      refine (HO.out _ (its_next H.out K.out.2)).mono ?_
      rintro e w1 ⟨rfl, b1⟩
      have K1 := hid (K.out.next b1)
      clear c0 c1 c2 c3 c4 c5 HO
      go_wp2_with fail
      go_ret
      exact Did.mk (by rw [Hr.out]; rfl) K1.out.2
    | true =>
      go_enter Tryz.func15, Tryz.ntmps15
      go_wp2_with fail
      refine (HI.out _).mono ?_
      rintro e w1 ⟨rfl, rfl⟩
      go_wp2_with fail
      refine (HO.out _ (its_next H.out K.out.2)).mono ?_
      rintro e w1 ⟨rfl, b1⟩
      have K1 := hid (K.out.next b1)
      clear c0 c1 c2 c3 c4 c5 HO
      obtain ⟨c0, c1, c2, c3, c4, c5⟩ := K1.out.rl (B := R) (x := x) (A := A) (c := c) (t := 45) (by simp)
      cases rt with
      | false =>
        go_wp2_with fail
        refine (HR.out _).mono ?_
        rintro e w2 ⟨rfl, rfl⟩
        go_wp2_with fail
        go_ret
        exact Did.mk (by rw [Hr.out]; rfl) K1.out.2
      | true =>
        go_wp2_with fail
        refine (HR.out _).mono ?_
        rintro e w2 ⟨rfl, rfl⟩
        go_wp2_with fail
        refine (HC.out _).mono ?_
        rintro e w2 ⟨rfl, b2⟩
        have K2 := hid (K1.out.next b2)
        clear c0 c1 c2 c3 c4 c5
        go_wp2_with fail
        go_ret
        exact Did.mk (by rw [Hr.out]; rfl) K2.out.2
end Go.Proofs.YtgmgccepmalahaaGreat
