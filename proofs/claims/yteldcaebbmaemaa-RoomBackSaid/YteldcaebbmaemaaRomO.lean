/- Contracts of the program's own functions of layer 11 (room): within, Name, Walk, Fits, Shut. -/
import Derived.Test.YteldcaebbmaemaaRomG
import Derived.Test.YteldcaebbmaemaaRomH
namespace Go.Proofs.Yteldcaebbmaemaa
open Go.RowKit
open Whn (Gr Wh)

def inB (n a b : Int) : Bool := decide (a ≤ n) && decide (n ≤ b)
theorem inB_true {n a b : Int} (h1 : a ≤ n) (h2 : n ≤ b) : inB n a b = true := by unfold inB; rw [decide_eq_true h1, decide_eq_true h2]; rfl
theorem inB_false {n a b : Int} (h : n < a ∨ b < n) : inB n a b = false := by
  unfold inB
  by_cases h1 : a ≤ n
  · rw [decide_eq_false (show ¬ n ≤ b by omega), Bool.and_false]
  · rw [decide_eq_false h1, Bool.false_and]
theorem p_wi (n a b : Int) (w : World) : Calls Try.prog 41 #[.int .i64 n, .int .i64 a, .int .i64 b] w (fun e w' => e = .returned (.bool (inB n a b)) ∧ w = w') := by
  by_cases h1 : a ≤ n
  · have h2 := hid (show decide (n ≤ b) = inB n a b by unfold inB; rw [decide_eq_true h1, Bool.true_and])
    go_enter Try.func41, Try.ntmps41
    go_wp2_with fail
    go_ret
    exact ⟨congrArg (fun z => Ending.returned (Value.bool z)) h2.out, rfl⟩
  · have h2 := hid (show false = inB n a b from (inB_false (by omega)).symm)
    go_enter Try.func41, Try.ntmps41
    go_wp2_with fail
    go_ret
    exact ⟨congrArg (fun z => Ending.returned (Value.bool z)) h2.out, rfl⟩
theorem p_Name (s : ByteArray) (w : World) : Calls Try.prog 14 #[.string s] w (fun e w' => e = .returned (.bool (nameOk s.data.toList)) ∧ w = w') := by
  have HI := hid (fun n a b w => p_wi n a b w)
  have Hr := hid (show inB (s.size : Int) 1 24 = nameOk s.data.toList by
    unfold inB nameOk
    have e : s.data.toList.length = s.size := rfl
    rw [e]
    congr 1 <;> (rw [decide_eq_decide]; omega))
  go_enter Try.func14, Try.ntmps14
  go_wp2_with fail
  refine (HI.out _ _ _ _).mono ?_
  rintro e w1 ⟨rfl, rfl⟩
  go_wp2_with fail
  go_ret
  exact ⟨congrArg (fun z => Ending.returned (Value.bool z)) Hr.out, rfl⟩
set_option maxHeartbeats 1000000 in
theorem p_Walk (A : Option Addr) (c : Nat) (ls : List (List Int)) (hm : ls.length ≤ maxLen) (hrl : ∀ l ∈ ls, l.length ≤ maxLen) (a b : Int) (w : World) (h : Rows2 w w.heap.size A ls) :
    Calls Try.prog 24 #[.slice A ls.length c, .int .i64 a, .int .i64 b] w (Did (.int .i64 (wkAt ls a b)) w) := by
  have HI := hid (fun n a b w => p_wi n a b w)
  unfold maxLen at hm
  by_cases ha : 0 ≤ a ∧ a < ls.length
  · obtain ⟨k, rfl⟩ := Int.eq_ofNat_of_zero_le ha.1
    have hk : k < ls.length := by omega
    obtain ⟨ad, r, Ak, ck, rfl, had, hr, hc, hI, hck⟩ := rows2_ad h hk
    have hrm : r.length ≤ 9223372036854775807 := by
      have := hrl r (List.mem_of_getElem? hr.out)
      unfold maxLen at this
      omega
    have hg : ls.getD k [] = r := by rw [List.getD_eq_getElem?_getD, hr.out]; rfl
    have Hr := hid (show wkAt ls (k : Int) b = if 0 ≤ b ∧ b < r.length then r.getD b.toNat 0 else 0 by
      unfold wkAt
      rw [Int.toNat_natCast, hg]
      by_cases hb : 0 ≤ b ∧ b < r.length
      · rw [if_pos hb, if_pos (by omega)]
      · rw [if_neg hb, if_neg (by omega)])
    have hin := hid (show inB (k : Int) 0 ((ls.length : Int) - 1) = true from inB_true (by omega) (by omega))
    have a3 : (0 : Int) ≤ (k : Int) := by omega
    have a4 : (k : Int) < ls.length := by omega
    clear hg h hr hrl ha
    by_cases hb : 0 ≤ b ∧ b < r.length
    · obtain ⟨j, rfl⟩ := Int.eq_ofNat_of_zero_le hb.1
      have hj : j < r.length := by omega
      obtain ⟨ad2, x, rfl, had2, hx, hc2⟩ := hI.get hj
      have b3 : (0 : Int) ≤ (j : Int) := by omega
      have b4 : (j : Int) < r.length := by omega
      have Hx := hid (show wkAt ls (k : Int) (j : Int) = x by
        rw [Hr.out, if_pos ⟨b3, b4⟩, Int.toNat_natCast, List.getD_eq_getElem?_getD, hx.out]; rfl)
      have hin2 := hid (show inB (j : Int) 0 ((r.length : Int) - 1) = true from inB_true (by omega) (by omega))
      clear hI Hr hb
      go_enter Try.func24, Try.ntmps24
      go_wp2_with fail
      refine (HI.out _ _ _ _).mono ?_
      rw [hin.out]
      rintro e w1 ⟨rfl, rfl⟩
      go_wp2_with fail
      refine (HI.out _ _ _ _).mono ?_
      rw [hin2.out]
      rintro e w1 ⟨rfl, rfl⟩
      go_wp2_with fail
      go_ret
      exact Did.mk (by rw [Hx.out]; rfl) (Below.refl _ _)
    · have Hx := hid (show wkAt ls (k : Int) b = 0 by
        rw [Hr.out, if_neg hb])
      have hin2 := hid (show inB b 0 ((r.length : Int) - 1) = false from inB_false (by omega))
      clear hI Hr hb
      go_enter Try.func24, Try.ntmps24
      go_wp2_with fail
      refine (HI.out _ _ _ _).mono ?_
      rw [hin.out]
      rintro e w1 ⟨rfl, rfl⟩
      go_wp2_with fail
      refine (HI.out _ _ _ _).mono ?_
      rw [hin2.out]
      rintro e w1 ⟨rfl, rfl⟩
      go_wp2_with fail
      go_ret
      exact Did.mk (by rw [Hx.out]; rfl) (Below.refl _ _)
  · have Hx := hid (show wkAt ls a b = 0 by
      unfold wkAt
      rw [if_neg (by omega)])
    have hin := hid (show inB a 0 ((ls.length : Int) - 1) = false from inB_false (by omega))
    clear h ha hrl
    go_enter Try.func24, Try.ntmps24
    go_wp2_with fail
    refine (HI.out _ _ _ _).mono ?_
    rw [hin.out]
    rintro e w1 ⟨rfl, rfl⟩
    go_wp2_with fail
    go_ret
    exact Did.mk (by rw [Hx.out]; rfl) (Below.refl _ _)
set_option maxHeartbeats 2000000 in
theorem p_Fits (r : Rm) (A : Option Addr) (c : Nat) (hg : r.g < 65536) (s : Int) (g : Nat) (hg2 : g < 65536) (w : World) :
    Calls Try.prog 18 #[rv r A c, .int .i64 s, .int .u16 (g : Int)] w (Did (.bool (fitsB r s g)) w) := by
  have Hr := hid (show fitsB r s g = (decide (s ≤ r.s) && decide (r.g &&& g = g)) from rfl)
  obtain ⟨P, W, hP, hW, K, hb0⟩ := (Mem.nil w).one (rc r A c) 27
  obtain ⟨r0, r1, r2, r3⟩ := K.out.rm (B := P) (r := r) (A := A) (c := c) (by simp)
  by_cases h1 : s ≤ r.s
  · have ha := hid (show (bits .and .u16 (r.g : Int) (g : Int) == (g : Int)) = decide (r.g &&& g = g) by
      rw [o_and16 _ _ hg hg2, Bool.eq_iff_iff, beq_iff_eq, decide_eq_true_iff]
      exact ⟨fun h => by omega, fun h => by omega⟩)
    go_enter Try.func18, Try.ntmps18
    go_wp2_with fail
    go_ret
    refine Did.mk ?_ K.out.2
    rw [Hr.out, decide_eq_true h1, ← ha.out]
    rfl
  · have h2 : r.s < s := by omega
    rw [decide_eq_false h1] at Hr
    clear h1
    go_enter Try.func18, Try.ntmps18
    go_wp2_with fail
    go_ret
    exact Did.mk (by rw [Hr.out]; rfl) K.out.2
end Go.Proofs.Yteldcaebbmaemaa
