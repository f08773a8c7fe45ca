/- Contracts of the document's own answer for layer 11 (room): Walk. -/
import Derived.Test.YteldcaebbmaemaaRomE
namespace Go.Proofs.Yteldcaebbmaemaa
open Go.RowKit

def wkAt (ls : List (List Int)) (a b : Int) : Int := if 0 ≤ a ∧ a < ls.length ∧ 0 ≤ b ∧ b < (ls.getD a.toNat []).length then (ls.getD a.toNat []).getD b.toNat 0 else 0
theorem rows2_ad {w : World} {B : Nat} {A : Option Addr} {ls : List (List Int)} (h : Rows2 w B A ls) {k : Nat} (hk : k < ls.length) : ∃ ad r Ak ck, A = some ad ∧ ad.block < B ∧ Hid (ls[k]? = some r) ∧ w.cell? (ad.add k) = some (.slice Ak r.length ck) ∧ Its w B Ak r ∧ r.length ≤ ck := by
  obtain ⟨ad, e, hb, hc⟩ := h (by intro e; subst e; simp at hk)
  obtain ⟨Ak, ck, h1, h2, h3⟩ := hc k ls[k] (List.getElem?_eq_getElem hk)
  exact ⟨ad, ls[k], Ak, ck, e, hb, List.getElem?_eq_getElem hk, h1, h2, h3⟩
set_option maxHeartbeats 1000000 in
theorem r_Walk (A : Option Addr) (c : Nat) (ls : List (List Int)) (a b : Int) (w : World) (h : Rows2 w w.heap.size A ls) :
    Calls Try.prog 25 #[.slice A ls.length c, .int .i64 a, .int .i64 b] w (Did (.int .i64 (wkAt ls a b)) w) := by
  by_cases a1 : 0 ≤ a
  · obtain ⟨k, rfl⟩ := Int.eq_ofNat_of_zero_le a1
    clear a1
    by_cases a2 : k < ls.length
    · obtain ⟨ad, r, Ak, ck, rfl, had, hr, hc, hI, hck⟩ := rows2_ad h a2
      have hg : ls.getD k [] = r := by rw [List.getD_eq_getElem?_getD, hr.out]; rfl
      have Hr := hid (show wkAt ls (k : Int) b = if 0 ≤ b ∧ b < r.length then r.getD b.toNat 0 else 0 by
        unfold wkAt
        rw [Int.toNat_natCast, hg]
        by_cases hb : 0 ≤ b ∧ b < r.length
        · rw [if_pos hb, if_pos (by omega)]
        · rw [if_neg hb, if_neg (by omega)])
      clear hg h hr
      have a3 : (0 : Int) ≤ (k : Int) := by omega
      have a4 : (k : Int) < ls.length := by omega
      by_cases b1 : 0 ≤ b
      · obtain ⟨j, rfl⟩ := Int.eq_ofNat_of_zero_le b1
        clear b1
        by_cases b2 : j < r.length
        · obtain ⟨ad2, x, rfl, had2, hx, hc2⟩ := hI.get b2
          have b3 : (0 : Int) ≤ (j : Int) := by omega
          have b4 : (j : Int) < r.length := by omega
          have Hx := hid (show wkAt ls (k : Int) (j : Int) = x by
            rw [Hr.out, if_pos ⟨b3, b4⟩, Int.toNat_natCast, List.getD_eq_getElem?_getD, hx.out]; rfl)
          clear hI Hr
          go_enter Try.func25, Try.ntmps25
          go_wp2_with fail
          go_ret
          exact Did.mk (by rw [Hx.out]; rfl) (Below.refl _ _)
        · have b3 : (0 : Int) ≤ (j : Int) := by omega
          have b4 : (r.length : Int) ≤ (j : Int) := by omega
          have Hx := hid (show wkAt ls (k : Int) (j : Int) = 0 by
            rw [Hr.out, if_neg (by omega)])
          clear hI Hr
          go_enter Try.func25, Try.ntmps25
          go_wp2_with fail
          go_ret
          exact Did.mk (by rw [Hx.out]; rfl) (Below.refl _ _)
      · have b3 : b < 0 := by omega
        have Hx := hid (show wkAt ls (k : Int) b = 0 by
          rw [Hr.out, if_neg (by omega)])
        clear hI Hr b1
        go_enter Try.func25, Try.ntmps25
        go_wp2_with fail
        go_ret
        exact Did.mk (by rw [Hx.out]; rfl) (Below.refl _ _)
    · have a3 : (0 : Int) ≤ (k : Int) := by omega
      have a4 : (ls.length : Int) ≤ (k : Int) := by omega
      have Hx := hid (show wkAt ls (k : Int) b = 0 by
        unfold wkAt
        rw [if_neg (by omega)])
      clear h
      go_enter Try.func25, Try.ntmps25
      go_wp2_with fail
      go_ret
      exact Did.mk (by rw [Hx.out]; rfl) (Below.refl _ _)
  · have a3 : a < 0 := by omega
    have Hx := hid (show wkAt ls a b = 0 by
      unfold wkAt
      rw [if_neg (by omega)])
    clear h a1
    go_enter Try.func25, Try.ntmps25
    go_wp2_with fail
    go_ret
    exact Did.mk (by rw [Hx.out]; rfl) (Below.refl _ _)
end Go.Proofs.Yteldcaebbmaemaa
