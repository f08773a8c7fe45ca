/- The program's Count (layer 5), and the library's count of a word's bits. -/
import Derived.Test.YteejccppdmjlaaaDoorBitA
import Derived.Test.YteejccppdmjlaaaDoorBitM
namespace Go.Proofs.YteejccppdmjlaaaDoor
open Go.RowKit

theorem and_nat64 (x m : Nat) (hx : x < 18446744073709551616) (hm : m < 18446744073709551616) : bits .and .u64 (x : Int) (m : Int) = ((x &&& m : Nat) : Int) := bits_and_u64_nat x m hx hm
theorem and_i64 (x m : Nat) (hx : x < 9223372036854775808) (hm : m < 9223372036854775808) : bits .and .i64 (x : Int) (m : Int) = ((x &&& m : Nat) : Int) := by
  have h1 : (BitVec.ofInt 64 (x : Int)).toNat = x := by
    rw [BitVec.ofInt_natCast, BitVec.toNat_ofNat]; exact Nat.mod_eq_of_lt (by omega)
  have h2 : (BitVec.ofInt 64 (m : Int)).toNat = m := by
    rw [BitVec.ofInt_natCast, BitVec.toNat_ofNat]; exact Nat.mod_eq_of_lt (by omega)
  have hl : x &&& m ≤ x := Nat.and_le_left
  show IntKind.i64.wrap ((BitVec.ofInt 64 (x : Int) &&& BitVec.ofInt 64 (m : Int)).toNat : Int) = _
  rw [BitVec.toNat_and, h1, h2, IntKind.wrap_i64]
  omega
theorem wrap_sum (a b : Nat) (h : a + b < 18446744073709551616) : IntKind.u64.wrap ((a : Int) + (b : Int)) = ((a + b : Nat) : Int) := by
  rw [IntKind.wrap_u64]
  omega
theorem cast_div (x d : Nat) (D : Int) (hD : D = (d : Int)) : (x : Int) / D = ((x / d : Nat) : Int) := by
  subst hD
  exact (Int.natCast_ediv x d).symm

set_option maxRecDepth 20000 in
set_option maxHeartbeats 2000000 in
theorem p_Ones (x : Nat) (hx : x < 18446744073709551616) (w : World) : Calls Tryd.prog 27 #[.int .u64 (x : Int)] w fun e w' => e = .returned (.int .i64 (Bst.pop x : Int)) ∧ w = w' := by
  obtain ⟨h1, h2, h3, _⟩ := Bst.c_bounds x hx
  obtain ⟨h4, h5, h6, h7⟩ := Bst.c_end x hx
  have h3' : Bst.c3 (Bst.c2 (Bst.c1 x)) < 18446744073709551616 := by
    unfold Bst.c3 at *
    exact Nat.lt_of_le_of_lt Nat.and_le_left h3
  have E1 : IntKind.u64.wrap (bits .and .u64 ((x : Int) / 2) 6148914691236517205 + bits .and .u64 (x : Int) 6148914691236517205) = ((Bst.c1 x : Nat) : Int) := by
    rw [cast_div x 2 2 rfl]
    have a1 : bits .and .u64 ((x / 2 : Nat) : Int) 6148914691236517205 = ((x / 2 &&& 6148914691236517205 : Nat) : Int) := and_nat64 (x / 2) 6148914691236517205 (by omega) (by decide)
    have a2 : bits .and .u64 (x : Int) 6148914691236517205 = ((x &&& 6148914691236517205 : Nat) : Int) := and_nat64 x 6148914691236517205 hx (by decide)
    unfold Bst.c1 at h1 ⊢
    rw [a1, a2]
    exact wrap_sum _ _ h1
  generalize Bst.c1 x = y1 at *
  have E2 : IntKind.u64.wrap (bits .and .u64 ((y1 : Int) / 4) 3689348814741910323 + bits .and .u64 (y1 : Int) 3689348814741910323) = ((Bst.c2 y1 : Nat) : Int) := by
    rw [cast_div y1 4 4 rfl]
    have a1 : bits .and .u64 ((y1 / 4 : Nat) : Int) 3689348814741910323 = ((y1 / 4 &&& 3689348814741910323 : Nat) : Int) := and_nat64 (y1 / 4) 3689348814741910323 (by omega) (by decide)
    have a2 : bits .and .u64 (y1 : Int) 3689348814741910323 = ((y1 &&& 3689348814741910323 : Nat) : Int) := and_nat64 y1 3689348814741910323 h1 (by decide)
    unfold Bst.c2 at h2 ⊢
    rw [a1, a2]
    exact wrap_sum _ _ h2
  generalize Bst.c2 y1 = y2 at *
  have E3 : bits .and .u64 (IntKind.u64.wrap ((y2 : Int) / 16 + (y2 : Int))) 1085102592571150095 = ((Bst.c3 y2 : Nat) : Int) := by
    rw [cast_div y2 16 16 rfl, wrap_sum _ _ h3]
    exact and_nat64 (y2 / 16 + y2) 1085102592571150095 h3 (by decide)
  generalize Bst.c3 y2 = y3 at *
  have E4 : IntKind.u64.wrap ((y3 : Int) + (y3 : Int) / 256) = ((Bst.c4 y3 : Nat) : Int) := by
    rw [cast_div y3 256 256 rfl]
    exact wrap_sum _ _ h4
  generalize Bst.c4 y3 = y4 at *
  have E5 : IntKind.u64.wrap ((y4 : Int) + (y4 : Int) / 65536) = ((Bst.c5 y4 : Nat) : Int) := by
    rw [cast_div y4 65536 65536 rfl]
    exact wrap_sum _ _ h5
  generalize Bst.c5 y4 = y5 at *
  have E6 : IntKind.u64.wrap ((y5 : Int) + (y5 : Int) / 4294967296) = ((Bst.c6 y5 : Nat) : Int) := by
    rw [cast_div y5 4294967296 4294967296 rfl]
    exact wrap_sum _ _ (Nat.lt_trans h6 (by decide))
  generalize Bst.c6 y5 = y6 at *
  have E8 : wrap64 (y6 : Int) = (y6 : Int) := by
    unfold wrap64
    omega
  have E7 : bits .and .i64 (y6 : Int) 127 = ((Bst.pop x : Nat) : Int) := by
    refine (and_i64 y6 127 h6 (by decide)).trans ?_
    rw [show (127 : Nat) = 2 ^ 7 - 1 from rfl, Nat.and_two_pow_sub_one_eq_mod, show (2 : Nat) ^ 7 = 128 from rfl, h7]
  generalize Bst.pop x = p at *
  clear hx h1 h2 h3 h4 h5 h6 h7 h3'
  go_enter Tryd.func27, Tryd.ntmps27
  go_wp2_with fail
  go_ret
  exact ⟨rfl, rfl⟩

set_option maxHeartbeats 1000000 in
theorem p_Count (A : Option Addr) (n c : Nat) (s : List Nat) (hn : s.length = n) (hm : n ≤ 10000) (hok : Bst.Ok s) (B : Nat) (w : World) (_hB : B ≤ w.heap.size) (h : Us w B A s) :
    Calls Tryd.prog 12 #[.slice A n c] w (CntRet (Bst.lst s).length w) := by
  subst hn
  have H := hid h
  have Hok := hid hok
  have Hend := hid (show (Bst.upto s (64 * s.length)).length = (Bst.lst s).length by rw [Bst.upto_more s _ (Nat.le_refl _)])
  have Hup := hid (fun k => Bst.upto_word s k)
  have Hle := hid (fun k => Bst.upto_len s (64 * k))
  have H0 := hid (show (Bst.upto s (64 * 0)).length = 0 from rfl)
  clear h hok
  go_enter Tryd.func12, Tryd.ntmps12
  go_wp2_with fail
  go_loop [3, 8] (fun cv iv => ∃ k m : Nat, iv = .int .i64 k ∧ k ≤ s.length ∧ cv = .int .i64 m ∧ Hid ((Bst.upto s (64 * k)).length = m)) (fun _ iv => s.length - (intOf iv).toNat)
  case atStart => exact ⟨0, 0, rfl, Nat.zero_le _, rfl, H0⟩
  case round =>
    obtain ⟨k, m, rfl, hk, rfl, hc⟩ := hrel
    have hml := Hle.out k
    rw [hc.out] at hml
    by_cases hlt : k < s.length
    · obtain ⟨ad, x, rfl, _, Hx, hcx⟩ := Us.get H.out hlt
      have hxl := Hok.out.getD k
      rw [Hx.out] at hxl
      have Hc := hid (fun w => p_Ones x hxl w)
      have Hnext := hid (Hup.out k)
      rw [hc.out, Hx.out] at Hnext
      have hnl := Hle.out (k + 1)
      rw [Hnext.out] at hnl
      generalize Bst.pop x = q at *
      have i1 : (0 : Int) ≤ (k : Int) := by omega
      have i2 : (k : Int) < (s.length : Int) := by omega
      have hs : IntKind.i64.wrap ((m : Int) + (q : Int)) = ((m + q : Nat) : Int) := by rw [IntKind.wrap_i64]; omega
      clear hxl
      go_wp2_with fail
      refine (Hc.out _).mono ?_
      rintro e w' ⟨rfl, rfl⟩
      go_wp2_with fail
      refine ⟨⟨k + 1, m + q, by go_num, by omega, by go_num, Hnext⟩, by simp [intOf]; omega⟩
    · obtain rfl : k = s.length := by omega
      go_wp2_with fail
      go_ret
      exact ⟨by rw [← Hend.out, hc.out]; rfl, Below.refl _ _⟩
end Go.Proofs.YteejccppdmjlaaaDoor
