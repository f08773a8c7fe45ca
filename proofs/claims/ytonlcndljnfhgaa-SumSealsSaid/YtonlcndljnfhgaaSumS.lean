/- Contracts of the document's own answer for layer 4: turned, Unmix, Digest, Seal, Open. -/
import Derived.Test.YtonlcndljnfhgaaSumR
namespace Go.Proofs.Ytonlcndljnfhgaa
open Go.RowKit

/-! ### the number that is 1 with an odd one -/
set_option maxHeartbeats 1000000 in
theorem r_turnedA (w : World) : Calls Try.prog 26 #[.int .u64 11400714819323198485] w (IntRet .u64 Sum.IA w) := by
  go_enter Try.func26, Try.ntmps26
  go_wp2_with fail
  go_loop [3, 4] (fun xv iv => (xv = .int .u64 11400714819323198485 ∧ iv = .int .i64 0) ∨ (xv = .int .u64 15862969329784324093 ∧ iv = .int .i64 1) ∨ (xv = .int .u64 10449034103236961085 ∧ iv = .int .i64 2) ∨ (xv = .int .u64 14592201029865403197 ∧ iv = .int .i64 3) ∨ (xv = .int .u64 6782847518758105917 ∧ iv = .int .i64 4) ∨ (xv = .int .u64 17428512612931826493 ∧ iv = .int .i64 5) ∨ (xv = .int .u64 17428512612931826493 ∧ iv = .int .i64 6)) (fun _ iv => 6 - (intOf iv).toNat)
  case atStart => exact .inl ⟨rfl, rfl⟩
  case round =>
    rcases hrel with ⟨rfl, rfl⟩ | ⟨rfl, rfl⟩ | ⟨rfl, rfl⟩ | ⟨rfl, rfl⟩ | ⟨rfl, rfl⟩ | ⟨rfl, rfl⟩ | ⟨rfl, rfl⟩
    · go_wp2_with fail
      go_round
      case rel => exact .inr (.inl ⟨rfl, rfl⟩)
      case measure => decide
    · go_wp2_with fail
      go_round
      case rel => exact .inr (.inr (.inl ⟨rfl, rfl⟩))
      case measure => decide
    · go_wp2_with fail
      go_round
      case rel => exact .inr (.inr (.inr (.inl ⟨rfl, rfl⟩)))
      case measure => decide
    · go_wp2_with fail
      go_round
      case rel => exact .inr (.inr (.inr (.inr (.inl ⟨rfl, rfl⟩))))
      case measure => decide
    · go_wp2_with fail
      go_round
      case rel => exact .inr (.inr (.inr (.inr (.inr (.inl ⟨rfl, rfl⟩)))))
      case measure => decide
    · go_wp2_with fail
      go_round
      case rel => exact .inr (.inr (.inr (.inr (.inr (.inr (⟨rfl, rfl⟩))))))
      case measure => decide
    · go_wp2_with fail
      go_ret
      exact IntRet.mk _ rfl
set_option maxHeartbeats 1000000 in
theorem r_turnedB (w : World) : Calls Try.prog 26 #[.int .u64 15485907386658061715] w (IntRet .u64 Sum.IB w) := by
  go_enter Try.func26, Try.ntmps26
  go_wp2_with fail
  go_loop [3, 4] (fun xv iv => (xv = .int .u64 15485907386658061715 ∧ iv = .int .i64 0) ∨ (xv = .int .u64 17004603382196614107 ∧ iv = .int .i64 1) ∨ (xv = .int .u64 410469598230280347 ∧ iv = .int .i64 2) ∨ (xv = .int .u64 13839663031444416667 ∧ iv = .int .i64 3) ∨ (xv = .int .u64 6382520196755204251 ∧ iv = .int .i64 4) ∨ (xv = .int .u64 14982988110149298331 ∧ iv = .int .i64 5) ∨ (xv = .int .u64 14982988110149298331 ∧ iv = .int .i64 6)) (fun _ iv => 6 - (intOf iv).toNat)
  case atStart => exact .inl ⟨rfl, rfl⟩
  case round =>
    rcases hrel with ⟨rfl, rfl⟩ | ⟨rfl, rfl⟩ | ⟨rfl, rfl⟩ | ⟨rfl, rfl⟩ | ⟨rfl, rfl⟩ | ⟨rfl, rfl⟩ | ⟨rfl, rfl⟩
    · go_wp2_with fail
      go_round
      case rel => exact .inr (.inl ⟨rfl, rfl⟩)
      case measure => decide
    · go_wp2_with fail
      go_round
      case rel => exact .inr (.inr (.inl ⟨rfl, rfl⟩))
      case measure => decide
    · go_wp2_with fail
      go_round
      case rel => exact .inr (.inr (.inr (.inl ⟨rfl, rfl⟩)))
      case measure => decide
    · go_wp2_with fail
      go_round
      case rel => exact .inr (.inr (.inr (.inr (.inl ⟨rfl, rfl⟩))))
      case measure => decide
    · go_wp2_with fail
      go_round
      case rel => exact .inr (.inr (.inr (.inr (.inr (.inl ⟨rfl, rfl⟩)))))
      case measure => decide
    · go_wp2_with fail
      go_round
      case rel => exact .inr (.inr (.inr (.inr (.inr (.inr (⟨rfl, rfl⟩))))))
      case measure => decide
    · go_wp2_with fail
      go_ret
      exact IntRet.mk _ rfl

theorem i_IB (a : Nat) : IntKind.u64.wrap ((a : Int) * 14982988110149298331) = ((a * Sum.IB % Sum.M : Nat) : Int) := i_mul a Sum.IB
theorem i_IA (a : Nat) : IntKind.u64.wrap ((a : Int) * 17428512612931826493) = ((a * Sum.IA % Sum.M : Nat) : Int) := i_mul a Sum.IA
theorem i_xs58 (a : Nat) (h : a < Sum.M) : bits .xor .u64 ((Sum.xs 29 a : Nat) : Int) ((a : Int) / 536870912 / 536870912) = ((Sum.xs29 a : Nat) : Int) := by
  have h1 := Sum.xs_lt 29 a h
  unfold Sum.M at h h1
  have e : (a : Int) / 536870912 / 536870912 = ((a / 2 ^ 29 / 2 ^ 29 : Nat) : Int) := by omega
  rw [e, bits_xor_u64_nat _ _ h1 (by omega)]
  rfl

set_option maxHeartbeats 1000000 in
theorem r_Unmix (n : Nat) (hn : n < 18446744073709551616) (w : World) : Calls Try.prog 22 #[.int .u64 (n : Int)] w (IntRet .u64 (Sum.unmix n) w) := by
  have h1 := Sum.xs_lt 32 n hn
  have h2 : Sum.xs 32 n * Sum.IB % Sum.M < Sum.M := Nat.mod_lt _ Sum.M_pos
  have h3 := Sum.xs29_lt _ h2
  have h4 : Sum.xs29 (Sum.xs 32 n * Sum.IB % Sum.M) * Sum.IA % Sum.M < Sum.M := Nat.mod_lt _ Sum.M_pos
  have Hres := hid (show Sum.unmix n = Sum.xs 32 (Sum.xs29 (Sum.xs 32 n * Sum.IB % Sum.M) * Sum.IA % Sum.M) from rfl)
  have HA := hid (fun w => r_turnedA w)
  have HB := hid (fun w => r_turnedB w)
  unfold IntRet at HA HB
  rw [show ((Sum.IA : Nat) : Int) = 17428512612931826493 from rfl] at HA
  rw [show ((Sum.IB : Nat) : Int) = 14982988110149298331 from rfl] at HB
  have E1 := i_xs32 n hn
  have E2 := i_IB (Sum.xs 32 n)
  have E3 := i_xs29 _ h2
  have E3' := i_xs58 _ h2
  have E4 := i_IA (Sum.xs29 (Sum.xs 32 n * Sum.IB % Sum.M))
  have E5 := i_xs32 _ h4
  generalize Sum.xs29 (Sum.xs 32 n * Sum.IB % Sum.M) * Sum.IA % Sum.M = x4 at *
  generalize Sum.xs29 (Sum.xs 32 n * Sum.IB % Sum.M) = x3 at *
  generalize Sum.xs 32 n * Sum.IB % Sum.M = x2 at *
  generalize Sum.xs 29 x2 = y2 at *
  generalize Sum.xs 32 n = x1 at *
  generalize Sum.xs 32 x4 = x5 at *
  unfold Sum.M at h1 h2 h3 h4
  have b2 : (x2 : Int) < 18446744073709551616 := by omega
  have b4 : (x4 : Int) < 18446744073709551616 := by omega
  clear h1 h2 h3 h4
  go_enter Try.func22, Try.ntmps22
  go_wp2_with fail
  refine (HB.out _).mono ?_
  rintro e w' ⟨rfl, rfl⟩
  go_wp2_with fail
  refine (HA.out _).mono ?_
  rintro e w' ⟨rfl, rfl⟩
  go_wp2_with fail
  go_ret
  exact IntRet.mk _ (by rw [Hres.out])

theorem dg_take (c : Nat) (l : List UInt8) (k : Nat) (x : UInt8) (hk : k < l.length) (hx : l.getD k 0 = x) : Sum.dg c (l.take (k + 1)) = Sum.mix ((Sum.dg c (l.take k) + x.toNat + 1) % Sum.M) := by
  rw [List.take_succ_eq_append_getElem hk, Sum.dg_snoc, ← hx, List.getD_eq_getElem?_getD, List.getElem?_eq_getElem hk]
  rfl
theorem rq_Mix {n : Nat} (hn : n < 18446744073709551616) {x : Int} (hx : x = n) (w : World) : Calls Try.prog 21 #[.int .u64 x] w (IntRet .u64 (Sum.mix n) w) := by
  subst hx; exact r_Mix n hn w

set_option maxHeartbeats 1000000 in
theorem r_Digest (A : Option Addr) (n c : Nat) (b : List UInt8) (hn : b.length = n) (hm : n ≤ 1000000000) (B : Nat) (w : World) (h : Byt w B A b) :
    Calls Try.prog 24 #[.slice A n c] w (IntRet .u64 (Sum.digest b) w) := by
  subst hn
  have H := hid h
  have HR := hid (fun k => Sum.dg_lt b.length (b.take k) (by unfold Sum.M; omega))
  have Hres := hid (show Sum.digest b = Sum.dg b.length b from rfl)
  have H0 := hid (show Sum.dg b.length (b.take 0) = b.length by rw [List.take_zero]; rfl)
  clear h
  go_enter Try.func24, Try.ntmps24
  go_wp2_with fail
  go_loop [3, 4] (fun cv iv => ∃ k : Nat, cv = .int .u64 (Sum.dg b.length (b.take k) : Nat) ∧ iv = .int .i64 k ∧ k ≤ b.length) (fun _ iv => b.length - (intOf iv).toNat)
  case atStart => exact ⟨0, by first | rw [H0.out] | (rw [H0.out]; congr 1; simp only [IntKind.wrap_u64]; omega), rfl, Nat.zero_le _⟩
  case round =>
    obtain ⟨k, rfl, rfl, hk⟩ := hrel
    by_cases hlt : k < b.length
    · obtain ⟨ad, x, rfl, _, Hx, hc⟩ := Byt.get H.out hlt
      have Hnext := hid (dg_take b.length b k x hlt Hx.out)
      have hR := HR.out k
      generalize Sum.dg b.length (b.take k) = R at *
      unfold Sum.M at hR
      have Hm := hid (fun (y : Int) (hy : y = ((R + x.toNat + 1) % Sum.M : Nat)) (w : World) => rq_Mix (n := (R + x.toNat + 1) % Sum.M) (Nat.mod_lt _ Sum.M_pos) hy w)
      unfold IntRet at Hm
      rw [← Hnext.out] at Hm
      obtain ⟨R2, hR2⟩ : ∃ R2, Sum.dg b.length (b.take (k + 1)) = R2 := ⟨_, rfl⟩
      rw [hR2] at Hm Hnext
      go_wp2_with fail
      refine (Hm.out _ (by unfold Sum.M; simp only [IntKind.wrap_u64]; omega) _).mono ?_
      rintro e w' ⟨rfl, rfl⟩
      go_wp2_with fail
      go_round
      case rel => exact ⟨k + 1, by rw [hR2], by go_num, by omega⟩
      case measure => simp [intOf]; omega
    · obtain rfl : k = b.length := by omega
      rw [List.take_length]
      generalize Sum.dg b.length b = R at *
      go_wp2_with fail
      go_ret
      exact IntRet.mk _ (by rw [Hres.out])
end Go.Proofs.Ytonlcndljnfhgaa
