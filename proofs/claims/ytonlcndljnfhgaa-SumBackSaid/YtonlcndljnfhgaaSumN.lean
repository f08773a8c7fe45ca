/- Contracts of layer 4 (sum): More, Crc, Mix, Unmix, Digest: they compute alone, nothing in memory changes. -/
import Derived.Test.YtonlcndljnfhgaaSumT
namespace Go.Proofs.Ytonlcndljnfhgaa
open Go.RowKit

theorem bits_and1_u32 (v : Nat) (hv : v < 4294967296) : bits .and .u32 (v : Int) 1 = ((v % 2 : Nat) : Int) := by
  have h1 : (BitVec.ofInt 32 (v : Int)).toNat = v := by
    rw [BitVec.ofInt_natCast, BitVec.toNat_ofNat]; exact Nat.mod_eq_of_lt (by omega)
  show IntKind.u32.wrap ((BitVec.ofInt 32 (v : Int) &&& BitVec.ofInt 32 1).toNat : Int) = _
  have h2 : (BitVec.ofInt 32 1).toNat = 1 := by decide
  rw [BitVec.toNat_and, h1, h2, Nat.and_one_is_mod, IntKind.wrap_u32]
  omega
theorem bits_not_u32 (s : Nat) (hs : s < 4294967296) : bits .xor .u32 IntKind.u32.max (s : Int) = ((s ^^^ Sum.ones : Nat) : Int) := by
  rw [Nat.xor_comm]
  exact bits_xor_u32_nat Sum.ones s Sum.ones_lt hs
theorem s_next (v : Nat) (hv : v < 4294967296) : bits .xor .u32 ((v : Int) / 2) (bits .and .u32 (v : Int) 1 * 3988292384 % 4294967296) = ((Sum.S v : Nat) : Int) := by
  rw [bits_and1_u32 v hv]
  have e1 : (v : Int) / 2 = ((v / 2 : Nat) : Int) := by omega
  rcases Nat.mod_two_eq_zero_or_one v with h | h
  · rw [Sum.S_even v h, h, e1]
    have := bits_xor_u32_nat (v / 2) 0 (by omega) (by decide)
    rw [Nat.xor_zero] at this
    exact this
  · rw [Sum.S_odd v h, h, e1]
    exact bits_xor_u32_nat (v / 2) Sum.P (by omega) Sum.P_lt

set_option maxHeartbeats 1000000 in
theorem p_More (s : Nat) (hs : s < 4294967296) (A : Option Addr) (n c : Nat) (b : List UInt8) (hn : b.length = n) (hm : n ≤ 1000000000) (B : Nat) (w : World) (h : Byt w B A b) :
    Calls Try.prog 17 #[.int .u32 (s : Int), .slice A n c] w (IntRet .u32 (Sum.more s b) w) := by
  subst hn
  have H := hid h
  have hR : ∀ k, Sum.reg (s ^^^ Sum.ones) (b.take k) < 4294967296 := fun k => Sum.reg_lt _ _ (Nat.xor_lt_two_pow (n := 32) hs Sum.ones_lt)
  have HR := hid hR
  have Hres := hid (show Sum.more s b = Sum.reg (s ^^^ Sum.ones) b ^^^ Sum.ones from rfl)
  clear h hR
  go_enter Try.func17, Try.ntmps17
  go_wp2_with fail
  go_loop [0, 12] (fun cv iv => ∃ k : Nat, cv = .int .u32 (Sum.reg (s ^^^ Sum.ones) (b.take k) : Nat) ∧ iv = .int .i64 k ∧ k ≤ b.length) (fun _ iv => b.length - (intOf iv).toNat)
  case atStart => 
    refine ⟨0, ?_, rfl, Nat.zero_le _⟩
    exact congrArg (Value.int .u32) (bits_not_u32 s hs)
  case round =>
    obtain ⟨k, rfl, rfl, hk⟩ := hrel
    by_cases hlt : k < b.length
    · obtain ⟨ad, x, rfl, _, Hx, hc⟩ := Byt.get H.out hlt
      have Hnext := hid (reg_take (s ^^^ Sum.ones) b k x hlt Hx.out)
      have hreg := HR.out k
      generalize Sum.reg (s ^^^ Sum.ones) (b.take k) = R at *
      have hx := x.toNat_lt
      have hC : R ^^^ x.toNat < 4294967296 := Nat.xor_lt_two_pow (n := 32) hreg (by omega)
      have HC := hid (bits_xor_u32_nat R x.toNat hreg (by omega))
      have Hby := hid (show Sum.by8 R x = Sum.sh 8 (R ^^^ x.toNat) from rfl)
      generalize hCe : R ^^^ x.toNat = C at *
      clear hCe
      go_wp2_with fail
      go_loop [0, 20] (fun cv jv => ∃ j : Nat, cv = .int .u32 (Sum.sh j C : Nat) ∧ jv = .int .i64 j ∧ j ≤ 8) (fun _ jv => 8 - (intOf jv).toNat)
      case atStart => 
        refine ⟨0, ?_, rfl, Nat.zero_le _⟩
        exact congrArg (Value.int .u32) HC.out
      case round =>
        obtain ⟨j, rfl, rfl, hj⟩ := hrel
        have hsl := Sum.sh_lt j C (by omega)
        have Hsn := hid (sh_next j C)
        obtain ⟨v, hv⟩ : ∃ v, Sum.sh j C = v := ⟨_, rfl⟩
        rw [hv] at hsl Hsn
        rw [hv]
        by_cases hj8 : j < 8
        · go_wp2_with fail
          go_round
          case rel => 
            refine ⟨j + 1, ?_, by go_num, by omega⟩
            rw [Hsn.out]
            exact congrArg (Value.int .u32) (s_next v (by omega))
          case measure => simp [intOf]; omega
        · obtain rfl : j = 8 := by omega
          go_wp2_with fail
          go_round
          case rel => exact ⟨k + 1, by rw [Hnext.out, Hby.out, hv], by go_num, by omega⟩
          case measure => simp [intOf]; omega
    · obtain rfl : k = b.length := by omega
      have Hz := hid (bits_not_u32 _ (HR.out b.length))
      rw [List.take_length] at Hz ⊢
      generalize Sum.reg (s ^^^ Sum.ones) b = R at *
      go_wp2_with fail
      go_ret
      exact IntRet.mk _ (by rw [Hres.out]; exact Hz.out)

theorem p_Crc (A : Option Addr) (n c : Nat) (b : List UInt8) (hn : b.length = n) (hm : n ≤ 1000000000) (B : Nat) (w : World) (h : Byt w B A b) :
    Calls Try.prog 15 #[.slice A n c] w (IntRet .u32 (Sum.crc b) w) := by
  have Hp := hid (p_More 0 (by decide) A n c b hn hm B w h)
  unfold IntRet at Hp ⊢
  rw [show Sum.more 0 b = Sum.crc b from rfl] at Hp
  generalize Sum.crc b = v at *
  go_enter Try.func15, Try.ntmps15
  go_wp2_with fail
  refine (Hp.out).mono ?_
  rintro e w' ⟨rfl, rfl⟩
  go_wp2_with fail
  go_ret
  exact ⟨rfl, rfl⟩

set_option maxHeartbeats 1000000 in
theorem p_Mix (n : Nat) (hn : n < 18446744073709551616) (w : World) : Calls Try.prog 14 #[.int .u64 (n : Int)] w (IntRet .u64 (Sum.mix n) w) := by
  have h1 := Sum.xs_lt 32 n hn
  have h2 : Sum.xs 32 n * Sum.KA % Sum.M < Sum.M := Nat.mod_lt _ Sum.M_pos
  have h3 := Sum.xs_lt 29 _ h2
  have h4 : Sum.xs 29 (Sum.xs 32 n * Sum.KA % Sum.M) * Sum.KB % Sum.M < Sum.M := Nat.mod_lt _ Sum.M_pos
  have Hres := hid (show Sum.mix n = Sum.xs 32 (Sum.xs 29 (Sum.xs 32 n * Sum.KA % Sum.M) * Sum.KB % Sum.M) from rfl)
  have E1 := i_xs32 n hn
  have E2 := i_KA (Sum.xs 32 n)
  have E3 := i_xs29 _ h2
  have E4 := i_KB (Sum.xs 29 (Sum.xs 32 n * Sum.KA % Sum.M))
  have E5 := i_xs32 _ h4
  generalize Sum.xs 29 (Sum.xs 32 n * Sum.KA % Sum.M) * Sum.KB % Sum.M = x4 at *
  generalize Sum.xs 29 (Sum.xs 32 n * Sum.KA % Sum.M) = x3 at *
  generalize Sum.xs 32 n * Sum.KA % Sum.M = x2 at *
  generalize Sum.xs 32 n = x1 at *
  generalize Sum.xs 32 x4 = x5 at *
  unfold Sum.M at h1 h2 h3 h4
  have b2 : (x2 : Int) < 18446744073709551616 := by omega
  have b4 : (x4 : Int) < 18446744073709551616 := by omega
  clear h1 h2 h3 h4
  go_enter Try.func14, Try.ntmps14
  go_wp2_with fail
  go_ret
  exact IntRet.mk _ (by rw [Hres.out])

theorem i_xs58' (a : Nat) (h : a < Sum.M) : bits .xor .u64 (a : Int) (bits .xor .u64 ((a : Int) / 536870912) ((a : Int) / 288230376151711744)) = ((Sum.xs29 a : Nat) : Int) := by
  unfold Sum.M at h
  have e1 : (a : Int) / 536870912 = ((a / 2 ^ 29 : Nat) : Int) := by omega
  have e2 : (a : Int) / 288230376151711744 = ((a / 2 ^ 29 / 2 ^ 29 : Nat) : Int) := by omega
  have hx : a / 2 ^ 29 ^^^ a / 2 ^ 29 / 2 ^ 29 < 2 ^ 64 := Nat.xor_lt_two_pow (by omega) (by omega)
  rw [e1, e2, bits_xor_u64_nat _ _ (by omega) (by omega), bits_xor_u64_nat _ _ h (by omega)]
  unfold Sum.xs29
  rw [Nat.xor_assoc]

set_option maxHeartbeats 1000000 in
theorem p_Unmix (n : Nat) (hn : n < 18446744073709551616) (w : World) : Calls Try.prog 13 #[.int .u64 (n : Int)] w (IntRet .u64 (Sum.unmix n) w) := by
  have h1 := Sum.xs_lt 32 n hn
  have h2 : Sum.xs 32 n * Sum.IB % Sum.M < Sum.M := Nat.mod_lt _ Sum.M_pos
  have h3 := Sum.xs29_lt _ h2
  have h4 : Sum.xs29 (Sum.xs 32 n * Sum.IB % Sum.M) * Sum.IA % Sum.M < Sum.M := Nat.mod_lt _ Sum.M_pos
  have Hres := hid (show Sum.unmix n = Sum.xs 32 (Sum.xs29 (Sum.xs 32 n * Sum.IB % Sum.M) * Sum.IA % Sum.M) from rfl)
  have E1 := i_xs32 n hn
  have E2 := i_IB (Sum.xs 32 n)
  have E3 := i_xs58' _ h2
  have E4 := i_IA (Sum.xs29 (Sum.xs 32 n * Sum.IB % Sum.M))
  have E5 := i_xs32 _ h4
  generalize Sum.xs29 (Sum.xs 32 n * Sum.IB % Sum.M) * Sum.IA % Sum.M = x4 at *
  generalize Sum.xs29 (Sum.xs 32 n * Sum.IB % Sum.M) = x3 at *
  generalize Sum.xs 32 n * Sum.IB % Sum.M = x2 at *
  generalize Sum.xs 32 n = x1 at *
  generalize Sum.xs 32 x4 = x5 at *
  unfold Sum.M at h1 h2 h3 h4
  have b2 : (x2 : Int) < 18446744073709551616 := by omega
  have b4 : (x4 : Int) < 18446744073709551616 := by omega
  clear h1 h2 h3 h4
  go_enter Try.func13, Try.ntmps13
  go_wp2_with fail
  go_ret
  exact IntRet.mk _ (by rw [Hres.out])

theorem pq_Mix {n : Nat} (hn : n < 18446744073709551616) {x : Int} (hx : x = n) (w : World) : Calls Try.prog 14 #[.int .u64 x] w (IntRet .u64 (Sum.mix n) w) := by
  subst hx; exact p_Mix n hn w

set_option maxHeartbeats 1000000 in
theorem p_Digest (A : Option Addr) (n c : Nat) (b : List UInt8) (hn : b.length = n) (hm : n ≤ 1000000000) (B : Nat) (w : World) (h : Byt w B A b) :
    Calls Try.prog 23 #[.slice A n c] w (IntRet .u64 (Sum.digest b) w) := by
  subst hn
  have H := hid h
  have HR := hid (fun k => Sum.dg_lt b.length (b.take k) (by unfold Sum.M; omega))
  have Hres := hid (show Sum.digest b = Sum.dg b.length b from rfl)
  have H0 := hid (show Sum.dg b.length (b.take 0) = b.length by rw [List.take_zero]; rfl)
  clear h
  go_enter Try.func23, Try.ntmps23
  go_wp2_with fail
  go_loop [3, 11] (fun cv iv => ∃ k : Nat, cv = .int .u64 (Sum.dg b.length (b.take k) : Nat) ∧ iv = .int .i64 k ∧ k ≤ b.length) (fun _ iv => b.length - (intOf iv).toNat)
  case atStart => exact ⟨0, by first | rw [H0.out] | (rw [H0.out]; congr 1; simp only [IntKind.wrap_u64]; omega), rfl, Nat.zero_le _⟩
  case round =>
    obtain ⟨k, rfl, rfl, hk⟩ := hrel
    by_cases hlt : k < b.length
    · obtain ⟨ad, x, rfl, _, Hx, hc⟩ := Byt.get H.out hlt
      have Hnext := hid (dg_take b.length b k x hlt Hx.out)
      have hR := HR.out k
      generalize Sum.dg b.length (b.take k) = R at *
      unfold Sum.M at hR
      have Hm := hid (fun (y : Int) (hy : y = ((R + x.toNat + 1) % Sum.M : Nat)) (w : World) => pq_Mix (n := (R + x.toNat + 1) % Sum.M) (Nat.mod_lt _ Sum.M_pos) hy w)
      unfold IntRet at Hm
      rw [← Hnext.out] at Hm
      obtain ⟨R2, hR2⟩ : ∃ R2, Sum.dg b.length (b.take (k + 1)) = R2 := ⟨_, rfl⟩
      rw [hR2] at Hm Hnext
      go_wp2_with fail
      refine (Hm.out _ (by unfold Sum.M; simp only [IntKind.wrap_u64]; omega) _).mono ?_
      rintro e w' ⟨rfl, rfl⟩
      go_wp2_with fail
      go_round
      case rel => exact ⟨k + 1, by rw [hR2], by go_num, by omega⟩
      case measure => simp [intOf]; omega
    · obtain rfl : k = b.length := by omega
      rw [List.take_length]
      generalize Sum.dg b.length b = R at *
      go_wp2_with fail
      go_ret
      exact IntRet.mk _ (by rw [Hres.out])
end Go.Proofs.Ytonlcndljnfhgaa
