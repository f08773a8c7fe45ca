/- Contracts of the document's own answer for layer 4: More, Crc, Mix, turned, Unmix, Digest. -/
import Derived.Test.YtonlcndljnfhgaaRowB
import Derived.Test.YtonlcndljnfhgaaSumM
import Derived.Laws.Bits64
namespace Go.Proofs.Ytonlcndljnfhgaa
open Go.RowKit

theorem bits_xor_u32_nat (a b : Nat) (ha : a < 4294967296) (hb : b < 4294967296) : bits .xor .u32 (a : Int) (b : Int) = ((a ^^^ b : Nat) : Int) := by
  have hx : a ^^^ b < 2 ^ 32 := Nat.xor_lt_two_pow (by omega) (by omega)
  have h1 : (BitVec.ofInt 32 (a : Int)).toNat = a := by
    rw [BitVec.ofInt_natCast, BitVec.toNat_ofNat]; exact Nat.mod_eq_of_lt (by omega)
  have h2 : (BitVec.ofInt 32 (b : Int)).toNat = b := by
    rw [BitVec.ofInt_natCast, BitVec.toNat_ofNat]; exact Nat.mod_eq_of_lt (by omega)
  show IntKind.u32.wrap ((BitVec.ofInt 32 (a : Int) ^^^ BitVec.ofInt 32 (b : Int)).toNat : Int) = _
  rw [BitVec.toNat_xor, h1, h2, IntKind.wrap_u32]
  omega

def IntRet (k : IntKind) (v : Nat) (w : World) (e : Ending) (w' : World) : Prop := e = .returned (.int k (v : Int)) ∧ w = w'
theorem IntRet.mk {k : IntKind} {v : Nat} {x : Int} (w : World) (h : x = v) : IntRet k v w (.returned (.int k x)) w := by unfold IntRet; rw [h]; exact ⟨rfl, rfl⟩

theorem sh_next (j c : Nat) : Sum.sh (j + 1) c = Sum.S (Sum.sh j c) := by rw [Sum.sh_add]; rfl
theorem reg_take (c : Nat) (l : List UInt8) (k : Nat) (x : UInt8) (hk : k < l.length) (hx : l.getD k 0 = x) : Sum.reg c (l.take (k + 1)) = Sum.by8 (Sum.reg c (l.take k)) x := by
  rw [List.take_succ_eq_append_getElem hk, Sum.reg_snoc, ← hx, List.getD_eq_getElem?_getD, List.getElem?_eq_getElem hk]
  rfl

set_option maxHeartbeats 1000000 in
theorem r_More (s : Nat) (hs : s < 4294967296) (A : Option Addr) (n c : Nat) (b : List UInt8) (hn : b.length = n) (hm : n ≤ 1000000000) (B : Nat) (w : World) (h : Byt w B A b) :
    Calls Try.prog 18 #[.int .u32 (s : Int), .slice A n c] w (IntRet .u32 (Sum.more s b) w) := by
  subst hn
  have H := hid h
  have hR : ∀ k, Sum.reg (s ^^^ Sum.ones) (b.take k) < 4294967296 := fun k => Sum.reg_lt _ _ (Nat.xor_lt_two_pow (n := 32) hs Sum.ones_lt)
  have HR := hid hR
  have h0 := hid (bits_xor_u32_nat s Sum.ones hs Sum.ones_lt)
  have Hres := hid (show Sum.more s b = Sum.reg (s ^^^ Sum.ones) b ^^^ Sum.ones from rfl)
  clear h hR
  go_enter Try.func18, Try.ntmps18
  go_wp2_with fail
  go_loop [5, 6] (fun cv iv => ∃ k : Nat, cv = .int .u32 (Sum.reg (s ^^^ Sum.ones) (b.take k) : Nat) ∧ iv = .int .i64 k ∧ k ≤ b.length) (fun _ iv => b.length - (intOf iv).toNat)
  case atStart => exact ⟨0, congrArg (Value.int .u32) h0.out, rfl, Nat.zero_le _⟩
  case round =>
    obtain ⟨k, rfl, rfl, hk⟩ := hrel
    by_cases hlt : k < b.length
    · obtain ⟨ad, x, rfl, _, Hx, hc⟩ := Byt.get H.out hlt
      have Hnext := hid (reg_take (s ^^^ Sum.ones) b k x hlt Hx.out)
      have hreg := HR.out k
      generalize Sum.reg (s ^^^ Sum.ones) (b.take k) = R at *
      have hx := x.toNat_lt
      have hC : R ^^^ x.toNat < 4294967296 := Nat.xor_lt_two_pow (n := 32) hreg (by omega)
      have HC := hid (bits_xor_u32_nat R x.toNat hreg (by omega))
      have Hby := hid (show Sum.by8 R x = Sum.sh 8 (R ^^^ x.toNat) from rfl)
      generalize hCe : R ^^^ x.toNat = C at *
      clear hCe
      go_wp2_with fail
      go_loop [5, 7] (fun cv jv => ∃ j : Nat, cv = .int .u32 (Sum.sh j C : Nat) ∧ jv = .int .i64 j ∧ j ≤ 8) (fun _ jv => 8 - (intOf jv).toNat)
      case atStart => exact ⟨0, congrArg (Value.int .u32) HC.out, rfl, Nat.zero_le _⟩
      case round =>
        obtain ⟨j, rfl, rfl, hj⟩ := hrel
        have hsl := Sum.sh_lt j C (by omega)
        have Hsn := hid (sh_next j C)
        obtain ⟨v, hv⟩ : ∃ v, Sum.sh j C = v := ⟨_, rfl⟩
        rw [hv] at hsl Hsn
        rw [hv]
        by_cases hj8 : j < 8
        · by_cases hp : v % 2 = 1
          · have hp' : (((v : Int) % 2) == 1) = true := by rw [beq_iff_eq]; omega
            have HS := hid (Hsn.out.trans (Sum.S_odd v hp))
            have Hx2 := hid (bits_xor_u32_nat (v / 2) Sum.P (by omega) (by unfold Sum.P; omega))
            clear hp Hsn
            go_wp2_with fail
            go_round
            case rel => exact ⟨j + 1, by rw [HS.out]; exact congrArg (Value.int .u32) Hx2.out, by go_num, by omega⟩
            case measure => simp [intOf]; omega
          · have hp' : (((v : Int) % 2) == 1) = false := by rw [beq_eq_false_iff_ne]; omega
            have HS := hid (Hsn.out.trans (Sum.S_even v (by omega)))
            clear hp Hsn
            go_wp2_with fail
            go_round
            case rel => exact ⟨j + 1, by rw [HS.out]; rfl, by go_num, by omega⟩
            case measure => simp [intOf]; omega
        · obtain rfl : j = 8 := by omega
          go_wp2_with fail
          go_round
          case rel => exact ⟨k + 1, by rw [Hnext.out, Hby.out, hv], by go_num, by omega⟩
          case measure => simp [intOf]; omega
    · obtain rfl : k = b.length := by omega
      have Hz := hid (bits_xor_u32_nat _ Sum.ones (HR.out b.length) Sum.ones_lt)
      rw [List.take_length] at Hz ⊢
      generalize Sum.reg (s ^^^ Sum.ones) b = R at *
      go_wp2_with fail
      go_ret
      exact IntRet.mk _ (by rw [Hres.out]; exact Hz.out)

theorem r_Crc (A : Option Addr) (n c : Nat) (b : List UInt8) (hn : b.length = n) (hm : n ≤ 1000000000) (B : Nat) (w : World) (h : Byt w B A b) :
    Calls Try.prog 16 #[.slice A n c] w (IntRet .u32 (Sum.crc b) w) := by
  have Hp := hid (r_More 0 (by decide) A n c b hn hm B w h)
  unfold IntRet at Hp ⊢
  rw [show Sum.more 0 b = Sum.crc b from rfl] at Hp
  generalize Sum.crc b = v at *
  go_enter Try.func16, Try.ntmps16
  go_wp2_with fail
  refine (Hp.out).mono ?_
  rintro e w' ⟨rfl, rfl⟩
  go_wp2_with fail
  go_ret
  exact ⟨rfl, rfl⟩

/-! ### numbers that are stirred -/
theorem i_xs32 (a : Nat) (h : a < Sum.M) : bits .xor .u64 (a : Int) ((a : Int) / 4294967296) = ((Sum.xs 32 a : Nat) : Int) := by
  unfold Sum.M at h
  have e : (a : Int) / 4294967296 = ((a / 2 ^ 32 : Nat) : Int) := by omega
  rw [e, bits_xor_u64_nat a _ h (by omega)]
  rfl
theorem i_xs29 (a : Nat) (h : a < Sum.M) : bits .xor .u64 (a : Int) ((a : Int) / 536870912) = ((Sum.xs 29 a : Nat) : Int) := by
  unfold Sum.M at h
  have e : (a : Int) / 536870912 = ((a / 2 ^ 29 : Nat) : Int) := by omega
  rw [e, bits_xor_u64_nat a _ h (by omega)]
  rfl
theorem i_mul (a k : Nat) : IntKind.u64.wrap ((a : Int) * (k : Int)) = ((a * k % Sum.M : Nat) : Int) := by
  rw [IntKind.wrap_u64, ← Int.natCast_mul]
  unfold Sum.M
  generalize a * k = p
  omega

theorem i_KA (a : Nat) : IntKind.u64.wrap ((a : Int) * 11400714819323198485) = ((a * Sum.KA % Sum.M : Nat) : Int) := i_mul a Sum.KA
theorem i_KB (a : Nat) : IntKind.u64.wrap ((a : Int) * 15485907386658061715) = ((a * Sum.KB % Sum.M : Nat) : Int) := i_mul a Sum.KB

set_option maxHeartbeats 1000000 in
theorem r_Mix (n : Nat) (hn : n < 18446744073709551616) (w : World) : Calls Try.prog 21 #[.int .u64 (n : Int)] w (IntRet .u64 (Sum.mix n) w) := by
  have h1 := Sum.xs_lt 32 n hn
  have h2 : Sum.xs 32 n * Sum.KA % Sum.M < Sum.M := Nat.mod_lt _ Sum.M_pos
  have h3 := Sum.xs_lt 29 _ h2
  have h4 : Sum.xs 29 (Sum.xs 32 n * Sum.KA % Sum.M) * Sum.KB % Sum.M < Sum.M := Nat.mod_lt _ Sum.M_pos
  have Hres := hid (show Sum.mix n = Sum.xs 32 (Sum.xs 29 (Sum.xs 32 n * Sum.KA % Sum.M) * Sum.KB % Sum.M) from rfl)
  have E1 := i_xs32 n hn
  have E2 := i_KA (Sum.xs 32 n)
  have E3 := i_xs29 _ h2
  have E4 := i_KB (Sum.xs 29 (Sum.xs 32 n * Sum.KA % Sum.M))
  have E5 := i_xs32 _ h4
  generalize Sum.xs 29 (Sum.xs 32 n * Sum.KA % Sum.M) * Sum.KB % Sum.M = x4 at *
  generalize Sum.xs 29 (Sum.xs 32 n * Sum.KA % Sum.M) = x3 at *
  generalize Sum.xs 32 n * Sum.KA % Sum.M = x2 at *
  generalize Sum.xs 32 n = x1 at *
  generalize Sum.xs 32 x4 = x5 at *
  unfold Sum.M at h1 h2 h3 h4
  have b2 : (x2 : Int) < 18446744073709551616 := by omega
  have b4 : (x4 : Int) < 18446744073709551616 := by omega
  clear h1 h2 h3 h4
  go_enter Try.func21, Try.ntmps21
  go_wp2_with fail
  go_ret
  exact IntRet.mk _ (by rw [Hres.out])
end Go.Proofs.Ytonlcndljnfhgaa
