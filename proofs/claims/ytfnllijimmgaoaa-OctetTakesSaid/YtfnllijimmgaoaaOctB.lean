/- Contracts of layer 3 (octet): Take, TakeInt, takeLength: they compute alone, nothing in memory changes. -/
import Derived.Test.YtfnllijimmgaoaaOctA
namespace Go.Proofs.Ytfnllijimmgaoaa
open Go.RowKit

def TkRet (b : List UInt8) (at_ : Int) (w : World) (e : Ending) (w' : World) : Prop := e = .returned (.tuple #[.int .u64 ((Oct.tA b at_).1 : Int), .int .i64 (Oct.tA b at_).2.1, .int .i64 (Oct.tA b at_).2.2]) ∧ w = w'
theorem TkRet.mk {b : List UInt8} {at_ : Int} {v : Nat} {n r x y z : Int} (w : World) (h : Oct.tA b at_ = (v, n, r)) (hx : x = v) (hy : y = n) (hz : z = r) : TkRet b at_ w (.returned (.tuple #[.int .u64 x, .int .i64 y, .int .i64 z])) w := by unfold TkRet; rw [h, hx, hy, hz]; exact ⟨rfl, rfl⟩

theorem tA_of (b : List UInt8) (k : Nat) (hk : k ≤ b.length) : Oct.tA b (k : Int) = if (Oct.tk (b.drop k)).2.2 = 0 then ((Oct.tk (b.drop k)).1, (k : Int) + ((Oct.tk (b.drop k)).2.1 : Int), 0) else (0, 0, (Oct.tk (b.drop k)).2.2) := by
  unfold Oct.tA
  rw [if_neg (by omega), Int.toNat_natCast]

theorem or_step (l : List UInt8) (j : Nat) (hj : j < l.length) (x : UInt8) (hx : l.getD j 0 = x) (N : Nat) (hN : Oct.val (l.take j) = N) (hv : Oct.val (l.take (j + 1)) < 18446744073709551616) :
    bits BinOp.or IntKind.u64 (N : Int) (IntKind.u64.wrap ((x.toNat : Int) % 128 * 2 ^ (7 * j))) = ((Oct.val (l.take (j + 1)) : Nat) : Int) := by
  have hs := Oct.val_snoc l j hj
  rw [hx, hN] at hs
  have hN2 := Oct.val_lt (l.take j)
  rw [hN, List.length_take, show min j l.length = j by omega, Oct.pow128] at hN2
  rw [Oct.pow128, Nat.mul_comm] at hs
  have e : (x.toNat : Int) % 128 * 2 ^ (7 * j) = ((x.toNat % 128 * 2 ^ (7 * j) : Nat) : Int) := by push_cast; rfl
  have hor := Oct.or_shift N (x.toNat % 128) (7 * j) hN2
  rw [e]
  generalize x.toNat % 128 * 2 ^ (7 * j) = Y at *
  have hw : IntKind.u64.wrap (Y : Int) = (Y : Int) := by rw [IntKind.wrap_u64]; omega
  rw [hw, bits_or_u64_nat N Y (by omega) (by omega), hor, hs]

set_option maxHeartbeats 1000000 in
theorem p_Take (A : Option Addr) (n c : Nat) (b : List UInt8) (hn : b.length = n) (hc : n ≤ c) (hm : n ≤ 1000000000) (B : Nat) (at_ : Int) (hat : Oct.I64 at_) (w : World) (h : Byt w B A b) :
    Calls Try.prog 16 #[.slice A n c, .int .i64 at_] w (TkRet b at_ w) := by
  subst hn
  unfold Oct.I64 at hat
  by_cases h1 : at_ < 0
  · have Hres := hid (show Oct.tA b at_ = (0, 0, 2) by unfold Oct.tA; rw [if_pos (.inl h1)])
    go_enter Try.func16, Try.ntmps16
    go_wp2_with fail
    go_ret3
    exact TkRet.mk _ Hres.out rfl rfl rfl
  by_cases h2 : (b.length : Int) < at_
  · have Hres := hid (show Oct.tA b at_ = (0, 0, 2) by unfold Oct.tA; rw [if_pos (.inr h2)])
    go_enter Try.func16, Try.ntmps16
    go_wp2_with fail
    go_ret3
    exact TkRet.mk _ Hres.out rfl rfl rfl
  obtain ⟨k, rfl⟩ : ∃ k : Nat, at_ = k := ⟨at_.toNat, by omega⟩
  obtain ⟨r, hr⟩ : ∃ r : Nat, min 10 (b.length - k) = r := ⟨_, rfl⟩
  have hr' : min 10 ((b.length : Int) - k) = (r : Int) := by omega
  have Hc : Hid (∀ (y : Int), y = ((k + r : Nat) : Int) → Calls Try.prog 30 #[.slice A b.length c, .int .i64 k, .int .i64 y] w (CutRet A b B k (k + r) w)) := fun y hy => q_cut (by omega) (by omega) h rfl hy
  unfold CutRet at Hc
  rw [show k + r - k = r by omega] at Hc
  have hkr : k + r ≤ b.length := by omega
  have Hta := hid (tA_of b k (by omega))
  have htk : Oct.tk ((b.drop k).take r) = Oct.tk (b.drop k) := by
    rw [← hr]
    by_cases h10 : 10 ≤ b.length - k
    · rw [Nat.min_eq_left h10, Oct.tk_take]
    · rw [List.take_of_length_le (by rw [List.length_drop]; omega)]
  rw [← htk] at Hta
  have Hrow := hid (show ((b.drop k).take r).length = r by rw [List.length_take, List.length_drop]; omega)
  have h1' : 0 ≤ (k : Int) := by omega
  have h2' : (k : Int) ≤ b.length := by omega
  have h3' : (r : Int) ≤ 10 := by omega
  clear htk hr
  generalize (b.drop k).take r = row at *
  by_cases h10 : 10 ≤ (b.length : Int) - k
  all_goals
    go_enter Try.func16, Try.ntmps16
    go_wp2_with fail
    refine (Hc.out _ (by omega)).mono ?_
    rintro e w' ⟨A', rfl, rfl, hrow, _⟩
    have H := hid hrow
    have Hs := hid (fun w h => p_span A' r r row Hrow.out B w h (by rw [Hrow.out]; omega))
    unfold SpRet at Hs
    clear hrow
    by_cases he : (Oct.tk row).2.2 = 0
    · rw [he] at Hs
      rw [if_pos he] at Hta
      have hinv := Oct.tk_inv row he
      have Hval := hid (show (Oct.tk row).1 = Oct.val (row.take (Oct.tk row).2.1) by
        have := congrArg Oct.val hinv.2.2.2.2
        rwa [Oct.val_pn] at this)
      have hk1 := hinv.1
      have hk2 := hinv.2.1
      have hv := hinv.2.2.2.1
      rw [Hrow.out] at hk2
      clear hinv he
      generalize (Oct.tk row).2.1 = m at *
      generalize (Oct.tk row).1 = v at *
      have hm1 : (0 : Int) ≤ (m : Int) := by omega
      have hm2 : (m : Int) ≤ (r : Int) := by omega
      go_wp2_with fail
      refine (Hs.out _ H.out).mono ?_
      rintro e w' ⟨rfl, rfl⟩
      go_wp2_with fail
      go_loop [10, 43] (fun nv i => ∃ j : Nat, nv = .int .u64 (Oct.val (row.take j) : Nat) ∧ i = .int .i64 j ∧ j ≤ m) (fun _ i => m - (intOf i).toNat)
      case atStart => exact ⟨0, by rw [List.take_zero]; rfl, rfl, Nat.zero_le _⟩
      case round =>
        obtain ⟨j, rfl, rfl, hj⟩ := hrel
        by_cases hlt : j < m
        · have hjr : j < row.length := by rw [Hrow.out]; omega
          obtain ⟨ad, x, rfl, _, Hx, hc⟩ := Byt.get H.out hjr
          obtain ⟨N, hN⟩ : ∃ N, Oct.val (row.take j) = N := ⟨_, rfl⟩
          rw [hN]
          go_wp2_with fail
          go_round
          case rel => 
            refine ⟨j + 1, congrArg (Value.int .u64) (or_step row j hjr x Hx.out N hN ?_), by go_num, by omega⟩
            have e1 := Oct.val_take_le (row.take m) (j + 1)
            rw [List.take_take, show min (j + 1) m = j + 1 by omega, ← Hval.out] at e1
            omega
          case measure => simp [intOf]; omega
        · obtain rfl : j = m := by omega
          go_wp2_with fail
          go_ret3
          exact TkRet.mk _ Hta.out (by rw [← Hval.out]) rfl rfl
    · have hne : ((Oct.tk row).2.2 != 0) = true := by rw [bne_iff_ne]; exact he
      have hz : (Oct.tk row).2.1 = 0 := by
        rcases Oct.tk_cases row with ⟨_, h, _⟩ | h
        · exact h
        · exact absurd h he
      rw [hz] at Hs
      rw [if_neg he] at Hta
      clear he hz
      generalize (Oct.tk row).2.2 = q at *
      go_wp2_with fail
      refine (Hs.out _ H.out).mono ?_
      rintro e w' ⟨rfl, rfl⟩
      go_wp2_with fail
      go_ret3
      exact TkRet.mk _ Hta.out rfl rfl rfl

/-! ### TakeInt -/
def TiRet (b : List UInt8) (at_ : Int) (w : World) (e : Ending) (w' : World) : Prop := e = .returned (.tuple #[.int .i64 (Oct.tI b at_).1, .int .i64 (Oct.tI b at_).2.1, .int .i64 (Oct.tI b at_).2.2]) ∧ w = w'
theorem TiRet.mk {b : List UInt8} {at_ : Int} {v n r x y z : Int} (w : World) (h : Oct.tI b at_ = (v, n, r)) (hx : x = v) (hy : y = n) (hz : z = r) : TiRet b at_ w (.returned (.tuple #[.int .i64 x, .int .i64 y, .int .i64 z])) w := by unfold TiRet; rw [h, hx, hy, hz]; exact ⟨rfl, rfl⟩

set_option maxHeartbeats 1000000 in
theorem p_TakeInt (A : Option Addr) (n c : Nat) (b : List UInt8) (hn : b.length = n) (hc : n ≤ c) (hm : n ≤ 1000000000) (B : Nat) (at_ : Int) (hat : Oct.I64 at_) (w : World) (h : Byt w B A b) :
    Calls Try.prog 17 #[.slice A n c, .int .i64 at_] w (TiRet b at_ w) := by
  have hp := p_Take A n c b hn hc hm B at_ hat w h
  unfold TkRet at hp
  have hlt := Oct.tA_lt b at_
  by_cases he : (Oct.tA b at_).2.2 = 0
  · have hti : Oct.tI b at_ = (Oct.un (Oct.tA b at_).1, (Oct.tA b at_).2.1, 0) := by unfold Oct.tI; rw [he]
    rw [he] at hp
    have Hp := hid hp
    clear hp
    have hun := hid (show Oct.un (Oct.tA b at_).1 = if (Oct.tA b at_).1 % 2 = 0 then (((Oct.tA b at_).1 / 2 : Nat) : Int) else -1 - (((Oct.tA b at_).1 / 2 : Nat) : Int) from rfl)
    have Hti := hid hti
    clear hti he
    generalize (Oct.tA b at_).1 = v at *
    generalize (Oct.tA b at_).2.1 = m at *
    by_cases h2 : v % 2 = 0
    · rw [if_pos h2] at hun
      have h2' : (((v : Int) % 2) == 1) = false := by rw [beq_eq_false_iff_ne]; omega
      go_enter Try.func17, Try.ntmps17
      go_wp2_with fail
      refine (Hp.out).mono ?_
      rintro e w' ⟨rfl, rfl⟩
      go_wp2_with fail
      go_ret3
      exact TiRet.mk _ Hti.out (by rw [hun.out]; first | omega | (rw [IntKind.wrap_i64]; omega)) rfl rfl
    · rw [if_neg h2] at hun
      have h2' : (((v : Int) % 2) == 1) = true := by rw [beq_iff_eq]; omega
      go_enter Try.func17, Try.ntmps17
      go_wp2_with fail
      refine (Hp.out).mono ?_
      rintro e w' ⟨rfl, rfl⟩
      go_wp2_with fail
      go_ret3
      exact TiRet.mk _ Hti.out (by rw [hun.out]; omega) rfl rfl
  · have Hti := hid (Oct.tI_err b at_ he)
    have hne : ((Oct.tA b at_).2.2 != 0) = true := by rw [bne_iff_ne]; exact he
    have Hp := hid hp
    clear hp he
    generalize (Oct.tA b at_).2.2 = q at *
    go_enter Try.func17, Try.ntmps17
    go_wp2_with fail
    refine (Hp.out).mono ?_
    rintro e w' ⟨rfl, rfl⟩
    go_wp2_with fail
    go_ret3
    exact TiRet.mk _ Hti.out rfl rfl rfl

/-! ### takeLength -/
def TlRet (b : List UInt8) (at_ most : Int) (w : World) (e : Ending) (w' : World) : Prop := e = .returned (.tuple #[.int .i64 ((Oct.tL b at_ most).1 : Int), .int .i64 (Oct.tL b at_ most).2.1, .int .i64 (Oct.tL b at_ most).2.2]) ∧ w = w'
theorem TlRet.mk {b : List UInt8} {at_ most : Int} {v : Nat} {n r x y z : Int} (w : World) (h : Oct.tL b at_ most = (v, n, r)) (hx : x = v) (hy : y = n) (hz : z = r) : TlRet b at_ most w (.returned (.tuple #[.int .i64 x, .int .i64 y, .int .i64 z])) w := by unfold TlRet; rw [h, hx, hy, hz]; exact ⟨rfl, rfl⟩

set_option maxHeartbeats 1000000 in
theorem p_len (A : Option Addr) (n c : Nat) (b : List UInt8) (hn : b.length = n) (hc : n ≤ c) (hm : n ≤ 1000000000) (B : Nat) (at_ most : Int) (hat : Oct.I64 at_) (hmo : Oct.I64 most) (w : World) (h : Byt w B A b) :
    Calls Try.prog 32 #[.slice A n c, .int .i64 at_, .int .i64 most] w (TlRet b at_ most w) := by
  have hp := p_Take A n c b hn hc hm B at_ hat w h
  unfold TkRet at hp
  unfold Oct.I64 at hmo
  have hlt := Oct.tA_lt b at_
  have Htl := hid (show Oct.tL b at_ most = if (Oct.tA b at_).2.2 ≠ 0 then (0, 0, (Oct.tA b at_).2.2) else if most < 0 ∨ most < ((Oct.tA b at_).1 : Int) then (0, 0, 5) else Oct.tA b at_ from rfl)
  by_cases he : (Oct.tA b at_).2.2 = 0
  · rw [if_neg (by omega)] at Htl
    rw [he] at hp
    have hta : Oct.tA b at_ = ((Oct.tA b at_).1, (Oct.tA b at_).2.1, 0) := by rw [← he]
    rw [hta] at Htl
    simp only [] at Htl
    clear hta he
    have Hp := hid hp
    clear hp
    generalize (Oct.tA b at_).1 = v at *
    generalize (Oct.tA b at_).2.1 = m at *
    by_cases h1 : most < 0
    · rw [if_pos (.inl h1)] at Htl
      go_enter Try.func32, Try.ntmps32
      go_wp2_with fail
      refine (Hp.out).mono ?_
      rintro e w' ⟨rfl, rfl⟩
      go_wp2_with fail
      go_ret3
      exact TlRet.mk _ Htl.out rfl rfl rfl
    · by_cases h2 : most < (v : Int)
      · rw [if_pos (.inr h2)] at Htl
        go_enter Try.func32, Try.ntmps32
        go_wp2_with fail
        refine (Hp.out).mono ?_
        rintro e w' ⟨rfl, rfl⟩
        go_wp2_with fail
        go_ret3
        exact TlRet.mk _ Htl.out rfl rfl rfl
      · rw [if_neg (by omega)] at Htl
        go_enter Try.func32, Try.ntmps32
        go_wp2_with fail
        refine (Hp.out).mono ?_
        rintro e w' ⟨rfl, rfl⟩
        go_wp2_with fail
        go_ret3
        exact TlRet.mk _ Htl.out (by first | rfl | omega | (rw [IntKind.wrap_i64]; omega)) rfl rfl
  · rw [if_pos he] at Htl
    have hne : ((Oct.tA b at_).2.2 != 0) = true := by rw [bne_iff_ne]; exact he
    have Hp := hid hp
    clear hp he
    generalize (Oct.tA b at_).2.2 = q at *
    go_enter Try.func32, Try.ntmps32
    go_wp2_with fail
    refine (Hp.out).mono ?_
    rintro e w' ⟨rfl, rfl⟩
    go_wp2_with fail
    go_ret3
    exact TlRet.mk _ Htl.out rfl rfl rfl
end Go.Proofs.Ytfnllijimmgaoaa
