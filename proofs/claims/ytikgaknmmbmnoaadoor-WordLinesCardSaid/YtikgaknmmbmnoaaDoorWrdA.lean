/- Contracts of layer 2 (word): which bytes stand for themselves, what leads a word, for every argument; nothing that was in memory changes. -/
import Derived.Test.YtikgaknmmbmnoaaDoorLib
import Derived.Test.YtikgaknmmbmnoaaDoorWrdM
import Derived.Test.YtikgaknmmbmnoaaDoorShelf
import Derived.Deep.QuietTactic
import Derived.BigQuiet
import Derived.Outline
namespace Go.Proofs.YtikgaknmmbmnoaaDoor
open Go.RowKit

theorem to_u8 (c : UInt8) : ((c.toNat : Int)).toNat.toUInt8 = c := by simp

theorem ix_pl : ∀ c : UInt8, Lib.indexByte [46, 95, 58, 47, 43, 45, 44, 61] c = if Wrd.pl.contains c = true then (Wrd.pl.idxOf c : Int) else -1 := Wrd.all_bytes (by decide +kernel)
theorem ix_hex : ∀ c : UInt8, Lib.indexByte [48, 49, 50, 51, 52, 53, 54, 55, 56, 57, 97, 98, 99, 100, 101, 102] c = Wrd.dg c := Wrd.all_bytes (by decide +kernel)

theorem c_pl_yes (c : UInt8) (h : Wrd.pl.contains c = true) (w : World) :
    Calls Tryd.prog 29 #[.string ⟨#[46, 95, 58, 47, 43, 45, 44, 61]⟩, .int .u8 (c.toNat : Int)] w fun e w' => ∃ k : Nat, e = .returned (.int .i64 (k : Int)) ∧ w = w' := by
  refine (Tryd.strings_IndexByte ⟨#[46, 95, 58, 47, 43, 45, 44, 61]⟩ (c.toNat : Int) w).mono ?_
  rintro e w' ⟨rfl, rfl⟩
  refine ⟨Wrd.pl.idxOf c, ?_, rfl⟩
  rw [to_u8]
  have := ix_pl c
  rw [if_pos h] at this
  exact ret_k this
theorem c_pl_no (c : UInt8) (h : Wrd.pl.contains c = false) (w : World) :
    Calls Tryd.prog 29 #[.string ⟨#[46, 95, 58, 47, 43, 45, 44, 61]⟩, .int .u8 (c.toNat : Int)] w fun e w' => e = .returned (.int .i64 (-1)) ∧ w = w' := by
  refine (Tryd.strings_IndexByte ⟨#[46, 95, 58, 47, 43, 45, 44, 61]⟩ (c.toNat : Int) w).mono ?_
  rintro e w' ⟨rfl, rfl⟩
  refine ⟨?_, rfl⟩
  rw [to_u8]
  have := ix_pl c
  rw [if_neg (by rw [h]; simp)] at this
  exact ret_k this
theorem c_hex (c : UInt8) (w : World) :
    Calls Tryd.prog 29 #[.string ⟨#[48, 49, 50, 51, 52, 53, 54, 55, 56, 57, 97, 98, 99, 100, 101, 102]⟩, .int .u8 (c.toNat : Int)] w fun e w' => e = .returned (.int .i64 (Wrd.dg c)) ∧ w = w' := by
  refine (Tryd.strings_IndexByte ⟨#[48, 49, 50, 51, 52, 53, 54, 55, 56, 57, 97, 98, 99, 100, 101, 102]⟩ (c.toNat : Int) w).mono ?_
  rintro e w' ⟨rfl, rfl⟩
  refine ⟨?_, rfl⟩
  rw [to_u8]
  exact ret_k (ix_hex c)

/-- where a byte lies among letters and digits -/
theorem ranges (n : Nat) : (97 ≤ (n : Int) ∧ (n : Int) ≤ 122) ∨ (122 < (n : Int)) ∨ (90 < (n : Int) ∧ (n : Int) < 97) ∨ (65 ≤ (n : Int) ∧ (n : Int) ≤ 90) ∨ (57 < (n : Int) ∧ (n : Int) < 65) ∨ (48 ≤ (n : Int) ∧ (n : Int) ≤ 57) ∨ (n : Int) < 48 := by omega
theorem st_yes (c : UInt8) (h : (97 ≤ (c.toNat : Int) ∧ (c.toNat : Int) ≤ 122) ∨ (65 ≤ (c.toNat : Int) ∧ (c.toNat : Int) ≤ 90) ∨ (48 ≤ (c.toNat : Int) ∧ (c.toNat : Int) ≤ 57)) : Wrd.st c = true := by
  unfold Wrd.st
  simp only [Bool.or_eq_true, Bool.and_eq_true, decide_eq_true_iff]
  omega
theorem st_else (c : UInt8) (h : 122 < (c.toNat : Int) ∨ (90 < (c.toNat : Int) ∧ (c.toNat : Int) < 97) ∨ (57 < (c.toNat : Int) ∧ (c.toNat : Int) < 65) ∨ (c.toNat : Int) < 48) : Wrd.st c = Wrd.pl.contains c := by
  unfold Wrd.st
  rw [Bool.eq_iff_iff]
  simp only [Bool.or_eq_true, Bool.and_eq_true, decide_eq_true_iff]
  constructor
  · rintro (h | h | h | h)
    · omega
    · omega
    · omega
    · exact h
  · intro h; exact .inr (.inr (.inr h))

theorem p_st (c : UInt8) (w : World) :
    Calls Tryd.prog 28 #[.int .u8 (c.toNat : Int)] w fun e w' => e = .returned (.bool (Wrd.st c)) ∧ w = w' := by
  have hr := ranges c.toNat
  by_cases hy : (97 ≤ (c.toNat : Int) ∧ (c.toNat : Int) ≤ 122) ∨ (65 ≤ (c.toNat : Int) ∧ (c.toNat : Int) ≤ 90) ∨ (48 ≤ (c.toNat : Int) ∧ (c.toNat : Int) ≤ 57)
  · rw [st_yes c hy]
    clear hr
    rcases hy with ⟨h1, h2⟩ | ⟨h1, h2⟩ | ⟨h1, h2⟩
    all_goals
      go_enter Tryd.func28, Tryd.ntmps28
      go_wp2
      go_ret
      exact ⟨rfl, rfl⟩
  · have hn : (122 < (c.toNat : Int)) ∨ (90 < (c.toNat : Int) ∧ (c.toNat : Int) < 97) ∨ (57 < (c.toNat : Int) ∧ (c.toNat : Int) < 65) ∨ (c.toNat : Int) < 48 := by omega
    rw [st_else c hn]
    clear hr hy
    cases hp : Wrd.pl.contains c with
    | true =>
      have Hp := hid (fun w => c_pl_yes c hp w)
      clear hp
      rcases hn with h1 | ⟨h1, h2⟩ | ⟨h1, h2⟩ | h1
      all_goals
        go_enter Tryd.func28, Tryd.ntmps28
        go_wp2_with fail
        refine (Hp.out _).mono ?_
        rintro e w' ⟨k, rfl, rfl⟩
        go_wp2_with fail
        go_ret
        exact ⟨rfl, rfl⟩
    | false =>
      have Hp := hid (fun w => c_pl_no c hp w)
      clear hp
      rcases hn with h1 | ⟨h1, h2⟩ | ⟨h1, h2⟩ | h1
      all_goals
        go_enter Tryd.func28, Tryd.ntmps28
        go_wp2_with fail
        refine (Hp.out _).mono ?_
        rintro e w' ⟨rfl, rfl⟩
        go_wp2_with fail
        go_ret
        exact ⟨ret_b (by first | rfl | (simp; omega)), rfl⟩

theorem data_get? (s : ByteArray) (k : Nat) (h : k < s.size) : s.data.toList[k]? = some s[k] := by
  rw [List.getElem?_eq_getElem (by rw [data_len]; exact h), data_get s k h]
theorem list1 (s : ByteArray) (h : 0 < s.size) : ∃ r, s.data.toList = s[0] :: r ∧ r.length + 1 = s.size := by
  have hl := data_len s
  have g := data_get? s 0 h
  generalize s.data.toList = l at *
  match l, hl, g with
  | [], hl, g => simp at g
  | c :: r, hl, g => exact ⟨r, by rw [show c = s[0] by simpa using g], by rw [← hl]; rfl⟩
theorem list3 (s : ByteArray) (h : 3 ≤ s.size) : ∃ r, s.data.toList = s[0] :: s[1] :: s[2] :: r := by
  have g0 := data_get? s 0 (by omega)
  have g1 := data_get? s 1 (by omega)
  have g2 := data_get? s 2 (by omega)
  generalize s.data.toList = l at *
  match l, g0, g1, g2 with
  | [], g, _, _ => simp at g
  | [_], _, g, _ => simp at g
  | [_, _], _, _, g => simp at g
  | c :: a :: b :: r, g0, g1, g2 => exact ⟨r, by rw [show c = s[0] by simpa using g0, show a = s[1] by simpa using g1, show b = s[2] by simpa using g2]⟩
theorem or_two : ∀ x y : Fin 16, bits BinOp.or IntKind.i64 ((x.val : Int) * 16) (y.val : Int) = 16 * (x.val : Int) + (y.val : Int) := by decide +kernel
theorem two_nat (a b : Int) (ha : 0 ≤ a) (ha2 : a < 16) (hb : 0 ≤ b) (hb2 : b < 16) : bits BinOp.or IntKind.i64 (a * 16) b = ((Wrd.two a b).toNat : Int) := by
  have := or_two ⟨a.toNat, by omega⟩ ⟨b.toNat, by omega⟩
  simp only [] at this
  rw [Int.toNat_of_nonneg ha, Int.toNat_of_nonneg hb] at this
  rw [this]
  unfold Wrd.two
  simp
  omega

theorem q_hex (c : UInt8) {w : World} {n : Nat} : Calls Tryd.prog 29 #[.string ⟨#[48, 49, 50, 51, 52, 53, 54, 55, 56, 57, 97, 98, 99, 100, 101, 102]⟩, .int .u8 (c.toNat : Int)] (w.drewN n) fun e w' => e = .returned (.int .i64 (Wrd.dg c)) ∧ ∃ m, w' = w.drewN m :=
  Calls.quiet_of_same ((c_hex c _).mono fun _ _ h => ⟨h.1, h.2.symm⟩)

def Led (l : List UInt8) (w : World) (e : Ending) (w' : World) : Prop := e = .returned (.tuple #[.int .u8 ((Wrd.ld l).1.toNat : Int), .int .i64 ((Wrd.ld l).2 : Int)]) ∧ ∃ n, w' = w.drewN n
theorem Led.mk {l : List UInt8} {w w' : World} {c : UInt8} {k : Nat} {x y : Int} (h : Wrd.ld l = (c, k)) (hx : x = (c.toNat : Int)) (hy : y = (k : Int)) (hw : ∃ n, w' = w.drewN n) : Led l w (.returned (.tuple #[.int .u8 x, .int .i64 y])) w' := by
  unfold Led; rw [h, hx, hy]; exact ⟨rfl, hw⟩

theorem p_ld_37 (s : ByteArray) (hs : 3 ≤ s.size) (hm : s.size ≤ maxLen) (h37 : s[0] = 37) (w : World) :
    Calls Tryd.prog 21 #[.string s] w (Led s.data.toList w) := by
  unfold maxLen at hm
  have g0 : 0 < s.size := by omega
  have g1 : 1 < s.size := by omega
  have g2 : 2 < s.size := by omega
  have g3 : ¬ (s.size : Int) < 3 := by omega
  have i1 : (1 : Int) < s.size := by omega
  have i2 : (2 : Int) < s.size := by omega
  have Hst : Hid (∀ w, Calls Tryd.prog 28 #[.int .u8 37] w fun e w' => e = .returned (.bool false) ∧ w = w') := fun w => p_st 37 w
  have hld : Wrd.ld s.data.toList = if Wrd.dg s[1] < 0 ∨ Wrd.dg s[2] < 0 then (0, 0) else if Wrd.st (Wrd.two (Wrd.dg s[1]) (Wrd.dg s[2])) = true then (0, 0) else (Wrd.two (Wrd.dg s[1]) (Wrd.dg s[2]), 3) := by
    obtain ⟨r, e⟩ := list3 s hs
    rw [e, h37, Wrd.ld_37]
  have h37' : (s[0].toNat : Int) = 37 := by rw [h37]; rfl
  clear h37
  by_cases ha : 0 ≤ Wrd.dg s[1]
  · by_cases hb : 0 ≤ Wrd.dg s[2]
    · have ha2 : Wrd.dg s[1] < 16 := (Wrd.hx_dg s[1] ha).2.2
      have hb2 : Wrd.dg s[2] < 16 := (Wrd.hx_dg s[2] hb).2.2
      rw [if_neg (by omega)] at hld
      have hor := two_nat _ _ ha ha2 hb hb2
      have hv := (Wrd.two (Wrd.dg s[1]) (Wrd.dg s[2])).toNat_lt
      have hps := fun w => p_st (Wrd.two (Wrd.dg s[1]) (Wrd.dg s[2])) w
      generalize Wrd.two (Wrd.dg s[1]) (Wrd.dg s[2]) = v at *
      cases hsv : Wrd.st v with
      | true =>
        rw [hsv] at hps hld
        rw [if_pos rfl] at hld
        have Hps := hid hps
        have Hld := hid hld
        clear hps hld hsv
        go_enter Tryd.func21, Tryd.ntmps21
        go_wp2_with fail
        refine (Hst.out _).mono ?_
        rintro e w' ⟨rfl, rfl⟩
        go_wp2_with fail
        go_quiet ((go_at_call 29; exact q_hex _))
        go_wp2_with fail
        refine (Hps.out _).mono ?_
        rintro e w' ⟨rfl, rfl⟩
        go_wp2_with fail
        go_ret2
        exact Led.mk Hld.out rfl rfl ⟨_, rfl⟩
      | false =>
        rw [hsv] at hps hld
        rw [if_neg (by simp)] at hld
        have Hps := hid hps
        have Hld := hid hld
        clear hps hld hsv
        go_enter Tryd.func21, Tryd.ntmps21
        go_wp2_with fail
        refine (Hst.out _).mono ?_
        rintro e w' ⟨rfl, rfl⟩
        go_wp2_with fail
        go_quiet ((go_at_call 29; exact q_hex _))
        go_wp2_with fail
        refine (Hps.out _).mono ?_
        rintro e w' ⟨rfl, rfl⟩
        go_wp2_with fail
        go_ret2
        exact Led.mk Hld.out rfl rfl ⟨_, rfl⟩
    · have hb' : Wrd.dg s[2] < 0 := by omega
      rw [if_pos (.inr hb')] at hld
      have Hld := hid hld
      clear hld
      go_enter Tryd.func21, Tryd.ntmps21
      go_wp2_with fail
      refine (Hst.out _).mono ?_
      rintro e w' ⟨rfl, rfl⟩
      go_wp2_with fail
      go_quiet ((go_at_call 29; exact q_hex _))
      go_wp2_with fail
      go_ret2
      exact Led.mk Hld.out rfl rfl ⟨_, rfl⟩
  · have ha' : Wrd.dg s[1] < 0 := by omega
    rw [if_pos (.inl ha')] at hld
    have Hld := hid hld
    clear hld
    go_enter Tryd.func21, Tryd.ntmps21
    go_wp2_with fail
    refine (Hst.out _).mono ?_
    rintro e w' ⟨rfl, rfl⟩
    go_wp2_with fail
    go_quiet ((go_at_call 29; exact q_hex _))
    go_wp2_with fail
    go_ret2
    exact Led.mk Hld.out rfl rfl ⟨_, rfl⟩

theorem p_ld (s : ByteArray) (hs : 0 < s.size) (hm : s.size ≤ maxLen) (w : World) :
    Calls Tryd.prog 21 #[.string s] w (Led s.data.toList w) := by
  by_cases h3 : 3 ≤ s.size ∧ s[0] = 37
  · exact p_ld_37 s h3.1 hm h3.2 w
  · unfold maxLen at hm
    obtain ⟨r, hl, hr⟩ := list1 s hs
    have hps := fun w => p_st s[0] w
    cases hst : Wrd.st s[0] with
    | true =>
      have Hld := hid (show Wrd.ld s.data.toList = (s[0], 1) by rw [hl, Wrd.ld_self _ _ hst])
      rw [hst] at hps
      have Hps := hid hps
      clear hps hl hr h3 hst
      go_enter Tryd.func21, Tryd.ntmps21
      go_wp2_with fail
      refine (Hps.out _).mono ?_
      rintro e w' ⟨rfl, rfl⟩
      go_wp2_with fail
      go_ret2
      exact Led.mk Hld.out rfl rfl ⟨0, rfl⟩
    | false =>
      rw [hst] at hps
      by_cases h37 : s[0] = 37
      · have hlt : (s.size : Int) < 3 := by
          have : ¬ 3 ≤ s.size := fun h => h3 ⟨h, h37⟩
          omega
        have Hld := hid (show Wrd.ld s.data.toList = (0, 0) by rw [hl, h37, Wrd.ld_37_short _ (by omega)])
        rw [h37] at hps
        have Hps := hid hps
        have h37' : (s[0].toNat : Int) = 37 := by rw [h37]; rfl
        clear hps hl hr h3 hst h37
        go_enter Tryd.func21, Tryd.ntmps21
        go_wp2_with fail
        refine (Hps.out _).mono ?_
        rintro e w' ⟨rfl, rfl⟩
        go_wp2_with fail
        go_ret2
        exact Led.mk Hld.out rfl rfl ⟨0, rfl⟩
      · have Hld := hid (show Wrd.ld s.data.toList = (0, 0) by rw [hl, Wrd.ld_other _ _ (by rw [hst]; simp) h37])
        have Hps := hid hps
        have hne : ((s[0].toNat : Int) != 37) = true := by
          rw [bne_iff_ne]; intro e; apply h37; apply UInt8.toNat_inj.1; show s[0].toNat = 37; omega
        clear hps hl hr h3 hst h37
        go_enter Tryd.func21, Tryd.ntmps21
        go_wp2_with fail
        refine (Hps.out _).mono ?_
        rintro e w' ⟨rfl, rfl⟩
        go_wp2_with fail
        go_ret2
        exact Led.mk Hld.out rfl rfl ⟨0, rfl⟩
end Go.Proofs.YtikgaknmmbmnoaaDoor
