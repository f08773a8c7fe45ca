/- Contracts of the document's own functions of layer 2: which bytes stand for themselves, which are digits. -/
import Derived.Test.YtikgaknmmbmnoaaWrdC
namespace Go.Proofs.Ytikgaknmmbmnoaa
open Go.RowKit

theorem pl_get (p : Nat) (h : p < 8) (h2 : p < (⟨#[46, 95, 58, 47, 43, 45, 44, 61]⟩ : ByteArray).size) : (⟨#[46, 95, 58, 47, 43, 45, 44, 61]⟩ : ByteArray)[p] = Wrd.pl.getD p 0 := by
  have : ∀ n : Fin 8, (⟨#[46, 95, 58, 47, 43, 45, 44, 61]⟩ : ByteArray).data.toList.getD n.val 0 = Wrd.pl.getD n.val 0 := by decide +kernel
  have h3 := this ⟨p, h⟩
  simp only [] at h3
  rw [← h3, List.getD_eq_getElem?_getD, data_get? _ p h2]
  rfl

theorem dg_ge (c : UInt8) : -1 ≤ Wrd.dg c := by unfold Wrd.dg; split <;> (try split) <;> omega
theorem st_of_pl (k : Nat) (h : k < 8) (c : UInt8) (he : (Wrd.pl.getD k 0).toNat = c.toNat) : Wrd.st c = true := by
  have e : Wrd.pl.getD k 0 = c := UInt8.toNat_inj.1 he
  rw [← e]
  have : ∀ n : Fin 8, Wrd.st (Wrd.pl.getD n.val 0) = true := by decide +kernel
  exact this ⟨k, h⟩
theorem pl_next (k : Nat) (h : k < 8) (c : UInt8) (h1 : (Wrd.pl.take k).contains c = false) (h2 : Wrd.pl.getD k 0 ≠ c) : (Wrd.pl.take (k + 1)).contains c = false := by
  have h' : k < Wrd.pl.length := h
  rw [Wrd.take_snoc _ _ h']
  have e : Wrd.pl[k]'h' = Wrd.pl.getD k 0 := by rw [List.getD_eq_getElem?_getD, List.getElem?_eq_getElem h']; rfl
  rw [e]
  rw [← Bool.not_eq_true, List.contains_iff_mem] at h1 ⊢
  intro hm
  rcases List.mem_append.1 hm with hm | hm
  · exact h1 hm
  · rw [List.mem_singleton] at hm
    exact h2 hm.symm
theorem st_no (c : UInt8) (h : Wrd.pl.contains c = false) : Wrd.st c = decide ((97 ≤ (c.toNat : Int) ∧ (c.toNat : Int) ≤ 122) ∨ (65 ≤ (c.toNat : Int) ∧ (c.toNat : Int) ≤ 90) ∨ (48 ≤ (c.toNat : Int) ∧ (c.toNat : Int) ≤ 57)) := by
  unfold Wrd.st
  rw [h, Bool.eq_iff_iff, decide_eq_true_iff]
  simp only [Bool.or_eq_true, Bool.and_eq_true, decide_eq_true_iff, Bool.false_eq_true, or_false]
  omega

theorem r_stands (c : UInt8) (w : World) :
    Calls Try.prog 24 #[.int .u8 (c.toNat : Int)] w fun e w' => e = .returned (.bool (Wrd.st c)) ∧ w = w' := by
  go_enter Try.func24, Try.ntmps24
  go_wp2
  go_loop [3] (fun i => ∃ k : Nat, i = .int .i64 k ∧ k ≤ 8 ∧ Hid ((Wrd.pl.take k).contains c = false)) (fun i => 8 - (intOf i).toNat)
  case atStart => exact ⟨0, rfl, Nat.zero_le _, rfl⟩
  case round =>
    obtain ⟨k, rfl, hk, hno⟩ := hrel
    by_cases hlt : k < 8
    · have b1 : (0 : Int) ≤ (k : Int) := by omega
      have b2 : (k : Int) < 8 := by omega
      have hge : (⟨#[46, 95, 58, 47, 43, 45, 44, 61]⟩ : ByteArray)[k]'hlt = Wrd.pl.getD k 0 := pl_get k hlt _
      have Hge := hid hge
      clear hge
      go_wp2
      · have he : (((⟨#[46, 95, 58, 47, 43, 45, 44, 61]⟩ : ByteArray)[k]'hlt).toNat : Int) = (c.toNat : Int) := eq_of_beq (by assumption)
        go_ret
        refine ⟨ret_b ?_, rfl⟩
        symm
        rw [Hge.out] at he
        exact st_of_pl k hlt c (by omega)
      · have he : ((((⟨#[46, 95, 58, 47, 43, 45, 44, 61]⟩ : ByteArray)[k]'hlt).toNat : Int) == (c.toNat : Int)) = false := by assumption
        go_round
        case rel => exact ⟨k + 1, by go_num, by omega, pl_next k hlt c hno.out (by rw [Hge.out, beq_eq_false_iff_ne] at he; intro e; apply he; rw [e])⟩
        case measure => simp [intOf]; omega
    · have hst := st_no c (by
        have e := hno.out
        rwa [List.take_of_length_le (by show 8 ≤ k; omega)] at e)
      have Hst := hid hst
      clear hst
      go_wp2
      all_goals
        go_ret
        refine ⟨ret_b ?_, rfl⟩
        rw [Hst.out, Bool.eq_iff_iff]
        simp
        omega

theorem r_digit (c : UInt8) (w : World) :
    Calls Try.prog 23 #[.int .u8 (c.toNat : Int)] w fun e w' => e = .returned (.int .i64 (Wrd.dg c)) ∧ w = w' := by
  go_enter Try.func23, Try.ntmps23
  go_wp2
  go_loop [3] (fun i => ∃ k : Nat, i = .int .i64 k ∧ k ≤ 16 ∧ Hid (∀ j, j < k → Wrd.hx j ≠ c)) (fun i => 16 - (intOf i).toNat)
  case atStart => exact ⟨0, rfl, Nat.zero_le _, fun j h => by omega⟩
  case round =>
    obtain ⟨k, rfl, hk, hno⟩ := hrel
    by_cases hlt : k < 16
    · have b1 : (0 : Int) ≤ (k : Int) := by omega
      have b2 : (k : Int) < 16 := by omega
      have Hge := hid (hex_get k hlt hlt)
      go_wp2
      · have he : (((⟨#[48, 49, 50, 51, 52, 53, 54, 55, 56, 57, 97, 98, 99, 100, 101, 102]⟩ : ByteArray)[k]'hlt).toNat : Int) = (c.toNat : Int) := eq_of_beq (by assumption)
        go_ret
        refine ⟨ret_k ?_, rfl⟩
        rw [Hge.out] at he
        have e : Wrd.hx k = c := UInt8.toNat_inj.1 (by omega)
        rw [← e]
        exact (Wrd.dg_hx ⟨k, hlt⟩).symm
      · have he : ((((⟨#[48, 49, 50, 51, 52, 53, 54, 55, 56, 57, 97, 98, 99, 100, 101, 102]⟩ : ByteArray)[k]'hlt).toNat : Int) == (c.toNat : Int)) = false := by assumption
        go_round
        case rel =>
          refine ⟨k + 1, by go_num, by omega, fun j hj => ?_⟩
          by_cases hjk : j = k
          · subst hjk
            rw [Hge.out, beq_eq_false_iff_ne] at he
            intro e; apply he; rw [e]
          · exact hno.out j (by omega)
        case measure => simp [intOf]; omega
    · obtain rfl : k = 16 := by omega
      go_wp2
      go_ret
      refine ⟨ret_k ?_, rfl⟩
      by_cases h : 0 ≤ Wrd.dg c
      · obtain ⟨h1, h2, h3⟩ := Wrd.hx_dg c h
        exact absurd h1 (hno.out _ h2)
      · have := dg_ge c
        omega

def QtDraw (l : List UInt8) (w : World) (e : Ending) (w' : World) : Prop := e = .returned (txt (Wrd.qt l)) ∧ ∃ n, w' = w.drewN n
theorem QtDraw.mk {l : List UInt8} {w w' : World} {s : ByteArray} (h : s = bs (Wrd.qt l)) (hw : ∃ n, w' = w.drewN n) : QtDraw l w (.returned (.string s)) w' := by
  unfold QtDraw; rw [h]; exact ⟨rfl, hw⟩

theorem ext_one (s : ByteArray) (k : Nat) (h : k < s.size) : s.extract k (k + 1) = bs [s[k]] := by
  rw [← of_bs (s.extract k (k + 1)), Lib.extract_data, List.drop_eq_getElem_cons (by rw [data_len]; exact h), show k + 1 - k = 1 by omega, data_get s k h]
  rfl
theorem hex_ext (p : Nat) (h : p < 16) : (⟨#[48, 49, 50, 51, 52, 53, 54, 55, 56, 57, 97, 98, 99, 100, 101, 102]⟩ : ByteArray).extract p (p + 1) = bs [Wrd.hx p] := by
  rw [ext_one _ p (by show p < 16; exact h), hex_get p h]

theorem r_Quote (s : ByteArray) (hm : s.size ≤ 1000000) (w : World) :
    Calls Try.prog 16 #[.string s] w (QtDraw s.data.toList w) := by
  by_cases h0 : s = ⟨#[]⟩
  · subst h0
    go_enter Try.func16, Try.ntmps16
    go_wp2
    go_ret
    exact QtDraw.mk rfl ⟨0, rfl⟩
  · have hne : s.data.toList ≠ [] := fun e => h0 (by rw [← of_bs s, e]; rfl)
    have e0 : ¬ s.toList = [] := by rw [list_of]; exact hne
    have e0' : s.toList.isEmpty = false := by rw [List.isEmpty_eq_false_iff]; exact e0
    have Hqt : Hid (Wrd.qt s.data.toList = Wrd.qs s.data.toList) := by
      show Wrd.qt _ = _
      unfold Wrd.qt
      rw [if_neg hne]
    have Hlen := hid (data_len s)
    clear h0 hne
    go_enter Try.func16, Try.ntmps16
    go_wp2
    go_loopw [3, 4] (fun v i wr => ∃ k m : Nat, i = .int .i64 k ∧ k ≤ s.size ∧ wr = w.drewN m ∧ v = txt (Wrd.qs (s.data.toList.take k))) (fun _ i _ => s.size - (intOf i).toNat)
    case atStart => exact ⟨0, 0, rfl, Nat.zero_le _, rfl, rfl⟩
    case round =>
      obtain ⟨k, m, rfl, hk, rfl, rfl⟩ := hrel
      have hq3 := (Wrd.qs_len (s.data.toList.take k)).2
      have hq4 : (s.data.toList.take k).length ≤ s.size := by rw [List.length_take]; omega
      by_cases hlt : k < s.size
      · have Hst := hid (qs_take s k hlt)
        have Hps := hid (fun w => r_stands s[k] w)
        generalize Wrd.qs (s.data.toList.take k) = acc at *
        generalize hacc2 : Wrd.qs (s.data.toList.take (k + 1)) = acc2 at *
        have Hacc2 := hid hacc2
        have hsz : (bs acc).size ≤ 3000000 := by rw [bs_size]; omega
        clear hq3 hq4 hacc2
        cases hst : Wrd.st s[k] with
        | true =>
          have Hq := hid (show Wrd.q1 s[k] = [s[k]] by unfold Wrd.q1; rw [if_pos hst])
          rw [hst] at Hps
          clear hst
          go_wp2_with fail
          refine (Hps.out _).mono ?_
          rintro e w' ⟨rfl, rfl⟩
          go_wp2_with fail
          refine ⟨⟨k + 1, m, by go_num, by omega, rfl, ?_⟩, by simp [intOf]; omega⟩
          rw [Hacc2.out, Hst.out, Hq.out, ext_one s k hlt, bs_append]
        | false =>
          have Hq := hid (show Wrd.q1 s[k] = [37, Wrd.hx (s[k].toNat / 16), Wrd.hx (s[k].toNat % 16)] by unfold Wrd.q1; rw [if_neg (by rw [hst]; simp)])
          rw [hst] at Hps
          clear hst
          go_wp2_with fail
          refine (Hps.out _).mono ?_
          rintro e w' ⟨rfl, rfl⟩
          go_wp2_with fail
          obtain ⟨p, hp⟩ : ∃ p : Nat, s[k].toNat / 16 = p := ⟨_, rfl⟩
          obtain ⟨q, hq⟩ : ∃ q : Nat, s[k].toNat % 16 = q := ⟨_, rfl⟩
          have hc := s[k].toNat_lt
          have p1 : p < 16 := by omega
          have q1 : q < 16 := by omega
          have p2 : (p : Int) < 16 := by omega
          have q2 : (q : Int) < 16 := by omega
          have p3 : (s[k].toNat : Int) / 16 = (p : Int) := by omega
          have q3 : (s[k].toNat : Int) % 16 = (q : Int) := by omega
          have p4 : IntKind.u8.wrap ((p : Int) + 1) = (p : Int) + 1 := by rw [IntKind.wrap_u8]; omega
          have q4 : IntKind.u8.wrap ((q : Int) + 1) = (q : Int) + 1 := by rw [IntKind.wrap_u8]; omega
          have p5 : (0 : Int) ≤ (p : Int) + 1 := by omega
          have q5 : (0 : Int) ≤ (q : Int) + 1 := by omega
          have p6 : ((p : Int) + 1).toNat = p + 1 := by omega
          have q6 : ((q : Int) + 1).toNat = q + 1 := by omega
          rw [hp, hq] at Hq
          clear hp hq hc
          have g0 : (0 : Int) ≤ (k : Int) := by omega
          have g1 : (k : Int) < s.size := by omega
          go_quiet (fail)
          go_wp2_with fail
          refine ⟨⟨k + 1, _, by go_num, by omega, rfl, ?_⟩, by simp [intOf]; omega⟩
          rw [Hacc2.out, Hst.out, Hq.out, hex_ext p p1, hex_ext q q1]
          show Value.string (bs acc ++ bs [37] ++ bs [Wrd.hx p] ++ bs [Wrd.hx q]) = _
          rw [bs_append, bs_append, bs_append, List.append_assoc, List.append_assoc]
          rfl
      · obtain rfl : k = s.size := by omega
        have hqe : Wrd.qs (s.data.toList.take s.size) = Wrd.qs s.data.toList := by rw [List.take_of_length_le (by rw [Hlen.out]; omega)]
        rw [hqe] at hq3 ⊢
        clear hqe
        go_wp2_with fail
        go_ret
        exact QtDraw.mk (by rw [Hqt.out]) ⟨_, rfl⟩
end Go.Proofs.Ytikgaknmmbmnoaa
