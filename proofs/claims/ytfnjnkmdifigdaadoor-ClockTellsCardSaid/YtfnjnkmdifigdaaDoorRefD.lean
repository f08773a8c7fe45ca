/- The document's own answers of layer 1 that later layers ask (Print, ParseWord), over Row, without layer 1's own texts. -/
import Derived.Test.YtfnjnkmdifigdaaDoorRow
import Derived.Test.YtfnjnkmdifigdaaDoorDigM
namespace Go.Proofs.YtfnjnkmdifigdaaDoor
open Go.RowKit

theorem isD_iff (c : UInt8) : Dig.isD c = true ↔ 48 ≤ (c.toNat : Int) ∧ (c.toNat : Int) ≤ 57 := by
  unfold Dig.isD; rw [decide_eq_true_iff]; omega

theorem r_digit (n : Nat) (h : n < 18446744073709551616) (w : World) :
    Calls Tryd.prog 72 #[.int .u64 n] w fun e w' => e = .returned (txt [Dig.dg n]) ∧ Below w.heap.size w w' := by
  have hconv := run_text_new (P := Tryd.prog) w Tryd.underlying73 Tryd.underlying5 Tryd.underlying9 (t := 5) [Dig.dg n] (by unfold maxLen; simp)
  have e : bcell (Dig.dg n) = Value.int .u8 (48 + (n : Int) % 10) := by unfold bcell; rw [Dig.dg_toNat]; exact int_k (by omega)
  simp only [List.map_cons, List.map_nil, e, List.length_cons, List.length_nil] at hconv
  clear e
  go_enter Tryd.func72, Tryd.ntmps72
  go_wp2
  go_ret
  exact ⟨rfl, (Below.refl _ _).alloc (Nat.le_refl _) _⟩

theorem r_Word (n : Nat) (h : n < 18446744073709551616) (w : World) :
    Calls Tryd.prog 56 #[.int .u64 n] w fun e w' => e = .returned (txt (Dig.wd n)) ∧ Below w.heap.size w w' := by
  go_enter Tryd.func56, Tryd.ntmps56
  go_wp2_with (go_at_call 72; refine (r_digit _ h _).mono ?_; rintro e w1 ⟨rfl, hb1⟩)
  go_loopw [0, 3] (fun a s wr => ∃ (m : Nat) (l : List UInt8), m ≤ n ∧ Dig.Tail n m l ∧ a = .int .u64 m ∧ s = txt l ∧ Below w.heap.size w wr) (fun a _ _ => (intOf a).toNat)
  case atStart => exact ⟨n, [Dig.dg n], Nat.le_refl _, Dig.Tail_start n (by omega), rfl, rfl, hb1⟩
  case round =>
    obtain ⟨m, l, hm, ht, rfl, rfl, hb⟩ := hrel
    have hl := Dig.Tail_len n m l ht
    have hs : (bs l).size ≤ 20 := by rw [bs_size]; exact hl
    have hs1 : (bs [Dig.dg (m / 10)]).size ≤ 1 := by rw [bs_size]; exact Nat.le_refl _
    by_cases hlt : m < 10
    · go_wp2
      go_ret
      exact ⟨ret_s (congrArg bs (ht.1 hlt)), hb⟩
    · have hd : ∀ w, Calls Tryd.prog 72 #[.int .u64 ((m : Int) / 10)] w fun e w' => e = .returned (txt [Dig.dg (m / 10)]) ∧ Below w.heap.size w w' := fun w => r_digit (m / 10) (by omega) w
      have Hd := hid hd
      clear hd
      generalize hc : Dig.dg (m / 10) = c at *
      have Hc := hid hc
      clear hc
      go_wp2_with (go_at_call 72; refine (Hd.out _).mono ?_; rintro e w2 ⟨rfl, hb2⟩)
      refine ⟨⟨m / 10, c :: l, by omega, by rw [← Hc.out]; exact Dig.Tail_next n m l (by omega) (by omega) ht, by go_num, by rw [bs_append]; rfl, hb.trans (hb2.mono hb.size)⟩, by simp [intOf]; omega⟩

theorem r_Size (n : Int) (h1 : -9223372036854775808 ≤ n) (h2 : n ≤ 9223372036854775807) (w : World) :
    Calls Tryd.prog 57 #[.int .i64 n] w fun e w' => e = .returned (.int .u64 (n.natAbs : Int)) ∧ w = w' := by
  by_cases h : n < 0
  · go_enter Tryd.func57, Tryd.ntmps57
    go_wp2
    go_ret
    exact ⟨ret_k (by (try rw [IntKind.wrap_u64]); (try rw [IntKind.wrap_u64]); omega), rfl⟩
  · go_enter Tryd.func57, Tryd.ntmps57
    go_wp2
    go_ret
    exact ⟨ret_k (by omega), rfl⟩

theorem r_Print (n : Int) (h1 : -9223372036854775808 ≤ n) (h2 : n ≤ 9223372036854775807) (w : World) :
    Calls Tryd.prog 33 #[.int .i64 n] w fun e w' => e = .returned (txt (Dig.wi n)) ∧ Below w.heap.size w w' := by
  unfold Dig.wi
  have hz : (bs (Dig.wd n.natAbs)).size ≤ 20 := by rw [bs_size]; exact Dig.wd_length_le _
  by_cases h : n < 0
  · rw [if_pos h]
    go_enter Tryd.func33, Tryd.ntmps33
    go_wp2_with (first | (go_at_call 57; refine (r_Size _ h1 h2 _).mono ?_; rintro e w' ⟨rfl, rfl⟩) | (go_at_call 56; refine (r_Word _ (by omega) _).mono ?_; rintro e w' ⟨rfl, hb⟩))
    go_ret
    exact ⟨ret_s (bs_append [45] _), hb⟩
  · rw [if_neg h]
    go_enter Tryd.func33, Tryd.ntmps33
    go_wp2_with (first | (go_at_call 57; refine (r_Size _ h1 h2 _).mono ?_; rintro e w' ⟨rfl, rfl⟩) | (go_at_call 56; refine (r_Word _ (by omega) _).mono ?_; rintro e w' ⟨rfl, hb⟩))
    go_ret
    exact ⟨rfl, hb⟩

theorem formed_cases (s : ByteArray) : Dig.formed s.data.toList = (s.data.toList.all Dig.isD && (decide (s.size = 1) || (decide (1 < s.size) && decide (s.data.toList.head? ≠ some 48)))) := by
  unfold Dig.formed; rw [data_len]

theorem head_of (s : ByteArray) (hp : 0 < s.size) : s.data.toList.head? = some s[0] := by
  rw [← data_get s 0 hp]; exact List.head?_eq_getElem? .. ▸ (List.getElem?_eq_getElem _)

theorem r_form (s : ByteArray) (hs : s.size ≤ maxLen) (w : World) :
    Calls Tryd.prog 54 #[.string s] w fun e w' => e = .returned (.bool (Dig.formed s.data.toList)) ∧ w = w' := by
  unfold maxLen at hs
  have Hlen := hid (data_len s)
  have Hz := hid (formed_cases s)
  go_enter Tryd.func54, Tryd.ntmps54
  go_wp2
  go_loop [3] (fun i => ∃ k : Nat, k ≤ s.size ∧ i = .int .i64 k ∧ Hid ((s.data.toList.take k).all Dig.isD = true)) (fun i => s.size - (intOf i).toNat)
  case atStart => exact ⟨0, Nat.zero_le _, rfl, rfl⟩
  case round =>
    obtain ⟨k, hk, rfl, hall⟩ := hrel
    by_cases hlt : k < s.size
    · have hst : Hid ((s.data.toList.take (k + 1)).all Dig.isD = ((s.data.toList.take k).all Dig.isD && Dig.isD s[k])) := by
        show List.all _ _ = _
        rw [Dig.take_snoc _ _ (by rw [Hlen.out]; exact hlt), List.all_append, data_get s k hlt]; simp
      have hno : Hid (¬ (48 ≤ (s[k].toNat : Int) ∧ (s[k].toNat : Int) ≤ 57) → Dig.formed s.data.toList = false) := by
        intro h
        rw [Hz.out]
        have : s.data.toList.all Dig.isD = false := by
          rw [Bool.eq_false_iff]
          intro e
          have := List.all_eq_true.1 e s[k] (by rw [← data_get s k hlt]; exact List.getElem_mem _)
          exact h ((isD_iff _).1 this)
        rw [this]; rfl
      by_cases c1 : (s[k].toNat : Int) < 48
      · go_wp2
        go_ret
        exact ⟨ret_b (hno.out (by omega)).symm, rfl⟩
      · by_cases c2 : (57 : Int) < (s[k].toNat : Int)
        · go_wp2
          go_ret
          exact ⟨ret_b (hno.out (by omega)).symm, rfl⟩
        · go_wp2
          go_round
          case rel => exact ⟨k + 1, by omega, by go_num, by show List.all _ _ = _; rw [hst.out, hall.out, (isD_iff _).2 (by omega)]; rfl⟩
          case measure => simp [intOf]; omega
    · have hv : Hid (Dig.formed s.data.toList = (decide (s.size = 1) || (decide (1 < s.size) && decide (s.data.toList.head? ≠ some 48)))) := by
        show Dig.formed _ = _
        rw [Hz.out, show s.data.toList.all Dig.isD = true from by rw [← hall.out, List.take_of_length_le (by rw [Hlen.out]; omega)]]
        rfl
      by_cases h1 : ((s.size : Int) == 1) = true
      · go_wp2
        go_ret
        refine ⟨ret_b ?_, rfl⟩
        have : s.size = 1 := by have := beq_iff_eq.1 h1; omega
        rw [hv.out, this]; rfl
      · have h1' : ((s.size : Int) == 1) = false := by simpa using h1
        have n1 : ¬ s.size = 1 := fun e => h1 (beq_iff_eq.2 (by omega))
        clear h1
        by_cases h2 : 1 < s.size
        · have hp : 0 < s.size := by omega
          have Hh := hid (head_of s hp)
          by_cases h3 : (s[0].toNat : Int) = 48
          · have h3' : ((s[0].toNat : Int) != 48) = false := by rw [h3]; rfl
            have H3 := hid h3
            clear h3
            go_wp2
            go_ret
            refine ⟨ret_b ?_, rfl⟩
            rw [hv.out, Hh.out, (Dig.toNat_48 s[0]).2 (by have := H3.out; omega)]
            simp [n1]
          · have h3' : ((s[0].toNat : Int) != 48) = true := by rw [bne_iff_ne]; exact h3
            go_wp2
            go_ret
            refine ⟨ret_b ?_, rfl⟩
            have : s[0] ≠ 48 := fun e => h3 (by have := (Dig.toNat_48 _).1 e; omega)
            rw [hv.out, Hh.out]
            simp [h2, this]
        · go_wp2
          go_ret
          refine ⟨ret_b ?_, rfl⟩
          rw [hv.out]
          simp [n1, h2]
def PwSaid (s : ByteArray) (w : World) : Prop := Calls Tryd.prog 31 #[.string s] w fun e w' => e = .returned (.tuple #[.int .u64 ((Dig.pw s.data.toList).1 : Int), .int .i64 ((Dig.pw s.data.toList).2 : Int)]) ∧ w = w'

theorem r_pw (s : ByteArray) (hs : s.size ≤ maxLen) (w : World) : PwSaid s w := by
  unfold PwSaid
  have hs' := hs
  unfold maxLen at hs'
  have Hlen := hid (data_len s)
  cases hf : Dig.formed s.data.toList with
  | false =>
    have hp : Dig.pw s.data.toList = (0, 3) := by unfold Dig.pw; rw [hf]; rfl
    have Hf := hid hf
    rw [hp]
    clear hp hf
    go_enter Tryd.func31, Tryd.ntmps31
    go_wp2_with (go_at_call 54; refine (r_form _ hs _).mono ?_; rintro e w' ⟨rfl, rfl⟩; rw [Hf.out])
    go_ret2
    exact ⟨rfl, rfl⟩
  | true =>
    have Hf := hid hf
    by_cases c1 : 20 < s.size
    · have hp := Dig.pw_long _ hf (by rw [Hlen.out]; exact c1)
      rw [hp]
      clear hp hf
      go_enter Tryd.func31, Tryd.ntmps31
      go_wp2_with (go_at_call 54; refine (r_form _ hs _).mono ?_; rintro e w' ⟨rfl, rfl⟩; rw [Hf.out])
      go_ret2
      exact ⟨rfl, rfl⟩
    · have hb1 : s.size = 20 → Op.bytesLess s.toList [49, 56, 52, 52, 54, 55, 52, 52, 48, 55, 51, 55, 48, 57, 53, 53, 49, 54, 49, 53] = decide (Dig.val s.data.toList < 18446744073709551615) := by
        intro c2; rw [list_of]; exact Dig.less_top _ hf (by rw [Hlen.out]; exact c2)
      have hb2 : s.size = 20 → (s.toList == [49, 56, 52, 52, 54, 55, 52, 52, 48, 55, 51, 55, 48, 57, 53, 53, 49, 54, 49, 53]) = decide (Dig.val s.data.toList = 18446744073709551615) := by
        intro c2; rw [list_of]; exact Dig.same_top _ hf (by rw [Hlen.out]; exact c2)
      by_cases c3 : 18446744073709551615 < Dig.val s.data.toList
      · have c2 : s.size = 20 := by
          have := Dig.pw_short _ hf
          have := Hlen.out
          omega
        have b1 := hb1 c2
        have b2 := hb2 c2
        rw [decide_eq_false (by omega)] at b1 b2
        have hc2 : ((s.size : Int) == 20) = true := by rw [c2]; rfl
        have hp : Dig.pw s.data.toList = (0, 6) := by unfold Dig.pw; rw [if_pos hf, if_neg (by omega)]
        rw [hp]
        clear hp hf c2 c3 hb1 hb2
        go_enter Tryd.func31, Tryd.ntmps31
        go_wp2_with (go_at_call 54; refine (r_form _ hs _).mono ?_; rintro e w' ⟨rfl, rfl⟩; rw [Hf.out])
        go_ret2
        exact ⟨rfl, rfl⟩
      · have key : s.size < 20 ∨ (((s.size : Int) == 20) = true ∧ Op.bytesLess s.toList [49, 56, 52, 52, 54, 55, 52, 52, 48, 55, 51, 55, 48, 57, 53, 53, 49, 54, 49, 53] = true) ∨ (((s.size : Int) == 20) = true ∧ Op.bytesLess s.toList [49, 56, 52, 52, 54, 55, 52, 52, 48, 55, 51, 55, 48, 57, 53, 53, 49, 54, 49, 53] = false ∧ (s.toList == [49, 56, 52, 52, 54, 55, 52, 52, 48, 55, 51, 55, 48, 57, 53, 53, 49, 54, 49, 53]) = true) := by
          by_cases c2 : s.size = 20
          · right
            have hc2 : ((s.size : Int) == 20) = true := by rw [c2]; rfl
            by_cases c4 : Dig.val s.data.toList < 18446744073709551615
            · exact .inl ⟨hc2, by rw [hb1 c2]; exact decide_eq_true c4⟩
            · exact .inr ⟨hc2, by rw [hb1 c2]; exact decide_eq_false c4, by rw [hb2 c2]; exact decide_eq_true (by omega)⟩
          · left; omega
        have hp : Dig.pw s.data.toList = (Dig.val s.data.toList, 0) := by unfold Dig.pw; rw [if_pos hf, if_pos (by omega)]
        rw [hp]
        have hall := (Dig.formed_iff _).1 hf
        have Hd : Hid (∀ k, (h : k < s.size) → 48 ≤ (s[k].toNat : Int) ∧ (s[k].toNat : Int) ≤ 57) := by
          intro k h
          have := (List.all_eq_true.1 hall.1) s[k] (by rw [← data_get s k h]; exact List.getElem_mem _)
          exact (isD_iff _).1 this
        have Hv : Hid (Dig.val s.data.toList < 18446744073709551616) := by show _ < _; omega
        clear hp hf c3 hb1 hb2 hall
        rcases key with h | ⟨g1, g2⟩ | ⟨g1, g2, g3⟩
        all_goals
          go_enter Tryd.func31, Tryd.ntmps31
          go_wp2_with (go_at_call 54; refine (r_form _ hs _).mono ?_; rintro e w' ⟨rfl, rfl⟩; rw [Hf.out])
          go_loop [4, 5] (fun n i => ∃ v k : Nat, k ≤ s.size ∧ Dig.Same v (Dig.val (s.data.toList.take k)) ∧ n = .int .u64 v ∧ i = .int .i64 k) (fun _ i => s.size - (intOf i).toNat)
          case atStart => exact ⟨0, 0, Nat.zero_le _, rfl, rfl, rfl⟩
          case round =>
            obtain ⟨v, k, hk, hsame, rfl, rfl⟩ := hrel
            by_cases hlt : k < s.size
            · obtain ⟨hd1, hd2⟩ := Hd.out k hlt
              have hnext : Dig.val (s.data.toList.take (k + 1)) = 10 * v + (s[k].toNat - 48) := by
                rw [Dig.take_snoc _ _ (by rw [Hlen.out]; exact hlt), Dig.val_snoc, data_get s k hlt, ← hsame]
              have hle := Dig.val_take_le s.data.toList (k + 1)
              have hov : 10 * v + (s[k].toNat - 48) < 18446744073709551616 := by have := Hv.out; omega
              have Hnext := hid hnext
              clear hnext hle
              go_wp2
              go_round
              case rel => exact ⟨10 * v + (s[k].toNat - 48), k + 1, by omega, Hnext.out.symm, int_k (by omega), by go_num⟩
              case measure => simp [intOf]; omega
            · go_wp2
              go_ret2
              refine ⟨ret_2 (int_k ?_) rfl, rfl⟩
              unfold Dig.Same at hsame
              rw [hsame, List.take_of_length_le (by rw [Hlen.out]; omega)]
end Go.Proofs.YtfnjnkmdifigdaaDoor
