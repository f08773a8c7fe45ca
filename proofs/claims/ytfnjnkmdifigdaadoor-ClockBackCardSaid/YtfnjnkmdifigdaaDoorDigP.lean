/- Contracts of layer 1 (digits) for later layers, over Row: Print, ParseWord, Parse, Within and what they call (layer 1's own texts DigA, DigB, DigC put together). -/
import Derived.Test.YtfnjnkmdifigdaaDoorRefD
import Derived.Test.YtfnjnkmdifigdaaDoorShelf
namespace Go.Proofs.YtfnjnkmdifigdaaDoor
open Go.RowKit

theorem d_sizeOf (n : Int) (h1 : -9223372036854775808 ≤ n) (h2 : n ≤ 9223372036854775807) (w : World) :
    Calls Tryd.prog 49 #[.int .i64 n] w fun e w' => e = .returned (.int .u64 (n.natAbs : Int)) ∧ w = w' := by
  by_cases h : n < 0
  · go_enter Tryd.func49, Tryd.ntmps49
    go_wp2
    go_ret
    exact ⟨ret_k (by rw [IntKind.wrap_u64, IntKind.wrap_u64]; omega), rfl⟩
  · go_enter Tryd.func49, Tryd.ntmps49
    go_wp2
    go_ret
    exact ⟨ret_k (by omega), rfl⟩

theorem d_signed (n : Nat) (h : n < 18446744073709551616) (b : Bool) (w : World) :
    Calls Tryd.prog 84 #[.int .u64 n, .bool b] w fun e w' => e = .returned (.tuple #[.int .i64 (Dig.sgn n b).1, .bool (Dig.sgn n b).2]) ∧ w = w' := by
  cases b
  · by_cases h1 : n < 9223372036854775808
    · rw [Dig.sgn_f n h1]
      have g1 : (n : Int) < 9223372036854775808 := by omega
      clear h1 h
      go_enter Tryd.func84, Tryd.ntmps84
      go_wp2
      go_ret2
      exact ⟨rfl, rfl⟩
    · rw [Dig.sgn_fn n h1]
      have g1 : ¬ (n : Int) < 9223372036854775808 := by omega
      clear h1 h
      go_enter Tryd.func84, Tryd.ntmps84
      go_wp2
      go_ret2
      exact ⟨rfl, rfl⟩
  · by_cases h1 : n ≤ 9223372036854775808
    · rw [Dig.sgn_t n h1]
      go_enter Tryd.func84, Tryd.ntmps84
      go_wp2
      go_ret2
      exact ⟨ret_2 (int_k (by rw [IntKind.wrap_u64]; unfold wrap64; omega)) rfl, rfl⟩
    · rw [Dig.sgn_tn n h1]
      go_enter Tryd.func84, Tryd.ntmps84
      go_wp2
      go_ret2
      exact ⟨rfl, rfl⟩

theorem d_length (n : Nat) (h : n < 18446744073709551616) (w : World) :
    Calls Tryd.prog 68 #[.int .u64 n] w fun e w' => e = .returned (.int .i64 ((Dig.wd n).length : Int)) ∧ w = w' := by
  have hl20 := Dig.wd_length_le n
  go_enter Tryd.func68, Tryd.ntmps68
  go_wp2
  go_loop [0, 3] (fun a d => ∃ m k : Nat, m ≤ n ∧ Dig.Same (k + (Dig.wd m).length) ((Dig.wd n).length + 1) ∧ 1 ≤ k ∧ k ≤ 21 ∧ a = .int .u64 m ∧ d = .int .i64 k) (fun a _ => (intOf a).toNat)
  case atStart => exact ⟨n, 1, Nat.le_refl _, by unfold Dig.Same; omega, by omega, by omega, rfl, rfl⟩
  case round =>
    obtain ⟨m, k, hm, hs, hk1, hk2, rfl, rfl⟩ := hrel
    by_cases h1 : m < 10
    · go_wp2
      go_ret
      exact ⟨ret_k (by have := Dig.wd_len_small m h1; unfold Dig.Same at hs; omega), rfl⟩
    · go_wp2
      go_round
      case rel => exact ⟨m / 10, k + 1, by omega, by have := Dig.wd_len_step m (by omega) (by omega); unfold Dig.Same at hs ⊢; omega, by omega, by have := Dig.wd_len_pos m;  unfold Dig.Same at hs; omega, by go_num, by go_num⟩
      case measure => simp [intOf]; omega

theorem Tryd.info_t5 : (Tryd.prog.info? 5).map (fun i => (i.zero, i.size, i.bytes)) = some (some (.int .u8 0), 1, 1) := by kernel_rfl

theorem d_Word (n : Nat) (h : n < 18446744073709551616) (w : World) :
    Calls Tryd.prog 48 #[.int .u64 n] w fun e w' => e = .returned (txt (Dig.wd n)) ∧ Below w.heap.size w w' := by
  have hl20 := Dig.wd_length_le n
  have hl1 := Dig.wd_len_pos n
  obtain ⟨i0, hi, hz0, hz1, hz2⟩ := info_parts Tryd.info_t5
  go_enter Tryd.func48, Tryd.ntmps48
  go_wp2_with fail
  refine (d_length _ h _).mono ?_
  rintro e w' ⟨rfl, rfl⟩
  have hb2 : i0.bytes * (Dig.wd n).length ≤ 281474976710656 := by rw [hz2]; omega
  have hb3 : (Dig.wd n).length ≤ maxLen := by unfold maxLen; omega
  go_wp2_with (at_make; refine wpList_make_full _ rfl _ _ 73 rfl w.heap.size 5 i0 (.int .u8 0) 1 Tryd.underlying73 hi hz0 hz1 .i64 .i64 _ _ (Dig.wd n).length rfl rfl rfl rfl hb2 hb3 (Nat.le_refl _) ?_; intro w1 hown hgrow)
  have hb : Below w.heap.size w w1 := (Below.refl _ _).grown hgrow (Nat.le_refl _) (fun k hk => by cases hk)
  have hown0 : w1.ownsRow w.heap.size 5 1 (.slice (some ⟨w.heap.size, 0, none⟩) (Dig.wd n).length (Dig.wd n).length) (Dig.wd n).length ((Dig.part (Dig.wd n) 0).map bcell) := by
    rw [Dig.part_zero, List.map_replicate]
    rw [made_one] at hown
    exact hown
  clear hown hgrow
  have HL : Dig.Same (Dig.wd n).length (Dig.wd n).length := rfl
  go_loopw [0, 10] (fun a i wr => ∃ m k : Nat, k ≤ (Dig.wd n).length ∧ m ≤ n ∧ Dig.Same m (n / 10 ^ k) ∧ a = .int .u64 m ∧ i = .int .i64 k ∧ wr.ownsRow w.heap.size 5 1 (.slice (some ⟨w.heap.size, 0, none⟩) (Dig.wd n).length (Dig.wd n).length) (Dig.wd n).length ((Dig.part (Dig.wd n) k).map bcell) ∧ Below w.heap.size w wr) (fun _ i _ => (Dig.wd n).length - (intOf i).toNat)
  case atStart => exact ⟨n, 0, Nat.zero_le _, Nat.le_refl _, by simp [Dig.Same], rfl, rfl, hown0, hb⟩
  case round =>
    obtain ⟨m, k, hk, hm, hs, rfl, rfl, hown, hb⟩ := hrel
    by_cases hlt : k < (Dig.wd n).length
    · have hget := hown.cellAt ((Dig.wd n).length - 1 - k) (by omega)
      have hfz := hown.frozenAt ((Dig.wd n).length - 1 - k)
      obtain ⟨u, hu⟩ : ∃ u, ((Dig.part (Dig.wd n) k).map bcell)[(Dig.wd n).length - 1 - k]? = some u := ⟨_, List.getElem?_eq_getElem (by rw [List.length_map, Dig.part_len]; omega)⟩
      rw [hu] at hget
      clear hu
      have Hown := hid hown
      clear hown hown0
      go_wp2
      refine ⟨⟨m / 10, k + 1, by omega, by omega, ?_, by go_num, by go_num, ?_, hb.setCell (Nat.le_refl _) _⟩, by simp [intOf]; omega⟩
      · unfold Dig.Same at hs ⊢; rw [hs, Nat.div_div_eq_div_mul, ← Nat.pow_succ]
      · have hst := World.ownsRow.stored Hown.out ((Dig.wd n).length - 1 - k) (bcell (Dig.dg m))
        rw [← List.map_set, Dig.part_set _ k hlt _ (by rw [hs]; exact Dig.wd_get k n (by omega) hlt)] at hst
        have e : bcell (Dig.dg m) = Value.int .u8 (48 + (m : Int) % 10) := by unfold bcell; rw [Dig.dg_toNat]; exact int_k (by omega)
        rw [e] at hst
        exact hst.1
    · obtain rfl : k = (Dig.wd n).length := by omega
      rw [Dig.part_all] at hown
      have hconv := run_text (P := Tryd.prog) wr Tryd.underlying73 Tryd.underlying5 Tryd.underlying9 ⟨w.heap.size, 0, none⟩ (Dig.wd n).length (Dig.wd n).length (Dig.wd n) rfl (hown.cells rfl)
      clear hown hown0
      go_wp2
      go_ret
      exact ⟨rfl, hb⟩

theorem d_Print (n : Int) (h1 : -9223372036854775808 ≤ n) (h2 : n ≤ 9223372036854775807) (w : World) :
    Calls Tryd.prog 25 #[.int .i64 n] w fun e w' => e = .returned (txt (Dig.wi n)) ∧ Below w.heap.size w w' := by
  unfold Dig.wi
  have hz : (bs (Dig.wd n.natAbs)).size ≤ 20 := by rw [bs_size]; exact Dig.wd_length_le _
  by_cases h : n < 0
  · rw [if_pos h]
    go_enter Tryd.func25, Tryd.ntmps25
    go_wp2_with (first | (go_at_call 49; refine (d_sizeOf _ h1 h2 _).mono ?_; rintro e w' ⟨rfl, rfl⟩) | (go_at_call 48; refine (d_Word _ (by omega) _).mono ?_; rintro e w' ⟨rfl, hb⟩))
    go_ret
    exact ⟨ret_s (bs_append [45] _), hb⟩
  · rw [if_neg h]
    go_enter Tryd.func25, Tryd.ntmps25
    go_wp2_with (first | (go_at_call 49; refine (d_sizeOf _ h1 h2 _).mono ?_; rintro e w' ⟨rfl, rfl⟩) | (go_at_call 48; refine (d_Word _ (by omega) _).mono ?_; rintro e w' ⟨rfl, hb⟩))
    go_ret
    exact ⟨rfl, hb⟩

theorem d_formed (s : ByteArray) (hs : s.size ≤ maxLen) (w : World) :
    Calls Tryd.prog 79 #[.string s] w fun e w' => e = .returned (.bool (Dig.formed s.data.toList)) ∧ w = w' := by
  unfold maxLen at hs
  have hlen := data_len s
  have hiff := Dig.formed_iff s.data.toList
  by_cases h0 : s.size = 0
  · have hf : Dig.formed s.data.toList = false := by
      rw [Bool.eq_false_iff]; intro h; have := hiff.1 h; omega
    have e1 : s.toList = [] := (empty_of s).2 h0
    rw [hf]
    clear hiff hlen
    go_enter Tryd.func79, Tryd.ntmps79
    go_wp2
    go_ret
    exact ⟨rfl, rfl⟩
  · have hp : 0 < s.size := by omega
    have e1 : ¬ s.toList = [] := fun e => h0 ((empty_of s).1 e)
    have e2 : s.toList.isEmpty = false := by rw [isEmpty_of]; exact decide_eq_false h0
    have hhead : s.data.toList.head? = some s[0] := by
      rw [← data_get s 0 hp]; exact List.head?_eq_getElem? .. ▸ (List.getElem?_eq_getElem _)
    have Hhead := hid hhead
    have Hlen := hid hlen
    have Hiff := hid hiff
    clear hhead hlen hiff
    by_cases h48 : (s[0].toNat : Int) = 48 ∧ 1 < s.size
    · obtain ⟨g1, g2⟩ := h48
      have hf : Dig.formed s.data.toList = false := by
        rw [Bool.eq_false_iff]; intro h
        obtain ⟨_, h | ⟨_, h⟩⟩ := Hiff.out.1 h
        · have := Hlen.out; omega
        · apply h; rw [Hhead.out, (Dig.toNat_48 s[0]).2 (by omega)]
      rw [hf]
      go_enter Tryd.func79, Tryd.ntmps79
      go_wp2
      go_ret
      exact ⟨rfl, rfl⟩
    · have key : ¬ (s[0].toNat : Int) = 48 ∨ ((s[0].toNat : Int) = 48 ∧ s.size ≤ 1) := by omega
      clear h48
      have hshape : s.data.toList.length = 1 ∨ (1 < s.data.toList.length ∧ s.data.toList.head? ≠ some 48) := by
        have := Hlen.out
        by_cases h1 : s.size = 1
        · left; omega
        · right
          refine ⟨by omega, ?_⟩
          rw [Hhead.out]
          intro e
          have e : s[0] = 48 := by simpa using e
          have := (Dig.toNat_48 _).1 e
          omega
      have Hshape := hid hshape
      clear hshape
      have hz : Hid (Dig.formed s.data.toList = s.data.toList.all Dig.isD) := by
        show Dig.formed _ = _
        rw [Bool.eq_iff_iff, Hiff.out]
        exact ⟨fun h => h.1, fun h => ⟨h, Hshape.out⟩⟩
      clear Hiff Hhead
      rcases key with g | ⟨g, g2⟩
      all_goals
        go_enter Tryd.func79, Tryd.ntmps79
        go_wp2
        go_loop [3, 18] (fun _ i => ∃ k : Nat, k ≤ s.size ∧ i = .int .i64 k ∧ Hid ((s.data.toList.take k).all Dig.isD = true)) (fun _ i => s.size - (intOf i).toNat)
        case atStart => exact ⟨0, Nat.zero_le _, rfl, rfl⟩
        case round =>
          obtain ⟨k, hk, rfl, hall⟩ := hrel
          by_cases hlt : k < s.size
          · have hst : Hid ((s.data.toList.take (k + 1)).all Dig.isD = ((s.data.toList.take k).all Dig.isD && Dig.isD s[k])) := by
              show List.all _ _ = _
              rw [Dig.take_snoc _ _ (by rw [Hlen.out]; exact hlt), List.all_append, data_get s k hlt]; simp
            have hno : Hid (¬ (48 ≤ (s[k].toNat : Int) ∧ (s[k].toNat : Int) ≤ 57) → Dig.formed s.data.toList = false) := by
              intro h
              rw [hz.out, Bool.eq_false_iff]
              intro e
              have := List.all_eq_true.1 e s[k] (by rw [← data_get s k hlt]; exact List.getElem_mem _)
              exact h ((isD_iff _).1 this)
            by_cases c1 : (s[k].toNat : Int) < 48
            · go_wp2
              go_ret
              exact ⟨ret_b (hno.out (by omega)).symm, rfl⟩
            · by_cases c2 : (57 : Int) < (s[k].toNat : Int)
              · go_wp2
                go_ret
                exact ⟨ret_b (hno.out (by omega)).symm, rfl⟩
              · go_wp2
                go_round
                case rel => exact ⟨k + 1, by omega, by go_num, by show List.all _ _ = _; rw [hst.out, hall.out, (isD_iff _).2 (by omega)]; rfl⟩
                case measure => simp [intOf]; omega
          · go_wp2
            go_ret
            refine ⟨ret_b ?_, rfl⟩
            rw [hz.out, ← hall.out, List.take_of_length_le (by rw [Hlen.out]; omega)]


theorem m_10 (v : Nat) (h : v * 10 < 18446744073709551616) (w : World) :
    Calls Tryd.prog 80 #[.int .u64 v, .int .u64 10] w fun e w' => e = .returned (.tuple #[.int .u64 0, .int .u64 ((v * 10 : Nat) : Int)]) ∧ w = w' := by
  refine (Tryd.bits_Mul64 v 10 (by omega) (by omega) w).mono ?_
  rintro e w' ⟨rfl, rfl⟩
  exact ⟨ret_2 (int_k (by omega)) (int_k (by omega)), rfl⟩

theorem m_10_out (v : Nat) (h0 : v < 18446744073709551616) (h : 18446744073709551616 ≤ v * 10) (w : World) :
    Calls Tryd.prog 80 #[.int .u64 v, .int .u64 10] w fun e w' => ∃ a b : Nat, (1 ≤ a ∧ a < 10) ∧ b < 18446744073709551616 ∧ e = .returned (.tuple #[.int .u64 a, .int .u64 b]) ∧ w = w' := by
  refine (Tryd.bits_Mul64 v 10 (by omega) (by omega) w).mono ?_
  rintro e w' ⟨rfl, rfl⟩
  exact ⟨_, _, ⟨by omega, by omega⟩, by omega, rfl, rfl⟩

theorem a_run (x y : Int) (hx : 0 ≤ x) (hy : 0 ≤ y) (w : World) :
    (callFunc 81 #[.int .u64 x, .int .u64 y, .int .u64 0]).run Tryd.prog w = .ok (.value (.tuple #[.int .u64 ((x + y + 0) % 18446744073709551616), .int .u64 ((x + y + 0) / 18446744073709551616)])) w := by
  rw [run_callFunc_extern (e := add64Entry) Tryd.func81 (by kernel_rfl) (by kernel_rfl) (by kernel_rfl) (by rfl), run_add64 x y 0 hx hy (by omega) (by omega)]
  rfl

theorem a_ok (x y : Int) (hx : 0 ≤ x) (hy : 0 ≤ y) (h : x + y < 18446744073709551616) (w : World) :
    (callFunc 81 #[.int .u64 x, .int .u64 y, .int .u64 0]).run Tryd.prog w = .ok (.value (.tuple #[.int .u64 (x + y), .int .u64 0])) w := by
  rw [a_run x y hx hy, show (x + y + 0) % 18446744073709551616 = x + y from by omega, show (x + y + 0) / 18446744073709551616 = 0 from by omega]

theorem a_out (x y : Int) (hx : 0 ≤ x) (hy : 0 ≤ y) (hx' : x < 18446744073709551616) (hy' : y < 18446744073709551616) (h : 18446744073709551616 ≤ x + y) (w : World) :
    ∃ z : Nat, z < 18446744073709551616 ∧ (callFunc 81 #[.int .u64 x, .int .u64 y, .int .u64 0]).run Tryd.prog w = .ok (.value (.tuple #[.int .u64 z, .int .u64 1])) w := by
  refine ⟨(x + y - 18446744073709551616).toNat, by omega, ?_⟩
  rw [a_run x y hx hy, show (x + y + 0) % 18446744073709551616 = ((x + y - 18446744073709551616).toNat : Int) from by omega, show (x + y + 0) / 18446744073709551616 = 1 from by omega]

theorem a_any (x y : Int) (hx : 0 ≤ x) (hy : 0 ≤ y) (hx' : x < 18446744073709551616) (hy' : y < 18446744073709551616) (w : World) :
    ∃ z c : Nat, z < 18446744073709551616 ∧ c ≤ 1 ∧ (callFunc 81 #[.int .u64 x, .int .u64 y, .int .u64 0]).run Tryd.prog w = .ok (.value (.tuple #[.int .u64 z, .int .u64 c])) w := by
  by_cases h : x + y < 18446744073709551616
  · exact ⟨(x + y).toNat, 0, by omega, by omega, by rw [a_ok x y hx hy h, show ((x + y).toNat : Int) = x + y from by omega]; rfl⟩
  · obtain ⟨z, hz, e⟩ := a_out x y hx hy hx' hy' (by omega) w
    exact ⟨z, 1, hz, by omega, e⟩

theorem d_ParseWord (s : ByteArray) (hs : s.size ≤ maxLen) (w : World) :
    Calls Tryd.prog 70 #[.string s] w fun e w' => e = .returned (.tuple #[.int .u64 ((Dig.pw s.data.toList).1 : Int), .int .i64 ((Dig.pw s.data.toList).2 : Int)]) ∧ w = w' := by
  have hs' := hs
  unfold maxLen at hs'
  have Hlen := hid (data_len s)
  cases hf : Dig.formed s.data.toList with
  | false =>
    have hp : Dig.pw s.data.toList = (0, 3) := by unfold Dig.pw; rw [hf]; rfl
    have Hf := hid hf
    rw [hp]
    clear hp hf
    go_enter Tryd.func70, Tryd.ntmps70
    go_wp2_with (go_at_call 79; refine (d_formed _ hs _).mono ?_; rintro e w' ⟨rfl, rfl⟩; rw [Hf.out])
    go_ret2
    exact ⟨rfl, rfl⟩
  | true =>
    have Hf := hid hf
    have hall := (Dig.formed_iff _).1 hf
    have Hd : Hid (∀ k, (h : k < s.size) → 48 ≤ (s[k].toNat : Int) ∧ (s[k].toNat : Int) ≤ 57) := by
      intro k h
      have := (List.all_eq_true.1 hall.1) s[k] (by rw [← data_get s k h]; exact List.getElem_mem _)
      exact (isD_iff _).1 this
    clear hf hall
    go_enter Tryd.func70, Tryd.ntmps70
    go_wp2_with (go_at_call 79; refine (d_formed _ hs _).mono ?_; rintro e w' ⟨rfl, rfl⟩; rw [Hf.out])
    go_loop [4, 5, 6, 7, 8, 9, 15] (fun n _ _ _ _ _ i => ∃ v k : Nat, k ≤ s.size ∧ v < 18446744073709551616 ∧ Dig.Same v (Dig.val (s.data.toList.take k)) ∧ n = .int .u64 v ∧ i = .int .i64 k) (fun _ _ _ _ _ _ i => s.size - (intOf i).toNat)
    case atStart => exact ⟨0, 0, Nat.zero_le _, by omega, rfl, rfl, rfl⟩
    case round =>
      obtain ⟨v, k, hk, hv, hsame, rfl, rfl⟩ := hrel
      by_cases hlt : k < s.size
      · obtain ⟨hd1, hd2⟩ := Hd.out k hlt
        by_cases hov : v * 10 < 18446744073709551616
        · have hnext : Hid (Dig.val (s.data.toList.take (k + 1)) = 10 * v + (s[k].toNat - 48)) := by
            show Dig.val _ = _
            rw [Dig.take_snoc _ _ (by rw [Hlen.out]; exact hlt), Dig.val_snoc, data_get s k hlt, ← hsame]
          by_cases hov2 : v * 10 + (s[k].toNat - 48) < 18446744073709551616
          · have ha := a_ok ((v : Int) * 10) ((s[k].toNat : Int) - 48) (by omega) (by omega) (by omega) w
            go_wp2_with (go_at_call 80; refine (m_10 _ hov _).mono ?_; rintro e w' ⟨rfl, rfl⟩)
            refine ⟨⟨10 * v + (s[k].toNat - 48), k + 1, by omega, by omega, hnext.out.symm, ?_, by go_num⟩, by simp [intOf]; omega⟩
            exact int_k (by omega)
          · obtain ⟨z, hz, ha⟩ := a_out ((v : Int) * 10) ((s[k].toNat : Int) - 48) (by omega) (by omega) (by omega) (by omega) (by omega) w
            have hres : Hid (Dig.pw s.data.toList = (0, 6)) := by
              show Dig.pw _ = _
              have hle := Dig.val_take_le s.data.toList (k + 1)
              rw [hnext.out] at hle
              unfold Dig.pw; rw [if_pos Hf.out, if_neg (by omega)]
            go_wp2_with (go_at_call 80; refine (m_10 _ hov _).mono ?_; rintro e w' ⟨rfl, rfl⟩)
            go_ret2
            rw [hres.out]
            exact ⟨rfl, rfl⟩
        · have hres : Hid (Dig.pw s.data.toList = (0, 6)) := by
            show Dig.pw _ = _
            have hle := Dig.val_take_le s.data.toList (k + 1)
            rw [Dig.take_snoc _ _ (by rw [Hlen.out]; exact hlt), Dig.val_snoc, data_get s k hlt, ← hsame] at hle
            unfold Dig.pw; rw [if_pos Hf.out, if_neg (by omega)]
          have ha : Hid (∀ b : Nat, b < 18446744073709551616 → ∃ z c : Nat, z < 18446744073709551616 ∧ c ≤ 1 ∧ (callFunc 81 #[.int .u64 b, .int .u64 ((s[k].toNat : Int) - 48), .int .u64 0]).run Tryd.prog w = .ok (.value (.tuple #[.int .u64 z, .int .u64 c])) w) := fun b hb => a_any _ _ (by omega) (by omega) (by omega) (by omega) w
          go_wp2_with (go_at_call 80; refine (m_10_out _ hv (by omega) _).mono ?_; rintro e w' ⟨a, b, ⟨ha1, ha2⟩, hb, rfl, rfl⟩; obtain ⟨z, c, hz, hc, hc2⟩ := ha.out b hb)
          go_ret2
          rw [hres.out]
          exact ⟨rfl, rfl⟩
      · go_wp2
        go_ret2
        refine ⟨?_, rfl⟩
        have hval : v = Dig.val s.data.toList := by
          have e := hsame
          unfold Dig.Same at e
          rwa [List.take_of_length_le (by rw [Hlen.out]; omega)] at e
        have hp : Dig.pw s.data.toList = (v, 0) := by unfold Dig.pw; rw [if_pos Hf.out, ← hval, if_pos hv]
        rw [hp]
        rfl

theorem pre_45 (a : UInt8) (r : List UInt8) : [45].isPrefixOf (a :: r) = decide (a = 45) := by
  by_cases h : a = 45
  · subst h; rfl
  · have h' : ((45 : UInt8) == a) = false := by rw [beq_eq_false_iff_ne]; exact fun e => h e.symm
    rw [decide_eq_false h, List.isPrefixOf, h']; rfl
theorem cut_below (l : List UInt8) : Lib.hasPrefix l [45] = Dig.below l := by
  unfold Lib.hasPrefix Dig.below
  cases l with
  | nil => rfl
  | cons a r => rw [pre_45]; simp
theorem cut_rest (l : List UInt8) : Lib.trimPrefix l [45] = Dig.rest l := by
  unfold Lib.trimPrefix Dig.rest
  rw [cut_below]
  cases l with
  | nil => rfl
  | cons a r => simp

theorem d_cut (s : ByteArray) (w : World) :
    Calls Tryd.prog 83 #[.string s, .string ⟨#[45]⟩] w fun e w' => e = .returned (.tuple #[txt (Dig.rest s.data.toList), .bool (Dig.below s.data.toList)]) ∧ w = w' := by
  refine (Tryd.strings_CutPrefix s ⟨#[45]⟩ w).mono ?_
  rintro e w' ⟨rfl, rfl⟩
  refine ⟨?_, rfl⟩
  show Ending.returned (.tuple #[txt (Lib.trimPrefix s.data.toList [45]), .bool (Lib.hasPrefix s.data.toList [45])]) = _
  rw [cut_rest, cut_below]

theorem rest_size (s : ByteArray) : (bs (Dig.rest s.data.toList)).size ≤ s.size := by
  rw [bs_size, ← data_len]
  unfold Dig.rest; split <;> simp

theorem d_Parse (s : ByteArray) (hs : s.size ≤ maxLen) (w : World) :
    Calls Tryd.prog 74 #[.string s] w fun e w' => e = .returned (.tuple #[.int .i64 (Dig.pa s.data.toList).1, .int .i64 ((Dig.pa s.data.toList).2 : Int)]) ∧ w = w' := by
  have hr : (bs (Dig.rest s.data.toList)).size ≤ maxLen := Nat.le_trans (rest_size s) hs
  have hpw : ∀ w, Calls Tryd.prog 70 #[txt (Dig.rest s.data.toList)] w fun e w' => e = .returned (.tuple #[.int .u64 ((Dig.pw (Dig.rest s.data.toList)).1 : Int), .int .i64 ((Dig.pw (Dig.rest s.data.toList)).2 : Int)]) ∧ w = w' := fun w => d_ParseWord _ hr w
  have hcut : ∀ w, Calls Tryd.prog 83 #[.string s, .string ⟨#[45]⟩] w fun e w' => e = .returned (.tuple #[txt (Dig.rest s.data.toList), .bool (Dig.below s.data.toList)]) ∧ w = w' := fun w => d_cut s w
  have hlt : (Dig.pw (Dig.rest s.data.toList)).1 < 18446744073709551616 := by
    by_cases h2 : (Dig.pw (Dig.rest s.data.toList)).2 = 0
    · exact (Dig.pw_back _ h2).2
    · unfold Dig.pw at h2 ⊢
      split
      · split
        · assumption
        · simp
      · simp
  have hnum := Dig.pa_num s.data.toList
  have hout := Dig.pa_out s.data.toList
  have hform := Dig.pa_form s.data.toList
  have hnought := Dig.pa_nought s.data.toList
  generalize Dig.pa s.data.toList = ans at *
  have hrest : (bs (Dig.rest s.data.toList)).toList = Dig.rest s.data.toList := by rw [list_of]; rfl
  generalize hb : Dig.below s.data.toList = b at *
  generalize Dig.rest s.data.toList = r at *
  generalize Dig.pw r = p at *
  obtain ⟨n, e⟩ := p
  have Hpw := hid hpw
  have Hcut := hid hcut
  have Hnum := hid hnum
  have Hout := hid hout
  have Hform := hid hform
  have Hnought := hid hnought
  clear hpw hcut hnum hout hform hnought hb hs hr
  have hsig : ∀ w, Calls Tryd.prog 84 #[.int .u64 n, .bool b] w fun e w' => e = .returned (.tuple #[.int .i64 (Dig.sgn n b).1, .bool (Dig.sgn n b).2]) ∧ w = w' := fun w => d_signed n hlt b w
  generalize Dig.sgn n b = q at *
  obtain ⟨m, ok⟩ := q
  have Hsig := hid hsig
  clear hsig
  have Hrest := hid hrest
  clear hrest
  by_cases h1 : b = true ∧ r = [48]
  · obtain ⟨rfl, hr⟩ := h1
    have ha := Hnought.out ⟨rfl, hr⟩
    subst ha
    have hq : (bs r).toList = [48] := by rw [Hrest.out, hr]
    clear hr
    go_enter Tryd.func74, Tryd.ntmps74
    go_wp2_with (go_at_call 83; refine (Hcut.out _).mono ?_; rintro e w' ⟨rfl, rfl⟩)
    go_ret2
    exact ⟨rfl, rfl⟩
  · have hq : b = true → ((bs r).toList == [48]) = false := by
      intro hb
      rw [beq_eq_false_iff_ne, Hrest.out]; exact fun e => h1 ⟨hb, e⟩
    by_cases he : e = 0
    · subst he
      cases ok with
      | true =>
        have ha := Hnum.out h1 rfl rfl
        clear h1
        subst ha
        cases b with
        | true =>
          have hq' := hq rfl
          clear hq
          go_enter Tryd.func74, Tryd.ntmps74
          go_wp2_with (first | (go_at_call 83; refine (Hcut.out _).mono ?_; rintro e w' ⟨rfl, rfl⟩) | (go_at_call 70; refine (Hpw.out _).mono ?_; rintro e w' ⟨rfl, rfl⟩) | (go_at_call 84; refine (Hsig.out _).mono ?_; rintro e w' ⟨rfl, rfl⟩))
          go_ret2
          exact ⟨rfl, rfl⟩
        | false =>
          clear hq
          go_enter Tryd.func74, Tryd.ntmps74
          go_wp2_with (first | (go_at_call 83; refine (Hcut.out _).mono ?_; rintro e w' ⟨rfl, rfl⟩) | (go_at_call 70; refine (Hpw.out _).mono ?_; rintro e w' ⟨rfl, rfl⟩) | (go_at_call 84; refine (Hsig.out _).mono ?_; rintro e w' ⟨rfl, rfl⟩))
          go_ret2
          exact ⟨rfl, rfl⟩
      | false =>
        have ha := Hout.out h1 rfl (by simp)
        clear h1
        subst ha
        cases b with
        | true =>
          have hq' := hq rfl
          clear hq
          go_enter Tryd.func74, Tryd.ntmps74
          go_wp2_with (first | (go_at_call 83; refine (Hcut.out _).mono ?_; rintro e w' ⟨rfl, rfl⟩) | (go_at_call 70; refine (Hpw.out _).mono ?_; rintro e w' ⟨rfl, rfl⟩) | (go_at_call 84; refine (Hsig.out _).mono ?_; rintro e w' ⟨rfl, rfl⟩))
          go_ret2
          exact ⟨rfl, rfl⟩
        | false =>
          clear hq
          go_enter Tryd.func74, Tryd.ntmps74
          go_wp2_with (first | (go_at_call 83; refine (Hcut.out _).mono ?_; rintro e w' ⟨rfl, rfl⟩) | (go_at_call 70; refine (Hpw.out _).mono ?_; rintro e w' ⟨rfl, rfl⟩) | (go_at_call 84; refine (Hsig.out _).mono ?_; rintro e w' ⟨rfl, rfl⟩))
          go_ret2
          exact ⟨rfl, rfl⟩
    · have ha := Hform.out h1 he
      have he' : ((e : Int) != 0) = true := by rw [bne_iff_ne]; omega
      clear h1
      subst ha
      cases b with
      | true =>
        have hq' := hq rfl
        clear hq
        go_enter Tryd.func74, Tryd.ntmps74
        go_wp2_with (first | (go_at_call 83; refine (Hcut.out _).mono ?_; rintro e w' ⟨rfl, rfl⟩) | (go_at_call 70; refine (Hpw.out _).mono ?_; rintro e w' ⟨rfl, rfl⟩) | (go_at_call 84; refine (Hsig.out _).mono ?_; rintro e w' ⟨rfl, rfl⟩))
        go_ret2
        exact ⟨rfl, rfl⟩
      | false =>
        clear hq
        go_enter Tryd.func74, Tryd.ntmps74
        go_wp2_with (first | (go_at_call 83; refine (Hcut.out _).mono ?_; rintro e w' ⟨rfl, rfl⟩) | (go_at_call 70; refine (Hpw.out _).mono ?_; rintro e w' ⟨rfl, rfl⟩) | (go_at_call 84; refine (Hsig.out _).mono ?_; rintro e w' ⟨rfl, rfl⟩))
        go_ret2
        exact ⟨rfl, rfl⟩

theorem d_Within (s : ByteArray) (hs : s.size ≤ maxLen) (lo hi : Int) (w : World) :
    Calls Tryd.prog 60 #[.string s, .int .i64 lo, .int .i64 hi] w fun e w' => e = .returned (.tuple #[.int .i64 (Dig.within s.data.toList lo hi).1, .int .i64 ((Dig.within s.data.toList lo hi).2 : Int)]) ∧ w = w' := by
  have Hpa := hid (fun w => d_Parse s hs w)
  have hw : Hid (Dig.within s.data.toList lo hi = if (Dig.pa s.data.toList).2 ≠ 0 then (0, (Dig.pa s.data.toList).2) else if (Dig.pa s.data.toList).1 < lo ∨ hi < (Dig.pa s.data.toList).1 then (0, 6) else ((Dig.pa s.data.toList).1, 0)) := rfl
  generalize Dig.within s.data.toList lo hi = ans at *
  generalize Dig.pa s.data.toList = p at *
  obtain ⟨n, e⟩ := p
  by_cases he : e = 0
  · subst he
    have hw2 : Hid (ans = if n < lo ∨ hi < n then (0, 6) else (n, 0)) := by
      have := hw.out
      rwa [if_neg (by simp)] at this
    clear hw
    by_cases h1 : n < lo
    · have := hw2.out
      rw [if_pos (.inl h1)] at this
      subst this
      go_enter Tryd.func60, Tryd.ntmps60
      go_wp2_with (go_at_call 74; refine (Hpa.out _).mono ?_; rintro e w' ⟨rfl, rfl⟩)
      go_ret2
      exact ⟨rfl, rfl⟩
    · by_cases h2 : hi < n
      · have := hw2.out
        rw [if_pos (.inr h2)] at this
        subst this
        go_enter Tryd.func60, Tryd.ntmps60
        go_wp2_with (go_at_call 74; refine (Hpa.out _).mono ?_; rintro e w' ⟨rfl, rfl⟩)
        go_ret2
        exact ⟨rfl, rfl⟩
      · have := hw2.out
        rw [if_neg (by omega)] at this
        subst this
        go_enter Tryd.func60, Tryd.ntmps60
        go_wp2_with (go_at_call 74; refine (Hpa.out _).mono ?_; rintro e w' ⟨rfl, rfl⟩)
        go_ret2
        exact ⟨rfl, rfl⟩
  · have := hw.out
    rw [if_pos he] at this
    subst this
    have he' : ((e : Int) != 0) = true := by rw [bne_iff_ne]; omega
    clear hw
    go_enter Tryd.func60, Tryd.ntmps60
    go_wp2_with (go_at_call 74; refine (Hpa.out _).mono ?_; rintro e w' ⟨rfl, rfl⟩)
    go_ret2
    exact ⟨rfl, rfl⟩
end Go.Proofs.YtfnjnkmdifigdaaDoor
