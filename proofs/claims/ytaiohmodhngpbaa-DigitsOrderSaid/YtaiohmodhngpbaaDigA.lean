/- Contracts of layer 1 (digits): what each small function returns, for every argument; nothing that was in memory changes. -/
import Derived.Test.YtaiohmodhngpbaaLib
import Derived.Test.YtaiohmodhngpbaaDigM
import Derived.Test.YtaiohmodhngpbaaShelf
namespace Go.Proofs.Ytaiohmodhngpbaa
open Go.RowKit

theorem d_sizeOf (n : Int) (h1 : -9223372036854775808 ≤ n) (h2 : n ≤ 9223372036854775807) (w : World) :
    Calls Try.prog 30 #[.int .i64 n] w fun e w' => e = .returned (.int .u64 (n.natAbs : Int)) ∧ w = w' := by
  by_cases h : n < 0
  · go_enter Try.func30, Try.ntmps30
    go_wp2
    go_ret
    exact ⟨ret_k (by rw [IntKind.wrap_u64, IntKind.wrap_u64]; omega), rfl⟩
  · go_enter Try.func30, Try.ntmps30
    go_wp2
    go_ret
    exact ⟨ret_k (by omega), rfl⟩

theorem d_signed (n : Nat) (h : n < 18446744073709551616) (b : Bool) (w : World) :
    Calls Try.prog 25 #[.int .u64 n, .bool b] w fun e w' => e = .returned (.tuple #[.int .i64 (Dig.sgn n b).1, .bool (Dig.sgn n b).2]) ∧ w = w' := by
  cases b
  · by_cases h1 : n < 9223372036854775808
    · rw [Dig.sgn_f n h1]
      have g1 : (n : Int) < 9223372036854775808 := by omega
      clear h1 h
      go_enter Try.func25, Try.ntmps25
      go_wp2
      go_ret2
      exact ⟨rfl, rfl⟩
    · rw [Dig.sgn_fn n h1]
      have g1 : ¬ (n : Int) < 9223372036854775808 := by omega
      clear h1 h
      go_enter Try.func25, Try.ntmps25
      go_wp2
      go_ret2
      exact ⟨rfl, rfl⟩
  · by_cases h1 : n ≤ 9223372036854775808
    · rw [Dig.sgn_t n h1]
      go_enter Try.func25, Try.ntmps25
      go_wp2
      go_ret2
      exact ⟨ret_2 (int_k (by rw [IntKind.wrap_u64]; unfold wrap64; omega)) rfl, rfl⟩
    · rw [Dig.sgn_tn n h1]
      go_enter Try.func25, Try.ntmps25
      go_wp2
      go_ret2
      exact ⟨rfl, rfl⟩

theorem d_length (n : Nat) (h : n < 18446744073709551616) (w : World) :
    Calls Try.prog 32 #[.int .u64 n] w fun e w' => e = .returned (.int .i64 ((Dig.wd n).length : Int)) ∧ w = w' := by
  have hl20 := Dig.wd_length_le n
  go_enter Try.func32, Try.ntmps32
  go_wp2
  go_loop [0, 3] (fun a d => ∃ m k : Nat, m ≤ n ∧ Dig.Same (k + (Dig.wd m).length) ((Dig.wd n).length + 1) ∧ 1 ≤ k ∧ k ≤ 21 ∧ a = .int .u64 m ∧ d = .int .i64 k) (fun a _ => (intOf a).toNat)
  case atStart => exact ⟨n, 1, Nat.le_refl _, by unfold Dig.Same; omega, by omega, by omega, rfl, rfl⟩
  case round =>
    obtain ⟨m, k, hm, hs, hk1, hk2, rfl, rfl⟩ := hrel
    by_cases h1 : m < 10
    · go_wp2
      go_ret
      exact ⟨ret_k (by have := Dig.wd_len_small m h1; unfold Dig.Same at hs; omega), rfl⟩
    · go_wp2
      go_round
      case rel => exact ⟨m / 10, k + 1, by omega, by have := Dig.wd_len_step m (by omega) (by omega); unfold Dig.Same at hs ⊢; omega, by omega, by have := Dig.wd_len_pos m;  unfold Dig.Same at hs; omega, by go_num, by go_num⟩
      case measure => simp [intOf]; omega

theorem Try.info_t5 : (Try.prog.info? 5).map (fun i => (i.zero, i.size, i.bytes)) = some (some (.int .u8 0), 1, 1) := by kernel_rfl

theorem d_Word (n : Nat) (h : n < 18446744073709551616) (w : World) :
    Calls Try.prog 15 #[.int .u64 n] w fun e w' => e = .returned (txt (Dig.wd n)) ∧ Below w.heap.size w w' := by
  have hl20 := Dig.wd_length_le n
  have hl1 := Dig.wd_len_pos n
  obtain ⟨i0, hi, hz0, hz1, hz2⟩ := info_parts Try.info_t5
  go_enter Try.func15, Try.ntmps15
  go_wp2_with fail
  refine (d_length _ h _).mono ?_
  rintro e w' ⟨rfl, rfl⟩
  have hb2 : i0.bytes * (Dig.wd n).length ≤ 281474976710656 := by rw [hz2]; omega
  have hb3 : (Dig.wd n).length ≤ maxLen := by unfold maxLen; omega
  go_wp2_with (at_make; refine wpList_make_full _ rfl _ _ 51 rfl w.heap.size 5 i0 (.int .u8 0) 1 Try.underlying51 hi hz0 hz1 .i64 .i64 _ _ (Dig.wd n).length rfl rfl rfl rfl hb2 hb3 (Nat.le_refl _) ?_; intro w1 hown hgrow)
  have hb : Below w.heap.size w w1 := (Below.refl _ _).grown hgrow (Nat.le_refl _) (fun k hk => by cases hk)
  have hown0 : w1.ownsRow w.heap.size 5 1 (.slice (some ⟨w.heap.size, 0, none⟩) (Dig.wd n).length (Dig.wd n).length) (Dig.wd n).length ((Dig.part (Dig.wd n) 0).map bcell) := by
    rw [Dig.part_zero, List.map_replicate]
    rw [made_one] at hown
    exact hown
  clear hown hgrow
  have HL : Dig.Same (Dig.wd n).length (Dig.wd n).length := rfl
  go_loopw [0, 10] (fun a i wr => ∃ m k : Nat, k ≤ (Dig.wd n).length ∧ m ≤ n ∧ Dig.Same m (n / 10 ^ k) ∧ a = .int .u64 m ∧ i = .int .i64 k ∧ wr.ownsRow w.heap.size 5 1 (.slice (some ⟨w.heap.size, 0, none⟩) (Dig.wd n).length (Dig.wd n).length) (Dig.wd n).length ((Dig.part (Dig.wd n) k).map bcell) ∧ Below w.heap.size w wr) (fun _ i _ => (Dig.wd n).length - (intOf i).toNat)
  case atStart => exact ⟨n, 0, Nat.zero_le _, Nat.le_refl _, by simp [Dig.Same], rfl, rfl, hown0, hb⟩
  case round =>
    obtain ⟨m, k, hk, hm, hs, rfl, rfl, hown, hb⟩ := hrel
    by_cases hlt : k < (Dig.wd n).length
    · have hget := hown.cellAt ((Dig.wd n).length - 1 - k) (by omega)
      have hfz := hown.frozenAt ((Dig.wd n).length - 1 - k)
      obtain ⟨u, hu⟩ : ∃ u, ((Dig.part (Dig.wd n) k).map bcell)[(Dig.wd n).length - 1 - k]? = some u := ⟨_, List.getElem?_eq_getElem (by rw [List.length_map, Dig.part_len]; omega)⟩
      rw [hu] at hget
      clear hu
      have Hown := hid hown
      clear hown hown0
      go_wp2
      refine ⟨⟨m / 10, k + 1, by omega, by omega, ?_, by go_num, by go_num, ?_, hb.setCell (Nat.le_refl _) _⟩, by simp [intOf]; omega⟩
      · unfold Dig.Same at hs ⊢; rw [hs, Nat.div_div_eq_div_mul, ← Nat.pow_succ]
      · have hst := World.ownsRow.stored Hown.out ((Dig.wd n).length - 1 - k) (bcell (Dig.dg m))
        rw [← List.map_set, Dig.part_set _ k hlt _ (by rw [hs]; exact Dig.wd_get k n (by omega) hlt)] at hst
        have e : bcell (Dig.dg m) = Value.int .u8 (48 + (m : Int) % 10) := by unfold bcell; rw [Dig.dg_toNat]; exact int_k (by omega)
        rw [e] at hst
        exact hst.1
    · obtain rfl : k = (Dig.wd n).length := by omega
      rw [Dig.part_all] at hown
      have hconv := run_text (P := Try.prog) wr Try.underlying51 Try.underlying5 Try.underlying9 ⟨w.heap.size, 0, none⟩ (Dig.wd n).length (Dig.wd n).length (Dig.wd n) rfl (hown.cells rfl)
      clear hown hown0
      go_wp2
      go_ret
      exact ⟨rfl, hb⟩

theorem d_Print (n : Int) (h1 : -9223372036854775808 ≤ n) (h2 : n ≤ 9223372036854775807) (w : World) :
    Calls Try.prog 13 #[.int .i64 n] w fun e w' => e = .returned (txt (Dig.wi n)) ∧ Below w.heap.size w w' := by
  unfold Dig.wi
  have hz : (bs (Dig.wd n.natAbs)).size ≤ 20 := by rw [bs_size]; exact Dig.wd_length_le _
  by_cases h : n < 0
  · rw [if_pos h]
    go_enter Try.func13, Try.ntmps13
    go_wp2_with (first | (go_at_call 30; refine (d_sizeOf _ h1 h2 _).mono ?_; rintro e w' ⟨rfl, rfl⟩) | (go_at_call 15; refine (d_Word _ (by omega) _).mono ?_; rintro e w' ⟨rfl, hb⟩))
    go_ret
    exact ⟨ret_s (bs_append [45] _), hb⟩
  · rw [if_neg h]
    go_enter Try.func13, Try.ntmps13
    go_wp2_with (first | (go_at_call 30; refine (d_sizeOf _ h1 h2 _).mono ?_; rintro e w' ⟨rfl, rfl⟩) | (go_at_call 15; refine (d_Word _ (by omega) _).mono ?_; rintro e w' ⟨rfl, hb⟩))
    go_ret
    exact ⟨rfl, hb⟩

theorem isD_iff (c : UInt8) : Dig.isD c = true ↔ 48 ≤ (c.toNat : Int) ∧ (c.toNat : Int) ≤ 57 := by
  unfold Dig.isD; rw [decide_eq_true_iff]; omega

theorem d_formed (s : ByteArray) (hs : s.size ≤ maxLen) (w : World) :
    Calls Try.prog 26 #[.string s] w fun e w' => e = .returned (.bool (Dig.formed s.data.toList)) ∧ w = w' := by
  unfold maxLen at hs
  have hlen := data_len s
  have hiff := Dig.formed_iff s.data.toList
  by_cases h0 : s.size = 0
  · have hf : Dig.formed s.data.toList = false := by
      rw [Bool.eq_false_iff]; intro h; have := hiff.1 h; omega
    have e1 : s.toList = [] := (empty_of s).2 h0
    rw [hf]
    clear hiff hlen
    go_enter Try.func26, Try.ntmps26
    go_wp2
    go_ret
    exact ⟨rfl, rfl⟩
  · have hp : 0 < s.size := by omega
    have e1 : ¬ s.toList = [] := fun e => h0 ((empty_of s).1 e)
    have e2 : s.toList.isEmpty = false := by rw [isEmpty_of]; exact decide_eq_false h0
    have hhead : s.data.toList.head? = some s[0] := by
      rw [← data_get s 0 hp]; exact List.head?_eq_getElem? .. ▸ (List.getElem?_eq_getElem _)
    have Hhead := hid hhead
    have Hlen := hid hlen
    have Hiff := hid hiff
    clear hhead hlen hiff
    by_cases h48 : (s[0].toNat : Int) = 48 ∧ 1 < s.size
    · obtain ⟨g1, g2⟩ := h48
      have hf : Dig.formed s.data.toList = false := by
        rw [Bool.eq_false_iff]; intro h
        obtain ⟨_, h | ⟨_, h⟩⟩ := Hiff.out.1 h
        · have := Hlen.out; omega
        · apply h; rw [Hhead.out, (Dig.toNat_48 s[0]).2 (by omega)]
      rw [hf]
      go_enter Try.func26, Try.ntmps26
      go_wp2
      go_ret
      exact ⟨rfl, rfl⟩
    · have key : ¬ (s[0].toNat : Int) = 48 ∨ ((s[0].toNat : Int) = 48 ∧ s.size ≤ 1) := by omega
      clear h48
      have hshape : s.data.toList.length = 1 ∨ (1 < s.data.toList.length ∧ s.data.toList.head? ≠ some 48) := by
        have := Hlen.out
        by_cases h1 : s.size = 1
        · left; omega
        · right
          refine ⟨by omega, ?_⟩
          rw [Hhead.out]
          intro e
          have e : s[0] = 48 := by simpa using e
          have := (Dig.toNat_48 _).1 e
          omega
      have Hshape := hid hshape
      clear hshape
      have hz : Hid (Dig.formed s.data.toList = s.data.toList.all Dig.isD) := by
        show Dig.formed _ = _
        rw [Bool.eq_iff_iff, Hiff.out]
        exact ⟨fun h => h.1, fun h => ⟨h, Hshape.out⟩⟩
      clear Hiff Hhead
      rcases key with g | ⟨g, g2⟩
      all_goals
        go_enter Try.func26, Try.ntmps26
        go_wp2
        go_loop [3, 18] (fun _ i => ∃ k : Nat, k ≤ s.size ∧ i = .int .i64 k ∧ Hid ((s.data.toList.take k).all Dig.isD = true)) (fun _ i => s.size - (intOf i).toNat)
        case atStart => exact ⟨0, Nat.zero_le _, rfl, rfl⟩
        case round =>
          obtain ⟨k, hk, rfl, hall⟩ := hrel
          by_cases hlt : k < s.size
          · have hst : Hid ((s.data.toList.take (k + 1)).all Dig.isD = ((s.data.toList.take k).all Dig.isD && Dig.isD s[k])) := by
              show List.all _ _ = _
              rw [Dig.take_snoc _ _ (by rw [Hlen.out]; exact hlt), List.all_append, data_get s k hlt]; simp
            have hno : Hid (¬ (48 ≤ (s[k].toNat : Int) ∧ (s[k].toNat : Int) ≤ 57) → Dig.formed s.data.toList = false) := by
              intro h
              rw [hz.out, Bool.eq_false_iff]
              intro e
              have := List.all_eq_true.1 e s[k] (by rw [← data_get s k hlt]; exact List.getElem_mem _)
              exact h ((isD_iff _).1 this)
            by_cases c1 : (s[k].toNat : Int) < 48
            · go_wp2
              go_ret
              exact ⟨ret_b (hno.out (by omega)).symm, rfl⟩
            · by_cases c2 : (57 : Int) < (s[k].toNat : Int)
              · go_wp2
                go_ret
                exact ⟨ret_b (hno.out (by omega)).symm, rfl⟩
              · go_wp2
                go_round
                case rel => exact ⟨k + 1, by omega, by go_num, by show List.all _ _ = _; rw [hst.out, hall.out, (isD_iff _).2 (by omega)]; rfl⟩
                case measure => simp [intOf]; omega
          · go_wp2
            go_ret
            refine ⟨ret_b ?_, rfl⟩
            rw [hz.out, ← hall.out, List.take_of_length_le (by rw [Hlen.out]; omega)]

end Go.Proofs.Ytaiohmodhngpbaa
