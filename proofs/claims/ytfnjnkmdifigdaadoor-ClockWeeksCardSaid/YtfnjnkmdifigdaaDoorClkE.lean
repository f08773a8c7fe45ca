/- Contracts of layer 10 (clock): ParseDays. -/
import Derived.Test.YtfnjnkmdifigdaaDoorIxR
import Derived.Lib.QuoteLoop
namespace Go.Proofs.YtfnjnkmdifigdaaDoor
open Go.RowKit

namespace Clk
theorem pd_fail {s : List UInt8} (h : ∀ e, 1 ≤ e → e < 128 → dt e ≠ s) : pd s = (0, 3) := by
  rcases pd_err s with h1 | h1
  · obtain ⟨b1, b2, b3⟩ := pd_back h1
    exact absurd b1 (h _ b2 b3)
  · exact h1
theorem let_idx : ∀ c : UInt8, (Lib.indexByte letters c = -1 ∧ letters.contains c = false) ∨ ∃ k : Fin 7, Lib.indexByte letters c = (k.val : Int) ∧ letters.getD k.val 0 = c := Wrd.all_bytes (by decide +kernel)
theorem dt_mem : ∀ e, e < 128 → (dt e).all (fun c => letters.contains c) = true := by decide +kernel
theorem dt_or : ∀ d, d < 128 → ∀ k, k < 7 → d / 2 ^ k = 0 → dt (d ||| 2 ^ k) = dt d ++ [letters.getD k 0] ∧ d ||| 2 ^ k < 128 := by decide +kernel
theorem dt_srt : ∀ e, e < 128 → (dt e).Pairwise (fun a b => letters.idxOf a < letters.idxOf b) := by decide +kernel
theorem dt_any : ∀ d, d < 128 → ∀ k, k < 7 → d / 2 ^ k ≠ 0 → (dt d).any (fun c => decide (k ≤ letters.idxOf c)) = true := by decide +kernel
theorem let_ix : ∀ k, k < 7 → letters.idxOf (letters.getD k 0) = k := by decide +kernel
/-- no letter of a day may stand behind one that is as late -/
theorem dt_bad {d k e : Nat} {r : List UInt8} (hd : d < 128) (hk : k < 7) (he : e < 128) (h : d / 2 ^ k ≠ 0) : dt e ≠ dt d ++ letters.getD k 0 :: r := fun heq => by
  have hs := dt_srt e he
  rw [heq] at hs
  obtain ⟨c, hc, hck⟩ := List.any_eq_true.1 (dt_any d hd k hk h)
  have := (List.pairwise_append.1 hs).2.2 c hc (letters.getD k 0) (List.mem_cons_self ..)
  rw [let_ix k hk] at this
  have := of_decide_eq_true hck
  omega
theorem dt_not {e : Nat} {l r : List UInt8} {c : UInt8} (he : e < 128) (hc : letters.contains c = false) : dt e ≠ l ++ c :: r := fun heq => by
  have := List.all_eq_true.1 (dt_mem e he) c (by rw [heq]; simp)
  rw [hc] at this
  cases this
end Clk
theorem split_at (s : ByteArray) (k : Nat) (hk : k < s.size) : s.data.toList = s.data.toList.take k ++ s[k] :: s.data.toList.drop (k + 1) := by
  have h : k < s.data.toList.length := by rw [data_len]; exact hk
  rw [← data_get s k hk, ← List.drop_eq_getElem_cons h, List.take_append_drop]
set_option maxRecDepth 1000000 in
set_option maxHeartbeats 1000000 in
theorem p_ParseDays (s : ByteArray) (w : World) : Calls Tryd.prog 20 #[.string s] w (Did (pdV s.data.toList) w) := by
  have HC := hid (split_at s)
  have HI := hid (show ∀ (r : Int) (_ : 0 ≤ r) (_ : r < 128) w, Calls Tryd.prog 42 #[.string ⟨#[109, 116, 119, 104, 102, 115, 117]⟩, .int .i32 r] w (fun e w' => e = .returned (.int .i64 (Lib.indexByte Clk.letters r.toNat.toUInt8)) ∧ w' = w) from fun r h0 h1 w => Tryd.strings_IndexRune_ascii ⟨#[109, 116, 119, 104, 102, 115, 117]⟩ r w h0 h1)
  have HX := hid (p_ixr ⟨#[109, 116, 119, 104, 102, 115, 117]⟩ (by decide) (by decide) (by decide))
  have Hlen := hid (data_len s)
  have Hbad := hid (show (∀ e, 1 ≤ e → e < 128 → Clk.dt e ≠ s.data.toList) → pdV s.data.toList = .tuple #[.int .u8 0, .int .i64 3] from fun h => by unfold pdV; rw [Clk.pd_fail h]; rfl)
  go_enter Tryd.func20, Tryd.ntmps20
  go_wp2_with fail
  go_loopw [4] (fun dv wr => ∃ (k d : Nat), k ≤ s.size ∧ dv = .int .u8 (d : Int) ∧ d < 128 ∧ Hid (Clk.dt d = s.data.toList.take k) ∧ wr.heap[w.heap.size]? = some (.stringIter s k) ∧ Below w.heap.size w wr) (fun _ wr => s.size - wr.iterPos w.heap.size)
  case atStart => exact ⟨0, 0, Nat.zero_le _, rfl, by omega, rfl, World.iter_heap w s 0, (Below.refl _ w).alloc (Nat.le_refl _) _⟩
  case round =>
    obtain ⟨k, d, hk, rfl, hd, Hdt, hit, hbw⟩ := hrel
    by_cases hp : k < s.size
    · have Hsp := hid (HC.out k hp)
      have hp0 := iter_pos hit
      have hdle := decode_le s k
      by_cases hlow : (s[k]).toNat < 128
      · have hnx : ∀ ty, (Instr.next (.pointer (some ⟨w.heap.size, 0, none⟩)) true ty).run Tryd.prog wr = .ok (.tuple #[.bool true, .int .i64 k, .int .i32 (s[k].toNat : Int)]) (wr.iterAt w.heap.size s (k + 1)) := fun ty => Lib.run_next_ascii_at (P := Tryd.prog) wr w.heap.size s k ty hit hp hlow
        have hit2 := Lib.iterAt_heap wr w.heap.size s k (k + 1) hit
        have hbw2 := Lib.below_iterAt hbw (k := w.heap.size) (Nat.le_refl _) s (k + 1)
        have HI1 := hid (fun w => HI.out (s[k].toNat : Int) (by omega) (by omega) w)
        rw [show ((s[k].toNat : Int)).toNat.toUInt8 = s[k] by rw [Int.toNat_natCast]; exact UInt8.ofNat_toNat] at HI1
        have Hix := hid (Clk.let_idx s[k])
        have Hst := hid (show s.data.toList.take (k + 1) = s.data.toList.take k ++ [s[k]] by rw [Dig.take_snoc _ _ (by rw [Hlen.out]; exact hp), data_get s k hp])
        generalize (wr.iterAt w.heap.size s (k + 1)) = W1 at *
        generalize s[k] = c at *
        clear HI HX HC hit
        rcases Hix.out with ⟨x1, x2⟩ | ⟨⟨j, hj⟩, x1, x2⟩
        · have HI2 := hid (show ∀ w, Calls Tryd.prog 42 #[.string ⟨#[109, 116, 119, 104, 102, 115, 117]⟩, .int .i32 (c.toNat : Int)] w (fun e w' => e = .returned (.int .i64 (-1)) ∧ w' = w) from fun w => by have := HI1.out w; rw [x1] at this; exact this)
          have Hr := hid (Hbad.out fun e _ h2 => by rw [Hsp.out]; exact Clk.dt_not h2 x2)
          clear HI1 Hbad Hsp Hix x1 x2
          go_wp2_with fail
          refine (HI2.out _).mono ?_
          rintro e w' ⟨rfl, rfl⟩
          go_wp2_with fail
          go_ret2
          exact Did.mk Hr.out.symm hbw2
        · simp only at x1 x2
          have HI2 := hid (show ∀ w, Calls Tryd.prog 42 #[.string ⟨#[109, 116, 119, 104, 102, 115, 117]⟩, .int .i32 (c.toNat : Int)] w (fun e w' => e = .returned (.int .i64 (j : Int)) ∧ w' = w) from fun w => by have := HI1.out w; rw [x1] at this; exact this)
          have hdv : ((d : Int) / 2 ^ j) = ((d / 2 ^ j : Nat) : Int) := by rw [Int.natCast_ediv, Int.natCast_pow]; rfl
          by_cases hq : d / 2 ^ j = 0
          · obtain ⟨o1, o2⟩ := Clk.dt_or d hd j hj hq
            have t1 : ((d : Int) / 2 ^ j != 0) = false := by rw [hdv, hq]; rfl
            have hor : bits .or .u8 (d : Int) (2 ^ j % 256) = ((d ||| 2 ^ j : Nat) : Int) := by
              have hj2 : 2 ^ j ≤ 2 ^ 6 := Nat.pow_le_pow_right (by decide) (by omega)
              rw [show (2 : Int) ^ j = ((2 ^ j : Nat) : Int) by rw [Int.natCast_pow]; rfl]
              generalize 2 ^ j = x at *
              rw [show (x : Int) % 256 = (x : Int) by omega]
              exact o_or8 d x (by omega) (by omega)
            have Ho := hid (show Clk.dt (d ||| 2 ^ j) = s.data.toList.take (k + 1) by rw [o1, Hdt.out, Hst.out, x2])
            generalize d ||| 2 ^ j = d2 at *
            clear HI1 Hbad Hsp Hix x1 x2 o1 hdv
            go_wp2_with fail
            refine (HI2.out _).mono ?_
            rintro e w' ⟨rfl, rfl⟩
            go_wp2_with fail
            exact ⟨⟨k + 1, d2, by omega, rfl, o2, Ho, hit2, hbw2⟩, by rw [iter_pos hit2, hp0]; omega⟩
          · have t1 : ((d : Int) / 2 ^ j != 0) = true := by rw [hdv, bne_iff_ne]; omega
            have Hr := hid (Hbad.out fun e _ h2 => by rw [Hsp.out, ← Hdt.out, ← x2]; exact Clk.dt_bad hd hj h2 hq)
            clear HI1 Hbad Hsp Hix x1 x2 hdv hq
            go_wp2_with fail
            refine (HI2.out _).mono ?_
            rintro e w' ⟨rfl, rfl⟩
            go_wp2_with fail
            go_ret2
            exact Did.mk Hr.out.symm hbw2
      · obtain ⟨dh1, dh2⟩ := decode_high s k hp (by omega)
        have hnx : ∀ ty, (Instr.next (.pointer (some ⟨w.heap.size, 0, none⟩)) true ty).run Tryd.prog wr = .ok (.tuple #[.bool true, .int .i64 k, .int .i32 ((Utf8.decode s k).1 : Int)]) (wr.iterAt w.heap.size s (k + (Utf8.decode s k).2)) := fun ty => Lib.run_next_any_at (P := Tryd.prog) wr w.heap.size s k ty hit hp
        have hbw2 := Lib.below_iterAt hbw (k := w.heap.size) (Nat.le_refl _) s (k + (Utf8.decode s k).2)
        have hval : Lib.validRune ((Utf8.decode s k).1 : Int) = true := by
          have h := Lib.decodeN_valid (s.size - k) (s.get! k).toNat (s.get! (k + 1)).toNat (s.get! (k + 2)).toNat (s.get! (k + 3)).toNat (UInt8.toNat_lt _)
          rw [← Lib.decode_at] at h
          simp only [Lib.validRune, decide_eq_true_eq]
          omega
        have Hr := hid (Hbad.out fun e _ h2 => by
          rw [Hsp.out]
          refine Clk.dt_not h2 ?_
          rw [Bool.eq_false_iff]
          intro hm
          have : ∀ c ∈ Clk.letters, c.toNat < 128 := by decide
          exact hlow (this _ (List.contains_iff_mem.1 hm)))
        have HX1 := hid (fun w => HX.out ((Utf8.decode s k).1 : Int) (by omega) hval w)
        generalize (wr.iterAt w.heap.size s (k + (Utf8.decode s k).2)) = W1 at *
        generalize (Utf8.decode s k).1 = r at *
        clear HI HX HC hit Hbad Hsp hlow hval
        go_wp2_with fail
        refine (HX1.out _).mono ?_
        rintro e w' ⟨rfl, b1⟩
        go_wp2_with fail
        go_ret2
        exact Did.mk Hr.out.symm (hbw2.trans (b1.mono hbw2.size))
    · obtain rfl : k = s.size := by omega
      have hnx : ∀ ty, (Instr.next (.pointer (some ⟨w.heap.size, 0, none⟩)) true ty).run Tryd.prog wr = .ok (.tuple #[.bool false]) wr := fun ty => Lib.run_next_end_at (P := Tryd.prog) wr w.heap.size s s.size ty hit (by omega)
      have Hall := hid (show Clk.dt d = s.data.toList by rw [Hdt.out, List.take_of_length_le (by rw [Hlen.out]; omega)])
      by_cases h0 : d = 0
      · have Hr := hid (Hbad.out fun e h1 h2 h3 => by
          have := Clk.dt_inj e h2 d hd (h3.trans Hall.out.symm)
          omega)
        subst h0
        clear Hbad HC HI HX
        go_wp2_with fail
        go_ret2
        exact Did.mk Hr.out.symm hbw
      · have Hr := hid (show pdV s.data.toList = .tuple #[.int .u8 (d : Int), .int .i64 0] by unfold pdV; rw [← Hall.out, Clk.pd_dt (by omega) hd]; rfl)
        have t1 : ((d : Int) == 0) = false := by rw [beq_eq_false_iff_ne]; omega
        clear Hbad HC HI HX
        go_wp2_with fail
        go_ret2
        exact Did.mk Hr.out.symm hbw
end Go.Proofs.YtfnjnkmdifigdaaDoor
