/- Contracts of layer 4 (sum): Seal, Open. -/
import Derived.Test.YtonlcndljnfhgaaSumN
namespace Go.Proofs.Ytonlcndljnfhgaa
open Go.RowKit

theorem p_Equal (A A' : Option Addr) (n n' c c' : Nat) (a b : List UInt8) (hn : a.length = n) (hn' : b.length = n') (B B' : Nat) (w : World) (h : Byt w B A a) (h' : Byt w B' A' b) :
    Calls Try.prog 25 #[.slice A n c, .slice A' n' c'] w (BoolRet (decide (a = b)) w) := by
  have hc1 := run_text_rd (P := Try.prog) w Try.underlying22 Try.underlying5 Try.underlying9 (c := c) _ hn h
  have hc2 := run_text_rd (P := Try.prog) w Try.underlying22 Try.underlying5 Try.underlying9 (c := c') _ hn' h'
  clear h h' hn hn'
  go_enter Try.func25, Try.ntmps25
  go_wp2_with fail
  go_ret
  refine BoolRet.mk ?_ _
  rw [Bool.eq_iff_iff]
  simp only [list_of, bs_data, beq_iff_eq, decide_eq_true_iff]

theorem byte_shr (C j : Nat) : ((C : Int) / 2 ^ (8 * j) % 256) = ((UInt8.ofNat (C / 256 ^ j % 256)).toNat : Int) := by
  have e : (2 : Int) ^ (8 * j) = ((256 ^ j : Nat) : Int) := by
    rw [Int.pow_mul, Int.natCast_pow]
    rfl
  rw [toNat_of _ (Nat.mod_lt _ (by decide)), e, Int.natCast_emod, Int.natCast_ediv]
  rfl
set_option maxHeartbeats 1000000 in
theorem p_Seal (A : Option Addr) (n c : Nat) (b : List UInt8) (hn : b.length = n) (_hc : n ≤ c) (hm : n ≤ 1000000) (w : World) (B : Nat) (hB : B ≤ w.heap.size) (h : Byt w B A b) :
    Calls Try.prog 11 #[.slice A n c] w (BRet (Sum.seal_ b) w) := by
  have Hc := hid (p_Crc A n c b hn (by omega) B w h)
  unfold IntRet at Hc
  have Hseal := hid (show Sum.seal_ b = b ++ Sum.le4 (Sum.crc b) from rfl)
  have hCl := Sum.crc_lt b
  generalize Sum.crc b = C at *
  obtain ⟨i0, hi, hz0, hz1, hz2⟩ := info_parts Try.info_u8
  have hb2 : i0.bytes * (n + 4) ≤ 281474976710656 := by rw [hz2]; omega
  have hb3 : n + 4 ≤ maxLen := by unfold maxLen; omega
  have H := hid h
  clear h
  go_enter Try.func11, Try.ntmps11
  go_wp2_with fail
  refine (Hc.out).mono ?_
  rintro e w' ⟨rfl, rfl⟩
  have q1 : 0 + n ≤ maxLen := by unfold maxLen; omega
  have q2 : (0 + n) * 1 ≤ 140737488355328 := by omega
  go_wp2_with (first | (at_make; refine wpList_make_own _ rfl _ _ 22 rfl w.heap.size 5 i0 (.int .u8 0) 1 Try.underlying22 hi hz0 hz1 .i64 .i64 _ (n + 4) rfl rfl rfl hb2 hb3 (Nat.le_refl _) ?_; intro w0 hown0 hgrow; have hb0 : Below w.heap.size w w0 := (Below.refl _ _).grown hgrow (Nat.le_refl _) (fun k hk => by cases hk); have S0 := src_byt (P := Try.prog) w0 Try.underlying22 (c := c) hn (H.out.below hb0 hB)) | (at_builtin; refine wpList_append_own_src rfl (.tmp 12) (.tmp 13) 22 22 rfl w.heap.size 5 i0 (.int .u8 0) 1 Try.underlying22 hi hz0 hz1 hz2 rfl w.heap.size 0 _ [] rfl hown0 _ _ _ rfl S0 q1 q2 hb0.size ?_; intro g1 cp1 w1 hown1 hgr1))
  have hb1 : Below w.heap.size w w1 := hb0.grown hgr1 hb0.size (fun k hk => by injection hk with hk; subst hk; exact Nat.le_refl _)
  rw [Nat.zero_add, List.nil_append] at hown1
  clear hown0 S0 hgr1 hgrow hb2 hb3
  go_wp2_with fail
  go_loopw [4, 15] (fun ov iv wr => ∃ (j g cp : Nat), ov = .slice (some ⟨g, 0, none⟩) (n + j) cp ∧ iv = .int .i64 j ∧ j ≤ 4 ∧ wr.ownsRow w.heap.size 5 1 (.slice (some ⟨g, 0, none⟩) (n + j) cp) (n + j) ((b ++ (Sum.le4 C).take j).map bcell) ∧ Below w.heap.size w wr) (fun _ iv _ => 4 - (intOf iv).toNat)
  case atStart => exact ⟨0, g1, cp1, by first | rfl | simp, rfl, by omega, by rw [List.take_zero, List.append_nil]; exact hown1, hb1⟩
  case round =>
    clear hown1 hb1
    obtain ⟨j, g, cp, rfl, rfl, hj, hown, hb⟩ := hrel
    have hbs := hb.size
    by_cases hj4 : j < 4
    · have Hnext := hid (le4_take C j hj4)
      have hn3 : n + j + 1 ≤ maxLen := by unfold maxLen; omega
      have hn4 : (n + j + 1) * 1 ≤ 140737488355328 := by omega
      have Hx := hid (byte_shr C j)
      go_wp2_with (at_builtin; refine wpList_append_own _ rfl (.tmp 18) (.tmp 24) 22 rfl w.heap.size 5 i0 (.int .u8 0) 1 1 Try.underlying22 hi hz0 hz1 hz2 rfl (by decide) _ _ _ rfl (hown.alloc _) ⟨wr.heap.size, 0, none⟩ 1 1 [.int .u8 _] rfl rfl (lit_one _ _ _) (int_one _ _) hn3 hn4 (le_alloc (w := wr) hbs _) ?_; intro v1 w2 hown2 hgrow _)
      obtain ⟨g2, cp2, hv2⟩ : ∃ g2 cp2, v1 = .slice (some ⟨g2, 0, none⟩) (n + j + 1) cp2 := by
        rcases hown2.2 with ⟨_, h0⟩ | ⟨g2, cp2, _, hv2, _⟩
        · omega
        · exact ⟨g2, cp2, hv2⟩
      subst hv2
      refine ⟨⟨j + 1, g2, cp2, rfl, by go_num, by omega, ?_, ?_⟩, by simp [intOf]; omega⟩
      · rw [Hnext.out, ← List.append_assoc, List.map_append]
        rw [Hx.out] at hown2
        exact hown2
      · exact (hb.alloc hbs _).grown hgrow (le_alloc (w := wr) hbs _) (fun k hk => (hown.lt k hk).1)
    · obtain rfl : j = 4 := by omega
      rw [List.take_of_length_le (by rw [Sum.le4_len]; omega)] at hown
      go_wp2_with fail
      go_ret
      exact BRet.fo (.inl hown) (by rw [Hseal.out]) (by rw [Hseal.out, List.length_append, hn, Sum.le4_len]) hb

set_option maxHeartbeats 1000000 in
theorem p_Open (A : Option Addr) (n c : Nat) (b : List UInt8) (hn : b.length = n) (hc : n ≤ c) (hm : n ≤ 1000000) (w : World) (B : Nat) (hB : B ≤ w.heap.size) (h : Byt w B A b) :
    Calls Try.prog 10 #[.slice A n c] w (OpRet b w) := by
  have Hop := hid (show Sum.open_ b = if b.length < 4 then ([], 4) else if Sum.seal_ (b.take (b.length - 4)) = b then (b.take (b.length - 4), 0) else ([], 27) from rfl)
  subst hn
  by_cases h4 : b.length < 4
  · rw [if_pos h4] at Hop
    have h4' : (b.length : Int) < 4 := by omega
    go_enter Try.func10, Try.ntmps10
    go_wp2_with fail
    go_ret2
    exact OpRet.no Hop.out rfl (Below.refl _ _)
  rw [if_neg h4] at Hop
  have h4' : ¬ (b.length : Int) < 4 := by omega
  obtain ⟨m, hm4⟩ : ∃ m, b.length = m + 4 := ⟨b.length - 4, by omega⟩
  rw [hm4, Nat.add_sub_cancel] at Hop
  obtain ⟨ad, _, rfl, _, _, _⟩ := Byt.get h (k := 0) (by omega)
  have hil : (b.take m).length = m := by rw [List.length_take]; omega
  have hcl : ∀ j u, ((b.take m).map bcell)[j]? = some u → w.cell? (ad.add j) = some u := by
    intro j u hj
    obtain ⟨ad', e, _, hc'⟩ := h (by intro e; rw [List.map_eq_nil_iff] at e; rw [e] at h4; simp at h4)
    injection e with e
    subst e
    refine hc' j u ?_
    rw [List.map_take, List.getElem?_take] at hj
    split at hj
    · exact hj
    · cases hj
  have hown0 : w.ownsRow w.heap.size 5 1 (.slice none 0 0) 0 [] := ⟨rfl, .inl ⟨rfl, rfl⟩⟩
  have q1 : 0 + m ≤ maxLen := by unfold maxLen; omega
  have q2 : (0 + m) * 1 ≤ 140737488355328 := by omega
  have q3 : (0 : Int) ≤ (m : Int) := by omega
  have q4 : (m : Int) ≤ c := by omega
  have q5 : ((m + 4 : Nat) : Int) - 4 = (m : Int) := by omega
  have q6 : ((b.take m).map bcell).length = m * 1 := by rw [List.length_map, hil, Nat.mul_one]
  have q7 : ∀ u ∈ (b.take m).map bcell, u.oneCell' = true := by
    intro u hu
    obtain ⟨_, _, rfl⟩ := List.mem_map.1 hu
    rfl
  have Hs := hid (fun (A' : Option Addr) (c' : Nat) (hc' : m ≤ c') (w' : World) (h' : Byt w' w'.heap.size A' (b.take m)) => p_Seal A' m c' (b.take m) hil hc' (by omega) w' _ (Nat.le_refl _) h')
  unfold BRet at Hs
  have He := hid (fun (A' : Option Addr) (n' c' : Nat) (l : List UInt8) (hl : l.length = n') (B' : Nat) (w' : World) (h' : Byt w' B' A' l) (hb : Below w.heap.size w w') => p_Equal A' (some ad) n' (m + 4) c' c l b hl hm4 B' B w' h' (h.below hb hB))
  unfold BoolRet at He
  obtain ⟨i0, hi, hz0, hz1, hz2⟩ := info_parts Try.info_u8
  rw [hm4]
  rw [hm4] at h4' hc
  clear h4 hm4 h
  generalize b.take m = inner at *
  go_enter Try.func10, Try.ntmps10
  go_wp2_with (at_builtin; refine wpList_append_own _ rfl _ (.tmp 12) 22 rfl w.heap.size 5 i0 (.int .u8 0) 1 1 Try.underlying22 hi hz0 hz1 hz2 rfl (by decide) (.slice none 0 0) 0 [] rfl hown0 ad m c (inner.map bcell) rfl q6 hcl q7 q1 q2 (Nat.le_refl _) ?_; intro v1 w1 hown1 hgr1 _)
  have hb1 : Below w.heap.size w w1 := (Below.refl _ _).grown hgr1 (Nat.le_refl _) (fun k hk => by cases hk)
  rw [Nat.zero_add, List.nil_append] at hown1
  clear hgr1 hown0 hcl
  obtain ⟨A1, c1, rfl, hr1, hc1⟩ := own_rd hown1
  refine (Hs.out A1 c1 hc1 _ hr1).mono ?_
  rintro e w2 ⟨A2, c2, rfl, hr2, _, b2⟩
  have hb2 : Below w.heap.size w w2 := below2 hb1 b2
  go_wp2_with fail
  refine (He.out _ _ _ _ rfl _ _ hr2 hb2).mono ?_
  rintro e w3 ⟨rfl, rfl⟩
  by_cases heq : Sum.seal_ inner = b
  · rw [if_pos heq] at Hop
    rw [decide_eq_true heq]
    go_wp2_with fail
    go_ret2
    exact OpRet.yes Hop.out rfl (own_below hown1 b2) hil.symm rfl hb2
  · rw [if_neg heq] at Hop
    rw [decide_eq_false heq]
    go_wp2_with fail
    go_ret2
    exact OpRet.no Hop.out rfl hb2
end Go.Proofs.Ytonlcndljnfhgaa
