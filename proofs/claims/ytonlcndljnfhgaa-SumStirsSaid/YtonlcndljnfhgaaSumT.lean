/- Contracts of the document's own answer for layer 4: Seal, Open. -/
import Derived.Test.YtonlcndljnfhgaaSumS
namespace Go.Proofs.Ytonlcndljnfhgaa
open Go.RowKit

theorem le4_take (n j : Nat) (hj : j < 4) : (Sum.le4 n).take (j + 1) = (Sum.le4 n).take j ++ [UInt8.ofNat (n / 256 ^ j % 256)] := by
  have : j = 0 ∨ j = 1 ∨ j = 2 ∨ j = 3 := by omega
  rcases this with rfl | rfl | rfl | rfl
  · rw [Nat.pow_zero, Nat.div_one]; rfl
  · rfl
  · rfl
  · rfl

set_option maxHeartbeats 1000000 in
theorem r_Seal (A : Option Addr) (n c : Nat) (b : List UInt8) (hn : b.length = n) (hm : n ≤ 1000000) (w : World) (B : Nat) (hB : B ≤ w.heap.size) (h : Byt w B A b) :
    Calls Try.prog 20 #[.slice A n c] w (BRet (Sum.seal_ b) w) := by
  have hb0 : Below w.heap.size w (w.alloc (.cells #[] 5)) := below_alloc w _
  have hown0 := World.ownsRow_lit (base := w.heap.size) (e := 5) (size := 1) w #[] 0 (Nat.le_refl _) (Nat.zero_le _) rfl
  have S0 := src_byt (P := Try.prog) (w.alloc (.cells #[] 5)) Try.underlying22 (c := c) hn (h.below hb0 hB)
  have q1 : 0 + n ≤ maxLen := by unfold maxLen; omega
  have q2 : (0 + n) * 1 ≤ 140737488355328 := by omega
  have Hc := hid (fun (w' : World) (hb : Below w.heap.size w w') => r_Crc A n c b hn (by omega) B w' (h.below hb hB))
  unfold IntRet at Hc
  have Hseal := hid (show Sum.seal_ b = b ++ Sum.le4 (Sum.crc b) from rfl)
  have hCl := Sum.crc_lt b
  generalize Sum.crc b = C at *
  obtain ⟨i0, hi, hz0, hz1, hz2⟩ := info_parts Try.info_u8
  clear h
  go_enter Try.func20, Try.ntmps20
  go_wp2_with (at_builtin; refine wpList_append_own_src rfl (.tmp 6) (.tmp 7) 22 22 rfl w.heap.size 5 i0 (.int .u8 0) 1 Try.underlying22 hi hz0 hz1 hz2 rfl w.heap.size 0 0 [] rfl hown0 _ _ _ rfl S0 q1 q2 hb0.size ?_; intro g1 cp1 w1 hown1 hgr1)
  have hb1 : Below w.heap.size w w1 := hb0.grown hgr1 hb0.size (fun k hk => by injection hk with hk; subst hk; exact Nat.le_refl _)
  rw [Nat.zero_add, List.nil_append] at hown1
  clear hown0 S0 hgr1
  go_wp2_with fail
  refine (Hc.out _ hb1).mono ?_
  rintro e w' ⟨rfl, rfl⟩
  go_wp2_with fail
  go_loopw [3, 4, 5] (fun ov cv iv wr => ∃ (j g cp : Nat), ov = .slice (some ⟨g, 0, none⟩) (n + j) cp ∧ cv = .int .u32 (C / 256 ^ j : Nat) ∧ iv = .int .i64 j ∧ j ≤ 4 ∧ wr.ownsRow w.heap.size 5 1 (.slice (some ⟨g, 0, none⟩) (n + j) cp) (n + j) ((b ++ (Sum.le4 C).take j).map bcell) ∧ Below w.heap.size w wr) (fun _ _ iv _ => 4 - (intOf iv).toNat)
  case atStart => exact ⟨0, g1, cp1, by first | rfl | simp, by rw [Nat.pow_zero, Nat.div_one], rfl, by omega, by rw [List.take_zero, List.append_nil]; exact hown1, hb1⟩
  case round =>
    clear hown1 hb1
    obtain ⟨j, g, cp, rfl, rfl, rfl, hj, hown, hb⟩ := hrel
    have hbs := hb.size
    by_cases hj4 : j < 4
    · have Hnext := hid (le4_take C j hj4)
      have Hdiv := hid (show C / 256 ^ (j + 1) = C / 256 ^ j / 256 by rw [Nat.pow_succ, Nat.div_div_eq_div_mul])
      have hvl : C / 256 ^ j < 4294967296 := Nat.lt_of_le_of_lt (Nat.div_le_self _ _) hCl
      obtain ⟨v, hv⟩ : ∃ v, C / 256 ^ j = v := ⟨_, rfl⟩
      rw [hv] at Hnext Hdiv hvl
      rw [hv]
      have Hx := hid (show ((v : Int) % 256) = ((UInt8.ofNat (v % 256)).toNat : Int) by rw [toNat_of _ (by omega)]; omega)
      have hn3 : n + j + 1 ≤ maxLen := by unfold maxLen; omega
      have hn4 : (n + j + 1) * 1 ≤ 140737488355328 := by omega
      go_wp2_with (at_builtin; refine wpList_append_own _ rfl (.tmp 15) (.tmp 19) 22 rfl w.heap.size 5 i0 (.int .u8 0) 1 1 Try.underlying22 hi hz0 hz1 hz2 rfl (by decide) _ _ _ rfl (hown.alloc _) ⟨wr.heap.size, 0, none⟩ 1 1 [.int .u8 _] rfl rfl (lit_one _ _ _) (int_one _ _) hn3 hn4 (le_alloc (w := wr) hbs _) ?_; intro v1 w2 hown2 hgrow _)
      obtain ⟨g2, cp2, hv2⟩ : ∃ g2 cp2, v1 = .slice (some ⟨g2, 0, none⟩) (n + j + 1) cp2 := by
        rcases hown2.2 with ⟨_, h0⟩ | ⟨g2, cp2, _, hv2, _⟩
        · omega
        · exact ⟨g2, cp2, hv2⟩
      subst hv2
      refine ⟨⟨j + 1, g2, cp2, rfl, by rw [Hdiv.out]; rfl, by go_num, by omega, ?_, ?_⟩, by simp [intOf]; omega⟩
      · rw [Hnext.out, ← List.append_assoc, List.map_append]
        rw [Hx.out] at hown2
        exact hown2
      · exact (hb.alloc hbs _).grown hgrow (le_alloc (w := wr) hbs _) (fun k hk => (hown.lt k hk).1)
    · obtain rfl : j = 4 := by omega
      rw [List.take_of_length_le (by rw [Sum.le4_len]; omega)] at hown
      go_wp2_with fail
      go_ret
      exact BRet.fo (.inl hown) (by rw [Hseal.out]) (by rw [Hseal.out, List.length_append, hn, Sum.le4_len]) hb

def OpRet (b : List UInt8) (w : World) (e : Ending) (w' : World) : Prop := ∃ A c, e = .returned (.tuple #[.slice A (Sum.open_ b).1.length c, .int .i64 (Sum.open_ b).2]) ∧ Byt w' w'.heap.size A (Sum.open_ b).1 ∧ Below w.heap.size w w'
theorem OpRet.no {b : List UInt8} {x y : Int} {w w' : World} (h : Sum.open_ b = ([], x)) (hx : y = x) (hb : Below w.heap.size w w') : OpRet b w (.returned (.tuple #[.slice none 0 0, .int .i64 y])) w' := by
  unfold OpRet; rw [h, hx]; exact ⟨none, 0, rfl, Rd.none_ _ _ _, hb⟩
theorem OpRet.yes {b l : List UInt8} {y : Int} {w w' : World} {base : Nat} {e : TypeId} {v : Value} {n : Nat} {xs : List Value} (h : Sum.open_ b = (l, 0)) (hy : y = 0) (ho : w'.ownsRow base e 1 v n xs) (hn : n = l.length) (hx : xs = l.map bcell) (hb : Below w.heap.size w w') : OpRet b w (.returned (.tuple #[v, .int .i64 y])) w' := by
  unfold OpRet; rw [h, hy]
  subst hx; subst hn
  obtain ⟨A, c, rfl, hr, _⟩ := own_rd ho
  exact ⟨A, c, rfl, hr, hb⟩

set_option maxHeartbeats 1000000 in
theorem r_Open (A : Option Addr) (n c : Nat) (b : List UInt8) (hn : b.length = n) (hc : n ≤ c) (hm : n ≤ 1000000) (w : World) (B : Nat) (hB : B ≤ w.heap.size) (h : Byt w B A b) :
    Calls Try.prog 19 #[.slice A n c] w (OpRet b w) := by
  have Hop := hid (show Sum.open_ b = if b.length < 4 then ([], 4) else if Sum.seal_ (b.take (b.length - 4)) = b then (b.take (b.length - 4), 0) else ([], 27) from rfl)
  subst hn
  by_cases h4 : b.length < 4
  · rw [if_pos h4] at Hop
    have h4' : (b.length : Int) < 4 := by omega
    go_enter Try.func19, Try.ntmps19
    go_wp2_with fail
    go_ret2
    exact OpRet.no Hop.out rfl (Below.refl _ _)
  rw [if_neg h4] at Hop
  have h4' : ¬ (b.length : Int) < 4 := by omega
  obtain ⟨m, hm4⟩ : ∃ m, b.length = m + 4 := ⟨b.length - 4, by omega⟩
  rw [hm4, Nat.add_sub_cancel] at Hop
  have hil : (b.take m).length = m := by rw [List.length_take]; omega
  have hb0 : Below w.heap.size w (w.alloc (.cells #[] 5)) := below_alloc w _
  have hown0 := World.ownsRow_lit (base := w.heap.size) (e := 5) (size := 1) w #[] 0 (Nat.le_refl _) (Nat.zero_le _) rfl
  have S0 := src_byt (P := Try.prog) (w.alloc (.cells #[] 5)) Try.underlying22 (c := c) hil (Byt.pre (h.below hb0 hB) m)
  have q1 : 0 + m ≤ maxLen := by unfold maxLen; omega
  have q2 : (0 + m) * 1 ≤ 140737488355328 := by omega
  have q3 : (0 : Int) ≤ (m : Int) := by omega
  have q4 : (m : Int) ≤ c := by omega
  have q5 : ((m + 4 : Nat) : Int) - 4 = (m : Int) := by omega
  have Hcv : Hid (∀ w', Below w.heap.size w w' → (convert 22 9 (.slice A (m + 4) c)).run Try.prog w' = .ok (txt b) w') := fun w' hb => run_text_rd (P := Try.prog) w' Try.underlying22 Try.underlying5 Try.underlying9 b hm4 (h.below hb hB)
  have Hs := hid (fun (A' : Option Addr) (c' : Nat) (w' : World) (h' : Byt w' w'.heap.size A' (b.take m)) => r_Seal A' m c' (b.take m) hil (by omega) w' _ (Nat.le_refl _) h')
  unfold BRet at Hs
  obtain ⟨i0, hi, hz0, hz1, hz2⟩ := info_parts Try.info_u8
  have hcmp : ((bs (Sum.seal_ (b.take m))).toList == (bs b).toList) = decide (Sum.seal_ (b.take m) = b) := by
    rw [Bool.eq_iff_iff]
    simp only [list_of, bs_data, beq_iff_eq, decide_eq_true_iff]
  rw [hm4]
  rw [hm4] at h4' hc
  clear h4 hm4 h
  generalize b.take m = inner at *
  by_cases heq : Sum.seal_ inner = b
  · rw [if_pos heq] at Hop
    rw [decide_eq_true heq] at hcmp
    clear heq
    generalize Sum.seal_ inner = sl at *
    go_enter Try.func19, Try.ntmps19
    go_wp2_with (at_builtin; refine wpList_append_own_src rfl (.tmp 8) (.tmp 13) 22 22 rfl w.heap.size 5 i0 (.int .u8 0) 1 Try.underlying22 hi hz0 hz1 hz2 rfl w.heap.size 0 0 [] rfl hown0 _ _ _ rfl S0 q1 q2 hb0.size ?_; intro g1 cp1 w1 hown1 hgr1)
    have hb1 : Below w.heap.size w w1 := hb0.grown hgr1 hb0.size (fun k hk => by injection hk with hk; subst hk; exact Nat.le_refl _)
    rw [Nat.zero_add, List.nil_append] at hown1
    clear hown0 S0 hgr1
    have Hin := hid (show Byt w1.drew w1.drew.heap.size (some ⟨g1, 0, none⟩) inner from Rd.of_own hown1)
    have hcv1 := Hcv.out _ hb1.drew
    go_region_with (go_at_call 20; refine (Hs.out _ _ _ Hin.out).mono ?_; rintro e w2 ⟨A2, c2, rfl, s2, _, b2⟩; have hb2 : Below w.heap.size w w2 := below2 hb1 (below2 ((Below.refl _ _).drew) b2); have hcv2 := run_text_rd (P := Try.prog) w2 Try.underlying22 Try.underlying5 Try.underlying9 (c := c2) sl rfl s2; have hcv3 := Hcv.out _ hb2)
    all_goals
      go_wp2_with fail
      go_ret2
      exact OpRet.yes Hop.out rfl (own_below hown1 (below2 ((Below.refl _ _).drew) b2)) hil.symm rfl hb2
  · rw [if_neg heq] at Hop
    rw [decide_eq_false heq] at hcmp
    clear heq
    generalize Sum.seal_ inner = sl at *
    go_enter Try.func19, Try.ntmps19
    go_wp2_with (at_builtin; refine wpList_append_own_src rfl (.tmp 8) (.tmp 13) 22 22 rfl w.heap.size 5 i0 (.int .u8 0) 1 Try.underlying22 hi hz0 hz1 hz2 rfl w.heap.size 0 0 [] rfl hown0 _ _ _ rfl S0 q1 q2 hb0.size ?_; intro g1 cp1 w1 hown1 hgr1)
    have hb1 : Below w.heap.size w w1 := hb0.grown hgr1 hb0.size (fun k hk => by injection hk with hk; subst hk; exact Nat.le_refl _)
    rw [Nat.zero_add, List.nil_append] at hown1
    clear hown0 S0 hgr1
    have Hin := hid (show Byt w1.drew w1.drew.heap.size (some ⟨g1, 0, none⟩) inner from Rd.of_own hown1)
    have hcv1 := Hcv.out _ hb1.drew
    go_region_with (go_at_call 20; refine (Hs.out _ _ _ Hin.out).mono ?_; rintro e w2 ⟨A2, c2, rfl, s2, _, b2⟩; have hb2 : Below w.heap.size w w2 := below2 hb1 (below2 ((Below.refl _ _).drew) b2); have hcv2 := run_text_rd (P := Try.prog) w2 Try.underlying22 Try.underlying5 Try.underlying9 (c := c2) sl rfl s2; have hcv3 := Hcv.out _ hb2)
    all_goals
      go_wp2_with fail
      go_ret2
      exact OpRet.no Hop.out rfl hb2
end Go.Proofs.Ytonlcndljnfhgaa
