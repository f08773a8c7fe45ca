/- Contracts of the document's own functions of layer 2: what its Unquote returns. -/
import Derived.Test.YtikgaknmmbmnoaaWrdR
import Derived.IntWalk
namespace Go.Proofs.Ytikgaknmmbmnoaa
open Go.RowKit

theorem drop1 (s : ByteArray) (k : Nat) (h : k < s.size) : s.data.toList.drop k = s[k] :: s.data.toList.drop (k + 1) := by
  rw [List.drop_eq_getElem_cons (by rw [data_len]; exact h), data_get s k h]
theorem drop3 (s : ByteArray) (k : Nat) (h : k + 2 < s.size) : s.data.toList.drop k = s[k] :: s[k + 1] :: s[k + 2] :: s.data.toList.drop (k + 3) := by
  rw [drop1 s k (by omega), drop1 s (k + 1) (by omega), drop1 s (k + 2) h]
theorem lit_one_drew (w : World) (x : Value) (t : TypeId) : ∀ j u, [x][j]? = some u → (w.alloc (.cells #[x] t)).drew.cell? ((⟨w.heap.size, 0, none⟩ : Addr).add j) = some u := lit_one w x t
theorem two_int (a b : Int) (ha : 0 ≤ a) (ha2 : a < 16) (hb : 0 ≤ b) (hb2 : b < 16) : ((Wrd.two a b).toNat : Int) = 16 * a + b := by
  unfold Wrd.two
  simp
  omega
theorem ne_of_walk_s {a : List UInt8} {s : ByteArray} (h : (!(bs a).toList == s.toList) = true) : a ≠ s.data.toList := by
  rw [list_of, list_of, bs_data, Bool.not_eq_true', beq_eq_false_iff_ne] at h
  exact h
theorem eq_of_walk_s {a : List UInt8} {s : ByteArray} (h : (!(bs a).toList == s.toList) = false) : a = s.data.toList := by
  rw [list_of, list_of, bs_data, Bool.not_eq_false', beq_iff_eq] at h
  exact h
theorem rq_of (l acc : List UInt8) (h37 : l ≠ [37]) (hd : Wrd.dec Wrd.ld2 l = some acc) : Wrd.uq l = if Wrd.qt acc = l then some acc else none := by
  rw [← Wrd.rq_eq]
  unfold Wrd.rq
  rw [if_neg h37, hd]
theorem rq_no (l : List UInt8) (h37 : l ≠ [37]) (hd : Wrd.dec Wrd.ld2 l = none) : Wrd.uq l = none := by
  rw [← Wrd.rq_eq]
  unfold Wrd.rq
  rw [if_neg h37, hd]

set_option maxHeartbeats 2000000 in
theorem r_Unquote (s : ByteArray) (hm : s.size ≤ 300000) (w : World) :
    Calls Try.prog 15 #[.string s] w (UqRet s.data.toList w) := by
  by_cases h37 : s = ⟨#[37]⟩
  · subst h37
    have hq := hid (show Wrd.uq [37] = some [] from rfl)
    go_enter Try.func15, Try.ntmps15
    go_wp2
    go_ret2
    exact UqRet.yes hq.out rfl rfl (Below.refl _ _)
  · have hne37 : s.data.toList ≠ [37] := fun e => h37 (by rw [← of_bs s, e]; rfl)
    have e37 : (s.toList == [37]) = false := by rw [beq_eq_false_iff_ne, list_of]; exact hne37
    have Hyes := hid (fun acc (hd : Wrd.dec Wrd.ld2 s.data.toList = some acc) => rq_of _ acc hne37 hd)
    have Hno := hid (fun (hd : Wrd.dec Wrd.ld2 s.data.toList = none) => rq_no _ hne37 hd)
    have Hlen := hid (data_len s)
    obtain ⟨i0, hi, hz0, hz1, hz2⟩ := info_parts Try.info_u8
    clear h37 hne37
    go_enter Try.func15, Try.ntmps15
    go_wp2_with fail
    go_loopw [4, 5] (fun v i wr => ∃ (k : Nat) (acc : List UInt8), i = .int .i64 k ∧ Wrd.Got Wrd.ld2 s.data.toList k acc ∧ acc.length ≤ k ∧ wr.ownsRow w.heap.size 5 1 v acc.length (acc.map bcell) ∧ Below w.heap.size w wr) (fun _ i _ => s.size - (intOf i).toNat)
    case atStart => exact ⟨0, [], rfl, Wrd.Got.start _ _, Nat.le_refl _, World.ownsRow_nil _ _ _ _, Below.refl _ _⟩
    case round =>
      obtain ⟨k, acc, rfl, hgot, hacc, hown, hb⟩ := hrel
      have hk := hgot.1
      rw [Hlen.out] at hk
      have Hgot := hid hgot
      clear hgot
      have hbs := hb.size
      have hn3 : acc.length + 1 ≤ maxLen := by unfold maxLen; omega
      have hn4 : (acc.length + 1) * 1 ≤ 140737488355328 := by omega
      by_cases hlt : k < s.size
      · have hlk : k < s.data.toList.length := by rw [Hlen.out]; exact hlt
        by_cases hc : s[k] = 37
        · have hc' : (s[k].toNat : Int) = 37 := by rw [hc]; rfl
          by_cases h2 : k + 2 < s.size
          · have h2' : ¬ (s.size : Int) ≤ (k : Int) + 2 := by omega
            have hld : Wrd.ld2 (s.data.toList.drop k) = if Wrd.dg s[k + 1] < 0 ∨ Wrd.dg s[k + 2] < 0 then (0, 0) else (Wrd.two (Wrd.dg s[k + 1]) (Wrd.dg s[k + 2]), 3) := by
              rw [drop3 s k h2, hc, Wrd.ld2_37]
            have Hd1 := hid (fun w => r_digit s[k + 1] w)
            have Hd2 := hid (fun w => r_digit s[k + 2] w)
            have k1 : k + 1 < s.size := by omega
            have j1 : (k : Int) + 1 < s.size := by omega
            have j2 : (k : Int) + 2 < s.size := by omega
            by_cases ha : Wrd.dg s[k + 1] < 0
            · rw [if_pos (.inl ha)] at hld
              have Hn := hid (Hno.out (Hgot.out.stop hlk (by rw [hld])))
              clear hld Hgot hc
              go_wp2_with fail
              refine (Hd1.out _).mono ?_
              rintro e w' ⟨rfl, rfl⟩
              go_wp2_with fail
              go_ret2
              exact UqRet.no Hn.out rfl rfl hb
            · have ha2 : 0 ≤ Wrd.dg s[k + 1] := by omega
              by_cases hb0 : Wrd.dg s[k + 2] < 0
              · rw [if_pos (.inr hb0)] at hld
                have Hn := hid (Hno.out (Hgot.out.stop hlk (by rw [hld])))
                clear hld Hgot hc
                go_wp2_with fail
                refine (Hd1.out _).mono ?_
                rintro e w' ⟨rfl, rfl⟩
                go_wp2_with fail
                refine (Hd2.out _).mono ?_
                rintro e w' ⟨rfl, rfl⟩
                go_wp2_with fail
                go_ret2
                exact UqRet.no Hn.out rfl rfl hb
              · have hb2 : 0 ≤ Wrd.dg s[k + 2] := by omega
                rw [if_neg (by omega)] at hld
                have ha3 := (Wrd.hx_dg s[k + 1] ha2).2.2
                have hb3 := (Wrd.hx_dg s[k + 2] hb2).2.2
                have Hstep := hid (Hgot.out.step hlk (by rw [hld]; simp) (by rw [hld, Hlen.out]; show k + 3 ≤ _; omega))
                rw [hld] at Hstep
                have hv := two_int _ _ ha2 ha3 hb2 hb3
                have hv2 := (Wrd.two (Wrd.dg s[k + 1]) (Wrd.dg s[k + 2])).toNat_lt
                generalize Wrd.two (Wrd.dg s[k + 1]) (Wrd.dg s[k + 2]) = v at *
                have Hv := hid hv
                clear hld Hgot hc hv
                go_wp2_with fail
                refine (Hd1.out _).mono ?_
                rintro e w' ⟨rfl, rfl⟩
                go_wp2_with fail
                refine (Hd2.out _).mono ?_
                rintro e w' ⟨rfl, rfl⟩
                go_wp2_with fail
                have s1 : IntKind.i64.wrap ((k : Int) + 1) = (k : Int) + 1 := IntWalk.i64_in _ (by omega)
                have s2 : IntKind.i64.wrap ((k : Int) + 2) = (k : Int) + 2 := IntWalk.i64_in _ (by omega)
                have s3 : (0 : Int) ≤ (k : Int) + 1 := by omega
                have s4 : (0 : Int) ≤ (k : Int) + 2 := by omega
                have s5 : ((k : Int) + 1).toNat = k + 1 := by omega
                have s6 : ((k : Int) + 2).toNat = k + 2 := by omega
                have s7 : IntKind.i64.wrap (16 * Wrd.dg s[k + 1]) = 16 * Wrd.dg s[k + 1] := IntWalk.i64_in _ (by omega)
                have s8 : IntKind.i64.wrap (16 * Wrd.dg s[k + 1] + Wrd.dg s[k + 2]) = 16 * Wrd.dg s[k + 1] + Wrd.dg s[k + 2] := IntWalk.i64_in _ (by omega)
                go_region_law (first | (refine step_append_own rfl (.tmp 46) (.tmp 60) 41 rfl w.heap.size 5 i0 (.int .u8 0) 1 1 Try.underlying41 hi hz0 hz1 hz2 rfl (by decide) _ _ _ (by simp [Act.eval]) (hown.alloc _).drew ⟨wr.heap.size, 0, none⟩ 1 1 [_] (by simp [Act.eval]) rfl (lit_one_drew _ _ _) (int_one _ _) hn3 hn4 (le_alloc (w := wr) hbs _) ?_; intro v1 w2 hown1 hgrow) | (go_simp; go_at_call 23; (with_reducible refine (r_digit _ _).mono ?_); rintro e w' ⟨rfl, rfl⟩))
                all_goals
                  go_wp2_with fail
                  refine ⟨⟨k + 3, acc ++ [v], by go_num, Hstep.out, by simp; omega, ?_, ?_⟩, by simp [intOf]; omega⟩
                  · rw [show IntKind.u8.wrap (16 * Wrd.dg s[k + 1] + Wrd.dg s[k + 2]) = (v.toNat : Int) by rw [IntKind.wrap_u8, ← Hv.out]; omega] at hown1
                    rw [List.length_append, List.map_append]
                    exact hown1
                  · exact ((hb.alloc hbs _).drew).grown hgrow (le_alloc (w := wr) hbs _) (fun g hg => (hown.lt g hg).1)
          · have h2' : (s.size : Int) ≤ (k : Int) + 2 := by omega
            have Hn := hid (Hno.out (Hgot.out.stop hlk (by
              rw [drop1 s k hlt, hc, Wrd.ld2_37_short _ (by rw [List.length_drop, Hlen.out]; omega)])))
            clear Hgot hc
            go_wp2_with fail
            go_ret2
            exact UqRet.no Hn.out rfl rfl hb
        · have hne : ((s[k].toNat : Int) != 37) = true := by
            rw [bne_iff_ne]; intro e; apply hc; apply UInt8.toNat_inj.1; show s[k].toNat = 37; omega
          have Hstep := hid (Hgot.out.step hlk (by rw [drop1 s k hlt, Wrd.ld2_self _ _ hc]; simp) (by rw [drop1 s k hlt, Wrd.ld2_self _ _ hc]; show k + 1 ≤ _; omega))
          rw [drop1 s k hlt, Wrd.ld2_self _ _ hc] at Hstep
          clear Hgot hc
          go_wp2_with (at_builtin; refine wpList_append_own _ rfl (.tmp 19) (.tmp 23) 41 rfl w.heap.size 5 i0 (.int .u8 0) 1 1 Try.underlying41 hi hz0 hz1 hz2 rfl (by decide) _ _ _ rfl (hown.alloc _) ⟨wr.heap.size, 0, none⟩ 1 1 [.int .u8 (s[k].toNat : Int)] rfl rfl (lit_one _ _ _) (int_one _ _) hn3 hn4 (le_alloc (w := wr) hbs _) ?_; intro v1 w2 hown1 hgrow _)
          refine ⟨⟨k + 1, acc ++ [s[k]], by go_num, Hstep.out, by simp; omega, ?_, ?_⟩, by simp [intOf]; omega⟩
          · rw [List.length_append, List.map_append]
            exact hown1
          · exact (hb.alloc hbs _).grown hgrow (le_alloc (w := wr) hbs _) (fun g hg => (hown.lt g hg).1)
      · have hd := Hyes.out acc (Hgot.out.last (by rw [Hlen.out]; omega))
        have hconv := run_text_own (P := Try.prog) wr Try.underlying41 Try.underlying5 Try.underlying9 acc hown
        have Hq := hid (fun w => r_Quote (bs acc) (by rw [bs_size]; omega) w)
        rw [bs_data] at Hq
        unfold QtDraw at Hq
        have Hd := hid hd
        clear hown Hgot hd
        go_wp2_with fail
        refine (Hq.out _).mono ?_
        rintro e w' ⟨rfl, n, rfl⟩
        go_wp2_with fail
        · have hne := ne_of_walk_s (a := Wrd.qt acc) (s := s) (by assumption)
          go_ret2
          exact UqRet.no (by rw [Hd.out, if_neg hne]) rfl rfl (below_drewN hb _)
        · have he := eq_of_walk_s (a := Wrd.qt acc) (s := s) (by assumption)
          go_ret2
          exact UqRet.yes (by rw [Hd.out, if_pos he]) rfl rfl (below_drewN hb _)
end Go.Proofs.Ytikgaknmmbmnoaa
