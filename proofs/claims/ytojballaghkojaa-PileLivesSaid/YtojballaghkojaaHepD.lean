/- down of the library's heap over items (layer 7); made by gen_downh.py. -/
import Derived.Test.YtojballaghkojaaHepC
namespace Go.Proofs.Ytojballaghkojaa
open Go.RowKit Go.Shelf
open Pil (It)

/-- a row that was ordered from i downward, up to what stands behind it; whether anything was moved -/
def DnPost (q g c bm : Nat) (t r : List It) (i : Nat) (w : World) (e : Ending) (w' : World) : Prop := ∃ (b : Bool) (t' : List It), e = .returned (.bool b) ∧ St w' q g c bm (t' ++ r) ∧ t'.Perm t ∧ (b = true ∧ Hep.Ok t' ∨ b = false ∧ t' = t ∧ Hep.Up t i) ∧ Kept (fun k => k = g ∨ k = bm) w w'
theorem dn_fin {t t' : List It} {k i : Nat} (h : Hep.Ud t' k ∧ (k = i ∧ t' = t ∨ i < k ∧ Hep.Dn t' k)) (hno : ∀ i, i < t'.length → 0 < i → (i - 1) / 2 = k → ¬ Pil.lt (Hep.g t' i) (Hep.g t' k)) : (decide (i < k) = true ∧ Hep.Ok t') ∨ (decide (i < k) = false ∧ t' = t ∧ Hep.Up t i) := by
  rcases h.2 with ⟨rfl, rfl⟩ | ⟨h1, h2⟩
  · exact .inr ⟨decide_eq_false (by omega), rfl, h.1.stay hno⟩
  · exact .inl ⟨decide_eq_true (by omega), h2.ok hno⟩
set_option maxRecDepth 20000 in
set_option maxHeartbeats 4000000 in
theorem h_down {w : World} {q g c bm : Nat} {t r : List It} (h : St w q g c bm (t ++ r)) {i n : Nat} (hi : i ≤ t.length) (hn : n = t.length) (hu : Hep.Ud t i) :
    Calls Try.prog 30 #[ifc q, .int .i64 (i : Int), .int .i64 (n : Int)] w (DnPost q g c bm t r i w) := by
  have H := hid h
  have HU := hid hu
  have hl := h.len
  rw [List.length_append] at hl
  have hl : t.length ≤ 20000 := by omega
  have hi : i ≤ 20000 := by omega
  clear h hu
  go_enter Try.func30, Try.ntmps30
  go_wp2_with fail
  go_loopw [7] (fun iv wr => ∃ (k : Nat) (t' : List It), iv = .int .i64 k ∧ k ≤ 20000 ∧ Hid (St wr q g c bm (t' ++ r)) ∧ Hid (t'.Perm t) ∧ Hid (Hep.Ud t' k ∧ (k = i ∧ t' = t ∨ i < k ∧ Hep.Dn t' k)) ∧ Hid (Kept (fun k => k = g ∨ k = bm) w wr)) (fun iv _ => 20000 - (intOf iv).toNat)
  case atStart => exact ⟨i, t, rfl, hi, H, hid (.refl _), hid ⟨HU.out, .inl ⟨rfl, rfl⟩⟩, hid (Kept.refl _ _)⟩
  case round =>
    clear H HU hi
    obtain ⟨k, t', rfl, hk, HS, HP, HI, HK⟩ := hrel
    have hlen := HP.out.length_eq
    rw [← hlen] at hl
    have HN := hid (hn.trans hlen.symm)
    clear hn
    clear hlen
    have e1 : wrap64 (2 * (k : Int)) = 2 * (k : Int) := by unfold wrap64; omega
    have e2 : wrap64 (2 * (k : Int) + 1) = 2 * (k : Int) + 1 := by unfold wrap64; omega
    have e3 : wrap64 (2 * (k : Int) + 1 + 1) = 2 * (k : Int) + 1 + 1 := by unfold wrap64; omega
    have e4 : (0 : Int) ≤ 2 * (k : Int) + 1 := by omega
    by_cases h1 : 2 * k + 1 < t'.length
    · have i1 : 2 * (k : Int) + 1 < (n : Int) := by have := HN.out; omega
      by_cases h2 : 2 * k + 2 < t'.length
      · have i2 : 2 * (k : Int) + 1 + 1 < (n : Int) := by have := HN.out; omega
        have L := hid (h_less HS.out (Hep.lt_app r h2) (Hep.lt_app r h1))
        rw [Hep.g_app r h2, Hep.g_app r h1, show ((2 * k + 2 : Nat) : Int) = 2 * (k : Int) + 1 + 1 by omega, show ((2 * k + 1 : Nat) : Int) = 2 * (k : Int) + 1 by omega] at L
        obtain ⟨bb, Hb⟩ : ∃ b, Hid (decide (Pil.lt (Hep.g t' (2 * k + 2)) (Hep.g t' (2 * k + 1))) = b) := ⟨_, hid rfl⟩
        rw [Hb.out] at L
        cases bb with
        | true =>
          have HA := hid (of_decide_eq_true Hb.out)
          go_wp2_with fail
          with_reducible refine (L.out).mono ?_
          rintro e w2 ⟨rfl, b2⟩
          have HK2 := hid (kept_below HK.out b2)
          have HS2 := hid (HS.out.below b2)
          clear b2 L
          have hmin : Hid (∀ i, i < t'.length → 0 < i → (i - 1) / 2 = k → Hep.le (Hep.g t' (2 * k + 2)) (Hep.g t' i)) := hid (fun i hi h0 hp => (by omega : i = 2 * k + 1 ∨ i = 2 * k + 2).elim (fun e => by rw [e]; exact Hep.le_of_lt HA.out) (fun e => by rw [e]; exact Hep.le_refl _))
          have hk : k < t'.length := by omega
          have M := hid (h_less HS2.out (Hep.lt_app r (i := 2 * k + 2) h2) (Hep.lt_app r (i := k) hk))
          rw [Hep.g_app r (i := 2 * k + 2) h2, Hep.g_app r hk] at M
          obtain ⟨b2, Hb2⟩ : ∃ b, Hid (decide (Pil.lt (Hep.g t' (2 * k + 2)) (Hep.g t' k)) = b) := ⟨_, hid rfl⟩
          rw [Hb2.out, show ((2 * k + 2 : Nat) : Int) = 2 * (k : Int) + 1 + 1 by omega] at M
          cases b2 with
          | false =>
            have hnl : ¬ Pil.lt (Hep.g t' (2 * k + 2)) (Hep.g t' k) := of_decide_eq_false Hb2.out
            have Fin := hid (dn_fin HI.out (fun i hi h0 hp hlt => hnl (by
              have h1 := hmin.out i hi h0 hp
              unfold Hep.le at h1
              unfold Pil.lt at hlt ⊢
              omega)))
            clear hnl hmin
            go_wp2_with fail
            with_reducible refine (M.out).mono ?_
            rintro e w5 ⟨rfl, b5⟩
            have HK5 := hid (kept_below HK2.out b5)
            have HS5 := hid (HS2.out.below b5)
            clear b5
            go_wp2_with fail
            go_ret
            exact ⟨_, t', rfl, HS5.out, HP.out, Fin.out, HK5.out⟩
          | true =>
            have hlt : Pil.lt (Hep.g t' (2 * k + 2)) (Hep.g t' k) := of_decide_eq_true Hb2.out
            have HD := hid (HI.out.1.down (c := 2 * k + 2) h2 (by omega) (by omega) hlt hmin.out)
            have HIk : Hid (i ≤ k) := hid (by rcases HI.out.2 with h | h <;> omega)
            clear hlt hmin
            go_wp2_with fail
            with_reducible refine (M.out).mono ?_
            rintro e w5 ⟨rfl, b5⟩
            have HK5 := hid (kept_below HK2.out b5)
            have SW := hid (h_swap (HS2.out.below b5) (Hep.lt_app r (i := k) hk) (Hep.lt_app r (i := 2 * k + 2) h2))
            rw [Hep.sw_app r hk (j := 2 * k + 2) h2, show ((2 * k + 2 : Nat) : Int) = 2 * (k : Int) + 1 + 1 by omega] at SW
            clear b5 M
            go_wp2_with fail
            with_reducible refine (SW.out).mono ?_
            rintro e w6 ⟨rfl, h6, k6⟩
            have HS6 := hid h6
            have HK6 := hid (kept_same HK5.out k6)
            have HP6 := hid ((Hep.sw_perm (j := 2 * k + 2) hk h2).trans HP.out)
            have hl6 : 2 * k + 2 ≤ 20000 := by omega
            have HI6 : Hid (Hep.Ud (Hep.sw t' k (2 * k + 2)) (2 * k + 2) ∧ (2 * k + 2 = i ∧ Hep.sw t' k (2 * k + 2) = t ∨ i < 2 * k + 2 ∧ Hep.Dn (Hep.sw t' k (2 * k + 2)) (2 * k + 2))) := hid ⟨HD.out.ud, .inr ⟨by have := HIk.out; omega, HD.out⟩⟩
            clear h6 k6 SW
            go_wp2_with fail
            exact ⟨⟨2 * k + 2, _, by go_num, hl6, HS6, HP6, HI6, HK6⟩, by simp [intOf]; omega⟩
        | false =>
          have HA := hid (Hep.le_of_not (of_decide_eq_false Hb.out))
          go_wp2_with fail
          with_reducible refine (L.out).mono ?_
          rintro e w2 ⟨rfl, b2⟩
          have HK2 := hid (kept_below HK.out b2)
          have HS2 := hid (HS.out.below b2)
          clear b2 L
          have hmin : Hid (∀ i, i < t'.length → 0 < i → (i - 1) / 2 = k → Hep.le (Hep.g t' (2 * k + 1)) (Hep.g t' i)) := hid (fun i hi h0 hp => (by omega : i = 2 * k + 1 ∨ i = 2 * k + 2).elim (fun e => by rw [e]; exact Hep.le_refl _) (fun e => by rw [e]; exact HA.out))
          have hk : k < t'.length := by omega
          have M := hid (h_less HS2.out (Hep.lt_app r (i := 2 * k + 1) h1) (Hep.lt_app r (i := k) hk))
          rw [Hep.g_app r (i := 2 * k + 1) h1, Hep.g_app r hk] at M
          obtain ⟨b2, Hb2⟩ : ∃ b, Hid (decide (Pil.lt (Hep.g t' (2 * k + 1)) (Hep.g t' k)) = b) := ⟨_, hid rfl⟩
          rw [Hb2.out, show ((2 * k + 1 : Nat) : Int) = 2 * (k : Int) + 1 by omega] at M
          cases b2 with
          | false =>
            have hnl : ¬ Pil.lt (Hep.g t' (2 * k + 1)) (Hep.g t' k) := of_decide_eq_false Hb2.out
            have Fin := hid (dn_fin HI.out (fun i hi h0 hp hlt => hnl (by
              have h1 := hmin.out i hi h0 hp
              unfold Hep.le at h1
              unfold Pil.lt at hlt ⊢
              omega)))
            clear hnl hmin
            go_wp2_with fail
            with_reducible refine (M.out).mono ?_
            rintro e w5 ⟨rfl, b5⟩
            have HK5 := hid (kept_below HK2.out b5)
            have HS5 := hid (HS2.out.below b5)
            clear b5
            go_wp2_with fail
            go_ret
            exact ⟨_, t', rfl, HS5.out, HP.out, Fin.out, HK5.out⟩
          | true =>
            have hlt : Pil.lt (Hep.g t' (2 * k + 1)) (Hep.g t' k) := of_decide_eq_true Hb2.out
            have HD := hid (HI.out.1.down (c := 2 * k + 1) h1 (by omega) (by omega) hlt hmin.out)
            have HIk : Hid (i ≤ k) := hid (by rcases HI.out.2 with h | h <;> omega)
            clear hlt hmin
            go_wp2_with fail
            with_reducible refine (M.out).mono ?_
            rintro e w5 ⟨rfl, b5⟩
            have HK5 := hid (kept_below HK2.out b5)
            have SW := hid (h_swap (HS2.out.below b5) (Hep.lt_app r (i := k) hk) (Hep.lt_app r (i := 2 * k + 1) h1))
            rw [Hep.sw_app r hk (j := 2 * k + 1) h1, show ((2 * k + 1 : Nat) : Int) = 2 * (k : Int) + 1 by omega] at SW
            clear b5 M
            go_wp2_with fail
            with_reducible refine (SW.out).mono ?_
            rintro e w6 ⟨rfl, h6, k6⟩
            have HS6 := hid h6
            have HK6 := hid (kept_same HK5.out k6)
            have HP6 := hid ((Hep.sw_perm (j := 2 * k + 1) hk h1).trans HP.out)
            have hl6 : 2 * k + 1 ≤ 20000 := by omega
            have HI6 : Hid (Hep.Ud (Hep.sw t' k (2 * k + 1)) (2 * k + 1) ∧ (2 * k + 1 = i ∧ Hep.sw t' k (2 * k + 1) = t ∨ i < 2 * k + 1 ∧ Hep.Dn (Hep.sw t' k (2 * k + 1)) (2 * k + 1))) := hid ⟨HD.out.ud, .inr ⟨by have := HIk.out; omega, HD.out⟩⟩
            clear h6 k6 SW
            go_wp2_with fail
            exact ⟨⟨2 * k + 1, _, by go_num, hl6, HS6, HP6, HI6, HK6⟩, by simp [intOf]; omega⟩
      · have i2 : (n : Int) ≤ 2 * (k : Int) + 1 + 1 := by have := HN.out; omega
        have hmin : Hid (∀ i, i < t'.length → 0 < i → (i - 1) / 2 = k → Hep.le (Hep.g t' (2 * k + 1)) (Hep.g t' i)) := hid (fun i hi h0 hp => by rw [show i = 2 * k + 1 by omega]; exact Hep.le_refl _)
        have hk : k < t'.length := by omega
        have M := hid (h_less HS.out (Hep.lt_app r (i := 2 * k + 1) h1) (Hep.lt_app r (i := k) hk))
        rw [Hep.g_app r (i := 2 * k + 1) h1, Hep.g_app r hk] at M
        obtain ⟨b2, Hb2⟩ : ∃ b, Hid (decide (Pil.lt (Hep.g t' (2 * k + 1)) (Hep.g t' k)) = b) := ⟨_, hid rfl⟩
        rw [Hb2.out, show ((2 * k + 1 : Nat) : Int) = 2 * (k : Int) + 1 by omega] at M
        cases b2 with
        | false =>
          have hnl : ¬ Pil.lt (Hep.g t' (2 * k + 1)) (Hep.g t' k) := of_decide_eq_false Hb2.out
          have Fin := hid (dn_fin HI.out (fun i hi h0 hp hlt => hnl (by
            have h1 := hmin.out i hi h0 hp
            unfold Hep.le at h1
            unfold Pil.lt at hlt ⊢
            omega)))
          clear hnl hmin
          go_wp2_with fail
          with_reducible refine (M.out).mono ?_
          rintro e w5 ⟨rfl, b5⟩
          have HK5 := hid (kept_below HK.out b5)
          have HS5 := hid (HS.out.below b5)
          clear b5
          go_wp2_with fail
          go_ret
          exact ⟨_, t', rfl, HS5.out, HP.out, Fin.out, HK5.out⟩
        | true =>
          have hlt : Pil.lt (Hep.g t' (2 * k + 1)) (Hep.g t' k) := of_decide_eq_true Hb2.out
          have HD := hid (HI.out.1.down (c := 2 * k + 1) h1 (by omega) (by omega) hlt hmin.out)
          have HIk : Hid (i ≤ k) := hid (by rcases HI.out.2 with h | h <;> omega)
          clear hlt hmin
          go_wp2_with fail
          with_reducible refine (M.out).mono ?_
          rintro e w5 ⟨rfl, b5⟩
          have HK5 := hid (kept_below HK.out b5)
          have SW := hid (h_swap (HS.out.below b5) (Hep.lt_app r (i := k) hk) (Hep.lt_app r (i := 2 * k + 1) h1))
          rw [Hep.sw_app r hk (j := 2 * k + 1) h1, show ((2 * k + 1 : Nat) : Int) = 2 * (k : Int) + 1 by omega] at SW
          clear b5 M
          go_wp2_with fail
          with_reducible refine (SW.out).mono ?_
          rintro e w6 ⟨rfl, h6, k6⟩
          have HS6 := hid h6
          have HK6 := hid (kept_same HK5.out k6)
          have HP6 := hid ((Hep.sw_perm (j := 2 * k + 1) hk h1).trans HP.out)
          have hl6 : 2 * k + 1 ≤ 20000 := by omega
          have HI6 : Hid (Hep.Ud (Hep.sw t' k (2 * k + 1)) (2 * k + 1) ∧ (2 * k + 1 = i ∧ Hep.sw t' k (2 * k + 1) = t ∨ i < 2 * k + 1 ∧ Hep.Dn (Hep.sw t' k (2 * k + 1)) (2 * k + 1))) := hid ⟨HD.out.ud, .inr ⟨by have := HIk.out; omega, HD.out⟩⟩
          clear h6 k6 SW
          go_wp2_with fail
          exact ⟨⟨2 * k + 1, _, by go_num, hl6, HS6, HP6, HI6, HK6⟩, by simp [intOf]; omega⟩
    · have i1 : (n : Int) ≤ 2 * (k : Int) + 1 := by have := HN.out; omega
      have Fin := hid (dn_fin HI.out (fun i hi h0 hp => by omega))
      clear hl h1 HI
      go_wp2_with fail
      go_ret
      exact ⟨_, t', rfl, HS.out, HP.out, Fin.out, HK.out⟩
end Go.Proofs.Ytojballaghkojaa
