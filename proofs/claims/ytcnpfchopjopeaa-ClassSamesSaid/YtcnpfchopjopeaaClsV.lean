/- Contract of the program's own rightPlaces (layer 13, class). -/
import Derived.Test.YtcnpfchopjopeaaClsU
namespace Go.Proofs.Ytcnpfchopjopeaa
open Go.RowKit
open Whn (Gr Wh)

set_option maxRecDepth 20000 in
set_option maxHeartbeats 4000000 in
theorem p_places (n : Int) (A : Option Addr) (c : Nat) (l : List Pl) (hm : l.length ≤ maxLen) (w : World) (h : Es enP w w.heap.size A l) :
    Calls Try.prog 32 #[.int .i64 n, .slice A l.length c] w (Did (.bool (placesB n l)) w) := by
  unfold maxLen at hm
  have HC := hid (fun n X => p_cost n X)
  have H := hid h
  clear h
  by_cases h12 : (12 : Int) < l.length
  · have Hr := hid (show placesB n l = false by
      unfold placesB
      rw [decide_eq_false (show ¬ (l.length : Int) ≤ 12 by omega), Bool.and_false])
    generalize placesB n l = q at *
    go_enter Try.func32, Try.ntmps32
    go_wp2_with fail
    go_ret
    exact Did.mk (by rw [Hr.out]; rfl) (Below.refl _ _)
  · have hl12 : l.length ≤ 12 := by omega
    have Hbad := hid (fun i y hy h => placesB_bad (n := n) (l := l) (i := i) (y := y) hy h)
    have Hiff := hid (fun h => placesB_iff (n := n) (l := l) h (by omega))
    have HO := hid (fun A c X h hc => p_OnceI A c (l.map Pl.r) (by rw [List.length_map]; unfold maxLen; omega) hc X h)
    have Hf := hid (fun k y (h : l[k]? = some y) => show (l.take (k + 1)).map Pl.r = (l.take k).map Pl.r ++ [y.r] by rw [List.take_add_one, h, List.map_append]; rfl)
    have Hlen := hid (fun k (hk : k ≤ l.length) => show ((l.take k).map Pl.r).length = k by rw [List.length_map, List.length_take]; omega)
    have Hall := hid (show (l.take l.length).map Pl.r = l.map Pl.r by rw [List.take_length])
    have Hz := hid (show (l.take 0).map Pl.r = [] from rfl)
    obtain ⟨ff, hff⟩ : ∃ ff : Nat → List Int, (fun k => (l.take k).map Pl.r) = ff := ⟨_, rfl⟩
    have e1 : ∀ k, (l.take k).map Pl.r = ff k := fun k => congrFun hff k
    simp only [e1] at Hf Hlen Hall Hz
    clear hff e1
    generalize l.map Pl.r = lw at *
    generalize placesB n l = q at *
    obtain ⟨i0, hi0, hz0, hz1, hz2⟩ := info_parts Try.info_int
    have own0 := hid (World.ownsRow_nil w w.heap.size 3 1)
    have K := hid (Mem.nil w)
    go_enter Try.func32, Try.ntmps32
    go_wp2_with fail
    go_loopw [5, 13] (fun vv i wr => ∃ (k : Nat), i = .int .i64 k ∧ k ≤ l.length ∧ Hid (wr.ownsRow w.heap.size 3 1 vv (ff k).length ((ff k).map (Value.int .i64))) ∧ Hid (Mem w wr []) ∧ Hid (∀ i, i < k → ∀ y, l[i]? = some y → 0 ≤ y.r ∧ y.r < n ∧ costB y.c = true)) (fun _ i _ => l.length - (intOf i).toNat)
    case atStart => exact ⟨0, rfl, Nat.zero_le _, by rw [Hz.out]; exact own0, K, hid (fun i hi => absurd hi (Nat.not_lt_zero i))⟩
    case round =>
      clear own0 K
      obtain ⟨k, rfl, hk, HO1, KM, hsame⟩ := hrel
      by_cases hlt : k < l.length
      · obtain ⟨ad, y, rfl, hadb, hy, hyl, hcell⟩ := Es.get enP_len (by decide) (H.out.below KM.out.2 (Nat.le_refl _)) hlt
        have d0 : wr.cell? (ad.add (k * 2)) = some (.int .i64 y.r) := by have := hcell 0 _ rfl; rwa [Nat.add_zero] at this
        have d1 : wr.cell? ⟨(ad.add (k * 2)).block, (ad.add (k * 2)).off + 1, none⟩ = some (.int .i64 y.c) := by have := hcell 1 _ rfl; rwa [add_add _ _ _ (by omega)] at this
        have b1 : (0 : Int) ≤ (k : Int) := by omega
        have b2 : (k : Int) < l.length := by omega
        obtain ⟨D, U, hD, hU, K2, hb2⟩ := KM.out.one (enP y) 60
        have O2 := hid (own_below HO1.out hb2)
        have c0 : U.cell? ⟨D, 0, none⟩ = some (.int .i64 y.r) := K2.out.cell (b := D) (cs := enP y) (t := 60) (by simp) rfl
        have c1 : U.cell? ⟨D, 1, none⟩ = some (.int .i64 y.c) := K2.out.cell (b := D) (cs := enP y) (t := 60) (by simp) rfl
        have Hfk := Hf.out k y hy.out
        have Hb1 := hid (fun h => Hbad.out k y hy.out h)
        have Hnx := hid (fun (h1 : 0 ≤ y.r) (h2 : y.r < n) (h3 : costB y.c = true) => show ∀ i, i < k + 1 → ∀ z, l[i]? = some z → 0 ≤ z.r ∧ z.r < n ∧ costB z.c = true from fun i hi z hz => by
          rcases Nat.lt_or_ge i k with h' | h'
          · exact hsame.out i h' z hz
          · obtain rfl : i = k := by omega
            have hzy := hy.out
            rw [hz] at hzy
            rw [Option.some.inj hzy]; exact ⟨h1, h2, h3⟩)
        clear HO1 KM hsame hcell Hbad Hiff HO Hall Hz
        by_cases c2 : y.r < 0
        · have Hq := hid (Hb1.out (.inl c2))
          clear Hb1 Hnx
          go_wp2_with fail
          go_ret
          exact Did.mk (by rw [Hq.out]; rfl) K2.out.2
        · by_cases c3 : n ≤ y.r
          · have Hq := hid (Hb1.out (.inr (.inl c3)))
            clear Hb1 Hnx
            go_wp2_with fail
            go_ret
            exact Did.mk (by rw [Hq.out]; rfl) K2.out.2
          · have Hb2 := hid (fun h => Hb1.out (.inr (.inr h)))
            have Hn1 := hid (fun h => Hnx.out (by omega) (by omega) h)
            clear Hb1 Hnx
            go_wp2_with fail
            obtain ⟨qc, hqc⟩ : ∃ q, costB y.c = q := ⟨_, rfl⟩
            have HC1 := hid (fun X => HC.out y.c X)
            rw [hqc] at HC1 Hb2 Hn1
            clear hqc
            refine (HC1.out _).mono ?_
            rintro e w2 ⟨rfl, rfl⟩
            cases qc with
            | false =>
              have Hq := hid (Hb2.out rfl)
              clear Hb2 Hn1
              go_wp2_with fail
              go_ret
              exact Did.mk (by rw [Hq.out]; rfl) K2.out.2
            | true =>
              have Hn := hid (Hn1.out rfl)
              have K4 := hid (K2.out.sub (l' := []) (by intro p hp; cases hp))
              have Hfk := hid Hfk
              have hl := Hlen.out k (by omega)
              obtain ⟨L, hL⟩ : ∃ L, ff k = L := ⟨_, rfl⟩
              rw [hL] at O2 Hfk hl
              have hn3 : L.length + 1 ≤ maxLen := by unfold maxLen; omega
              have hn4 : (L.length + 1) * 8 ≤ 140737488355328 := by omega
              have hB4 := K4.out.2.size
              clear hL Hf Hlen Hb2 Hn1
              go_wp2_with (at_builtin; refine wpList_append_own _ rfl _ _ 26 rfl w.heap.size 3 i0 (.int .i64 0) 1 8 Try.underlying26 hi0 hz0 hz1 hz2 rfl (by decide) _ _ _ rfl (O2.out.alloc _) ⟨_, 0, none⟩ 1 1 [.int .i64 y.r] rfl rfl (lit_one _ _ _) (int_one _ _) hn3 hn4 (le_alloc hB4 _) ?_; intro v1 w5 hown2 hgrow _)
              have bb : Below w.heap.size U w5 := ((Below.refl w.heap.size U).alloc hB4 _).grown hgrow (le_alloc hB4 _) (fun k hk => (O2.out.lt k hk).1)
              have K6 : Mem w w5 [] := ⟨fun p hp => (by cases hp), K4.out.2.trans bb⟩
              refine ⟨⟨k + 1, by go_num, by omega, ?_, hid K6, Hn⟩, by simp [intOf]; omega⟩
              rw [Hfk.out, List.length_append, List.map_append]
              exact hid hown2
      · obtain rfl : k = l.length := by omega
        have Hi := hid (Hiff.out hsame.out)
        rw [Hall.out] at HO1
        obtain ⟨A1, c1, rfl, hw1, hc1⟩ := own_rd HO1.out
        have HO2 := hid (HO.out A1 c1 wr hw1 hc1)
        have b2 : ¬ (l.length : Int) < l.length := by omega
        clear Hf Hlen Hall Hz Hbad Hiff HO hw1 hsame
        go_wp2_with fail
        refine (HO2.out).mono ?_
        rintro e w1 ⟨b, rfl, hb, b3⟩
        have Hb := hid (show q = b from Bool.eq_iff_iff.2 (Hi.out.trans hb.symm))
        clear hb
        go_wp2_with fail
        go_ret
        exact Did.mk (by rw [Hb.out]; rfl) (KM.out.next b3).2
end Go.Proofs.Ytcnpfchopjopeaa
