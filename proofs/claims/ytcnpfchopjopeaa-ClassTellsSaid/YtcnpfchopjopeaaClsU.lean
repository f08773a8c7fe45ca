/- Contracts of the program's own rightPersons, rightTimes, rightPlaces, Right (layer 13, class). -/
import Derived.Test.YtcnpfchopjopeaaClsT
import Derived.Test.YtcnpfchopjopeaaClsK
namespace Go.Proofs.Ytcnpfchopjopeaa
open Go.RowKit
open Whn (Gr Wh)

set_option maxRecDepth 8000 in
set_option maxHeartbeats 2000000 in
theorem p_persons (e : Int) (he : I64 e) (A : Option Addr) (c : Nat) (l : List Int) (hm : l.length ≤ maxLen) (w : World) (h : Its w w.heap.size A l) :
    Calls Try.prog 30 #[.int .i64 e, .slice A l.length c] w (Did (.bool (decide ((l.length : Int) ≤ 4) && risingB l e)) w) := by
  unfold maxLen at hm
  unfold I64 at he
  by_cases h4 : (4 : Int) < l.length
  · have Hr := hid (show (decide ((l.length : Int) ≤ 4) && risingB l e) = false by rw [decide_eq_false (by omega), Bool.false_and])
    generalize (decide ((l.length : Int) ≤ 4) && risingB l e) = q at *
    clear h
    go_enter Try.func30, Try.ntmps30
    go_wp2_with fail
    go_ret
    exact Did.mk (by rw [Hr.out]; rfl) (Below.refl _ _)
  · have Hr := (show (decide ((l.length : Int) ≤ 4) && risingB l e) = risingB l e by rw [decide_eq_true (by omega), Bool.true_and])
    rw [Hr]
    clear Hr
    have H := hid h
    have Hyes := hid (fun h => risingB_yes (l := l) (e := e) h)
    have Hno := hid (fun i hi h => risingB_no (l := l) (e := e) (i := i) hi h)
    generalize risingB l e = rr at *
    have H0 := hid (show ∀ x, l[0]? = some x → okR l e 0 = (decide (0 ≤ x) && decide (x < e)) from fun x hx => by unfold okR; rw [getD_of hx, decide_eq_true (rfl : (0 : Nat) = 0), Bool.true_or, Bool.and_true])
    clear h
    go_enter Try.func30, Try.ntmps30
    go_wp2_with fail
    go_loopw [5, 13] (fun mv i wr => ∃ (k : Nat) (m : Int), i = .int .i64 k ∧ mv = .int .i64 m ∧ k ≤ l.length ∧ 0 ≤ m ∧ m ≤ 9223372036854775807 ∧ w = wr ∧ Hid (∀ i, i < k → okR l e i = true) ∧ Hid (∀ x, l[k]? = some x → okR l e k = (decide (m ≤ x) && decide (x < e)))) (fun _ i _ => l.length - (intOf i).toNat)
    case atStart => exact ⟨0, 0, rfl, rfl, Nat.zero_le _, by omega, by omega, rfl, hid (fun i hi => absurd hi (Nat.not_lt_zero i)), H0⟩
    case round =>
      clear H0
      obtain ⟨k, m, rfl, rfl, hk, hm0, hm1, rfl, hsame, hok⟩ := hrel
      by_cases hlt : k < l.length
      · obtain ⟨ad, x, rfl, hadb, hx, hcx⟩ := Its.get H.out hlt
        have b1 : (0 : Int) ≤ (k : Int) := by omega
        have b2 : (k : Int) < l.length := by omega
        have Hok := hid (hok.out x hx.out)
        have Hnext := hid (fun (h : okR l e k = true) => show ∀ i, i < k + 1 → okR l e i = true from fun i hi => by
          rcases Nat.lt_or_ge i k with h' | h'
          · exact hsame.out i h'
          · obtain rfl : i = k := by omega
            exact h)
        have Hbad := hid (fun (h : okR l e k = false) => Hno.out k hlt h)
        clear Hyes Hno hsame hok
        by_cases c1 : x < m
        · have Hb := hid (Hbad.out (by rw [Hok.out, decide_eq_false (show ¬ m ≤ x by omega), Bool.false_and]))
          clear Hbad Hnext Hok
          go_wp2_with fail
          go_ret
          exact Did.mk (by rw [Hb.out]; rfl) (Below.refl _ _)
        · by_cases c2 : e ≤ x
          · have Hb := hid (Hbad.out (by rw [Hok.out, decide_eq_false (show ¬ x < e by omega), Bool.and_false]))
            clear Hbad Hnext Hok
            go_wp2_with fail
            go_ret
            exact Did.mk (by rw [Hb.out]; rfl) (Below.refl _ _)
          · have Hn := hid (Hnext.out (by rw [Hok.out, decide_eq_true (show m ≤ x by omega), decide_eq_true (show x < e by omega)]; rfl))
            have hw : IntKind.i64.wrap (x + 1) = x + 1 := by rw [IntKind.wrap_i64]; omega
            have Hn2 := hid (show ∀ y, l[k + 1]? = some y → okR l e (k + 1) = (decide (x + 1 ≤ y) && decide (y < e)) from fun y hy => by
              unfold okR
              rw [getD_of hy, show k + 1 - 1 = k from rfl, getD_of hx.out, decide_eq_false (Nat.succ_ne_zero k), Bool.false_or]
              by_cases hxy : x < y
              · rw [decide_eq_true hxy, decide_eq_true (show (0 : Int) ≤ y by omega), decide_eq_true (show x + 1 ≤ y by omega), Bool.true_and, Bool.and_true]
              · rw [decide_eq_false hxy, decide_eq_false (show ¬ x + 1 ≤ y by omega), Bool.and_false, Bool.false_and])
            clear Hbad Hnext Hok
            go_wp2_with fail
            exact ⟨⟨k + 1, x + 1, by go_num, rfl, by omega, by omega, by omega, trivial, Hn, Hn2⟩, by simp [intOf]; omega⟩
      · obtain rfl : k = l.length := by omega
        have Hy := hid (Hyes.out (fun i hi => hsame.out i hi))
        clear Hyes Hno hsame hok
        go_wp2_with fail
        go_ret
        exact Did.mk (by rw [Hy.out]; rfl) (Below.refl _ _)
theorem freshT_iff {l : List Tm} {i : Nat} {y : Tm} (hy : l[i]? = some y) : freshT l i i = true ↔ y.w ∉ (l.map Tm.w).take i := by
  unfold freshT
  rw [List.all_eq_true, tmAt_of hy]
  constructor
  · intro h hm
    rw [← List.map_take, List.mem_map] at hm
    obtain ⟨z, hz, e⟩ := hm
    obtain ⟨m, hzm⟩ := List.mem_iff_getElem?.1 hz
    rw [List.getElem?_take] at hzm
    split at hzm
    · next hmi =>
      have := h m (List.mem_range.2 hmi)
      rw [tmAt_of hzm, e, (whEq_iff _ _).2 rfl] at this
      cases this
    · cases hzm
  · intro h m hm
    have hmi := List.mem_range.1 hm
    have hil := (List.getElem?_eq_some_iff.1 hy).1
    have hz : l[m]? = some l[m] := List.getElem?_eq_getElem (by omega)
    cases hR : whEq (tmAt l m).w y.w with
    | false => rfl
    | true =>
      rw [tmAt_of hz] at hR
      refine absurd ?_ h
      rw [← List.map_take, List.mem_map]
      exact ⟨l[m], List.mem_iff_getElem?.2 ⟨m, by rw [List.getElem?_take, if_pos hmi]; exact hz⟩, (whEq_iff _ _).1 hR⟩
theorem timesB_iff {g : Gr} {l : List Tm} (h : ∀ i, i < l.length → ∀ y, l[i]? = some y → Whn.right g y.w = true ∧ costB y.c = true) (h1 : inB (l.length : Int) 1 16 = true) : timesB g l = true ↔ Once (l.map Tm.w) := by
  constructor
  · intro ht i x hx
    rw [List.getElem?_map] at hx
    cases hy : l[i]? with
    | none => rw [hy] at hx; cases hx
    | some y =>
      rw [hy] at hx
      injection hx with hx
      subst hx
      unfold timesB at ht
      rw [Bool.and_eq_true, List.all_eq_true] at ht
      have := ht.1 i (List.mem_range.2 (List.getElem?_eq_some_iff.1 hy).1)
      unfold okTm at this
      rw [Bool.and_eq_true] at this
      exact (freshT_iff hy).1 this.2
  · intro ho
    rw [timesB_yes (fun i hi => ?_)]
    · exact h1
    · have hy : l[i]? = some l[i] := List.getElem?_eq_getElem hi
      have h2 := h i hi _ hy
      unfold okTm
      rw [tmAt_of hy, h2.1, h2.2, (freshT_iff hy).2 (ho i _ (by rw [List.getElem?_map, hy]; rfl))]
      rfl
theorem timesB_bad {g : Gr} {l : List Tm} {i : Nat} {y : Tm} (hy : l[i]? = some y) (h : (Whn.right g y.w && costB y.c) = false) : timesB g l = false := by
  refine timesB_no (List.getElem?_eq_some_iff.1 hy).1 ?_
  unfold okTm
  rw [tmAt_of hy, h, Bool.false_and]
theorem timesB_grid {g : Gr} {l : List Tm} (h : timesB g l = true) : Whn.rgrid g = true := by
  unfold timesB at h
  rw [Bool.and_eq_true, List.all_eq_true, Bool.and_eq_true, decide_eq_true_iff] at h
  have h0 := h.1 0 (List.mem_range.2 (by omega))
  unfold okTm at h0
  rw [Bool.and_eq_true, Bool.and_eq_true] at h0
  exact Whn.right_grid h0.1.1
theorem freshP_iff {l : List Pl} {i : Nat} {y : Pl} (hy : l[i]? = some y) : freshP l i i = true ↔ y.r ∉ (l.map Pl.r).take i := by
  unfold freshP
  rw [List.all_eq_true, plAt_of hy]
  constructor
  · intro h hm
    rw [← List.map_take, List.mem_map] at hm
    obtain ⟨z, hz, e⟩ := hm
    obtain ⟨m, hzm⟩ := List.mem_iff_getElem?.1 hz
    rw [List.getElem?_take] at hzm
    split at hzm
    · next hmi =>
      have := h m (List.mem_range.2 hmi)
      rw [plAt_of hzm, e, beq_self_eq_true] at this
      cases this
    · cases hzm
  · intro h m hm
    have hmi := List.mem_range.1 hm
    have hil := (List.getElem?_eq_some_iff.1 hy).1
    have hz : l[m]? = some l[m] := List.getElem?_eq_getElem (by omega)
    cases hR : (plAt l m).r == y.r with
    | false => rfl
    | true =>
      rw [plAt_of hz] at hR
      refine absurd ?_ h
      rw [← List.map_take, List.mem_map]
      exact ⟨l[m], List.mem_iff_getElem?.2 ⟨m, by rw [List.getElem?_take, if_pos hmi]; exact hz⟩, eq_of_beq hR⟩
theorem placesB_iff {n : Int} {l : List Pl} (h : ∀ i, i < l.length → ∀ y, l[i]? = some y → 0 ≤ y.r ∧ y.r < n ∧ costB y.c = true) (h1 : (l.length : Int) ≤ 12) : placesB n l = true ↔ Once (l.map Pl.r) := by
  constructor
  · intro ht i x hx
    rw [List.getElem?_map] at hx
    cases hy : l[i]? with
    | none => rw [hy] at hx; cases hx
    | some y =>
      rw [hy] at hx
      injection hx with hx
      subst hx
      unfold placesB at ht
      rw [Bool.and_eq_true, List.all_eq_true] at ht
      have := ht.1 i (List.mem_range.2 (List.getElem?_eq_some_iff.1 hy).1)
      unfold okPl at this
      rw [Bool.and_eq_true] at this
      exact (freshP_iff hy).1 this.2
  · intro ho
    rw [placesB_yes (fun i hi => ?_)]
    · exact decide_eq_true h1
    · have hy : l[i]? = some l[i] := List.getElem?_eq_getElem hi
      have h2 := h i hi _ hy
      unfold okPl
      rw [plAt_of hy, decide_eq_true h2.1, decide_eq_true h2.2.1, h2.2.2, (freshP_iff hy).2 (ho i _ (by rw [List.getElem?_map, hy]; rfl))]
      rfl
theorem placesB_bad {n : Int} {l : List Pl} {i : Nat} {y : Pl} (hy : l[i]? = some y) (h : y.r < 0 ∨ n ≤ y.r ∨ costB y.c = false) : placesB n l = false := by
  refine placesB_no (List.getElem?_eq_some_iff.1 hy).1 ?_
  unfold okPl
  rw [plAt_of hy]
  rcases h with h | h | h
  · rw [decide_eq_false (show ¬ 0 ≤ y.r by omega), Bool.false_and, Bool.false_and, Bool.false_and]
  · rw [decide_eq_false (show ¬ y.r < n by omega), Bool.and_false, Bool.false_and, Bool.false_and]
  · rw [h, Bool.and_false, Bool.false_and]
set_option maxRecDepth 20000 in
set_option maxHeartbeats 4000000 in
theorem p_times (g : Gr) (A : Option Addr) (c : Nat) (l : List Tm) (hm : l.length ≤ maxLen) (hok : ∀ y ∈ l, Wok y.w) (w : World) (h : Es enT w w.heap.size A l) :
    Calls Try.prog 31 #[gv g, .slice A l.length c] w (Did (.bool (timesB g l)) w) := by
  unfold maxLen at hm
  have HI := hid (fun X => p_win (l.length : Int) 1 16 X)
  have HR := hid (fun y hy X => p_Right g y hy X)
  have HC := hid (fun n X => p_cost n X)
  have H := hid h
  have HK := hid hok
  obtain ⟨P, W, hP, hW, K, hb0⟩ := (Mem.nil w).one (gc g) 23
  obtain ⟨g0, g1, g2⟩ := K.out.gr (B := P) (g := g) (by simp)
  clear h hok hb0
  cases h1 : inB (l.length : Int) 1 16 with
  | false =>
    have Hr := hid (show timesB g l = false by
      unfold timesB
      unfold inB at h1
      rw [h1, Bool.and_false])
    rw [h1] at HI
    clear h1
    generalize timesB g l = q at *
    go_enter Try.func31, Try.ntmps31
    go_wp2_with fail
    refine (HI.out _).mono ?_
    rintro e w1 ⟨rfl, rfl⟩
    go_wp2_with fail
    go_ret
    exact Did.mk (by rw [Hr.out]; rfl) K.out.2
  | true =>
    have hl16 : l.length ≤ 16 := by
      have := h1
      unfold inB at this
      rw [Bool.and_eq_true, decide_eq_true_iff, decide_eq_true_iff] at this
      omega
    rw [h1] at HI
    have Hbad := hid (fun i y hy h => timesB_bad (g := g) (l := l) (i := i) (y := y) hy h)
    have Hiff := hid (fun h => timesB_iff (g := g) (l := l) h h1)
    have HO := hid (fun A c X h hc => p_OnceW A c (l.map Tm.w) (by rw [List.length_map]; unfold maxLen; omega) hc X h)
    have Hf := hid (fun k y (h : l[k]? = some y) => show (l.take (k + 1)).map Tm.w = (l.take k).map Tm.w ++ [y.w] by rw [List.take_add_one, h, List.map_append]; rfl)
    have Hlen := hid (fun k (hk : k ≤ l.length) => show ((l.take k).map Tm.w).length = k by rw [List.length_map, List.length_take]; omega)
    have Hall := hid (show (l.take l.length).map Tm.w = l.map Tm.w by rw [List.take_length])
    have Hml := hid (show (l.map Tm.w).length = l.length by rw [List.length_map])
    have Hz := hid (show (l.take 0).map Tm.w = [] from rfl)
    obtain ⟨ff, hff⟩ : ∃ ff : Nat → List Wh, (fun k => (l.take k).map Tm.w) = ff := ⟨_, rfl⟩
    have e1 : ∀ k, (l.take k).map Tm.w = ff k := fun k => congrFun hff k
    simp only [e1] at Hf Hlen Hall Hz
    clear hff e1
    generalize l.map Tm.w = lw at *
    generalize timesB g l = q at *
    clear h1
    obtain ⟨i0, hi0, hz0, hz1, hz2⟩ := info_parts Try.info_when
    have own0 := hid (World.ownsRow_nil W (P + 1) 46 4)
    have HBw := hid (show ∀ X : World, Mem w X [(P, gc g, 23)] → P + 1 ≤ X.heap.size from fun X h => (h.at_ (b := P) (cs := gc g) (t := 23) (by simp)).lt)
    have HPw := hid (show w.heap.size ≤ P by omega)
    go_enter Try.func31, Try.ntmps31
    go_wp2_with fail
    refine (HI.out _).mono ?_
    rintro e w1 ⟨rfl, rfl⟩
    go_wp2_with fail
    go_loopw [5, 14] (fun vv i wr => ∃ (k : Nat), i = .int .i64 k ∧ k ≤ l.length ∧ Hid (wr.ownsRow (P + 1) 46 4 vv (ff k).length (wcells (ff k))) ∧ Hid (Mem w wr [(P, gc g, 23)]) ∧ Hid (∀ i, i < k → ∀ y, l[i]? = some y → Whn.right g y.w = true ∧ costB y.c = true)) (fun _ i _ => l.length - (intOf i).toNat)
    case atStart => exact ⟨0, rfl, Nat.zero_le _, by rw [Hz.out]; exact own0, K, hid (fun i hi => absurd hi (Nat.not_lt_zero i))⟩
    case round =>
      clear own0 K g0 g1 g2 hP hW
      obtain ⟨k, rfl, hk, HO1, KM, hsame⟩ := hrel
      by_cases hlt : k < l.length
      · obtain ⟨ad, y, rfl, hadb, hy, hyl, hcell⟩ := Es.get enT_len (by decide) (H.out.below KM.out.2 (Nat.le_refl _)) hlt
        have hy1 : Wok y.w := HK.out _ hyl
        have d0 : wr.cell? (ad.add (k * 5)) = some (.int .u32 (y.w.w : Int)) := by have := hcell 0 _ rfl; rwa [Nat.add_zero] at this
        have d1 : wr.cell? ⟨(ad.add (k * 5)).block, (ad.add (k * 5)).off + 1, none⟩ = some (.int .u8 (y.w.d : Int)) := by have := hcell 1 _ rfl; rwa [add_add _ _ _ (by omega)] at this
        have d2 : wr.cell? ⟨(ad.add (k * 5)).block, (ad.add (k * 5)).off + 2, none⟩ = some (.int .i64 y.w.s) := by have := hcell 2 _ rfl; rwa [add_add _ _ _ (by omega)] at this
        have d3 : wr.cell? ⟨(ad.add (k * 5)).block, (ad.add (k * 5)).off + 3, none⟩ = some (.int .i64 y.w.l) := by have := hcell 3 _ rfl; rwa [add_add _ _ _ (by omega)] at this
        have d4 : wr.cell? ⟨(ad.add (k * 5)).block, (ad.add (k * 5)).off + 4, none⟩ = some (.int .i64 y.c) := by have := hcell 4 _ rfl; rwa [add_add _ _ _ (by omega)] at this
        have b1 : (0 : Int) ≤ (k : Int) := by omega
        have b2 : (k : Int) < l.length := by omega
        obtain ⟨D, U, hD, hU, K2, hb2⟩ := KM.out.one (enT y) 58
        have O2 := hid (own_below HO1.out hb2)
        obtain ⟨c0, c1, c2, c3, c4⟩ := K2.out.l5 (B := D) (t := 58) (x0 := .int .u32 (y.w.w : Int)) (x1 := .int .u8 (y.w.d : Int)) (x2 := .int .i64 y.w.s) (x3 := .int .i64 y.w.l) (x4 := .int .i64 y.c) (by simp)
        obtain ⟨e0, e1, e2⟩ := K2.out.gr (B := P) (g := g) (by simp)
        have Hfk := Hf.out k y hy.out
        have Hb1 := hid (fun h => Hbad.out k y hy.out h)
        have Hnx := hid (fun (h1 : Whn.right g y.w = true) (h2 : costB y.c = true) => show ∀ i, i < k + 1 → ∀ z, l[i]? = some z → Whn.right g z.w = true ∧ costB z.c = true from fun i hi z hz => by
          rcases Nat.lt_or_ge i k with h' | h'
          · exact hsame.out i h' z hz
          · obtain rfl : i = k := by omega
            have hzy := hy.out
            rw [hz] at hzy
            rw [Option.some.inj hzy]; exact ⟨h1, h2⟩)
        clear HO1 KM hsame hcell Hbad Hiff HO Hall Hz Hml
        go_wp2_with fail
        refine (HR.out y.w hy1 _).mono ?_
        rintro e w1 ⟨rfl, b3⟩
        have K3 := hid (K2.out.next b3)
        have O3 := hid (own_below O2.out b3)
        clear c0 c1 c2 c3 c4 e0 e1 e2 O2 K2 d0 d1 d2 d3 d4 hb2 b3
        obtain ⟨c0, c1, c2, c3, c4⟩ := K3.out.l5 (B := D) (t := 58) (x0 := .int .u32 (y.w.w : Int)) (x1 := .int .u8 (y.w.d : Int)) (x2 := .int .i64 y.w.s) (x3 := .int .i64 y.w.l) (x4 := .int .i64 y.c) (by simp)
        obtain ⟨qr, hqr⟩ : ∃ q, Whn.right g y.w = q := ⟨_, rfl⟩
        obtain ⟨qc, hqc⟩ : ∃ q, costB y.c = q := ⟨_, rfl⟩
        have HC1 := hid (fun X => HC.out y.c X)
        rw [hqc] at HC1
        rw [hqr, hqc] at Hb1 Hnx
        rw [hqr]
        clear hqr hqc
        cases qr with
        | false =>
          have Hq := hid (Hb1.out rfl)
          clear Hb1 Hnx
          go_wp2_with fail
          go_ret
          exact Did.mk (by rw [Hq.out]; rfl) K3.out.2
        | true =>
          cases qc with
          | false =>
            have Hq := hid (Hb1.out rfl)
            clear Hb1 Hnx
            go_wp2_with fail
            refine (HC1.out _).mono ?_
            rintro e w2 ⟨rfl, rfl⟩
            go_wp2_with fail
            go_ret
            exact Did.mk (by rw [Hq.out]; rfl) K3.out.2
          | true =>
            have Hn := hid (Hnx.out rfl rfl)
            have K4 := hid (K3.out.sub (l' := [(P, gc g, 23)]) (by simp))
            have Hfk := hid Hfk
            have hl := Hlen.out k (by omega)
            obtain ⟨L, hL⟩ : ∃ L, ff k = L := ⟨_, rfl⟩
            rw [hL] at O3 Hfk hl
            have hn3 : L.length + 1 ≤ maxLen := by unfold maxLen; omega
            have hn4 : (L.length + 1) * 24 ≤ 140737488355328 := by omega
            have hB4 := HBw.out _ K4.out
            clear hL Hf Hlen Hb1 Hnx K3
            go_wp2_with fail
            refine (HC1.out _).mono ?_
            rintro e w2 ⟨rfl, rfl⟩
            go_wp2_with (at_builtin; refine wpList_append_own _ rfl _ _ 77 rfl (P + 1) 46 i0 (.agg #[.int .u32 0, .int .u8 0, .int .i64 0, .int .i64 0]) 4 24 Try.underlying77 hi0 hz0 hz1 hz2 rfl (by decide) _ _ _ rfl (O3.out.alloc _) ⟨_, 0, none⟩ 1 1 (wc y.w) rfl rfl (wlit_get _ _ _) (wc_one _) hn3 hn4 (le_alloc hB4 _) ?_; intro v1 w5 hown2 hgrow _)
            have bb : Below (P + 1) w1 w5 := ((Below.refl (P + 1) w1).alloc hB4 _).grown hgrow (le_alloc hB4 _) (fun k hk => (O3.out.lt k hk).1)
            have K6 : Mem w w5 [(P, gc g, 23)] := ⟨fun p hp => (K4.out.1 p hp).below bb (by
              simp only [List.mem_cons, List.not_mem_nil, or_false] at hp
              rcases hp with rfl
              show P < P + 1; omega), K4.out.2.trans (bb.mono (by have := HPw.out; omega))⟩
            refine ⟨⟨k + 1, by go_num, by omega, ?_, hid K6, Hn⟩, by simp [intOf]; omega⟩
            rw [Hfk.out, List.length_append, wcells_snoc]
            exact hid hown2
      · obtain rfl : k = l.length := by omega
        have Hi := hid (Hiff.out hsame.out)
        rw [Hall.out] at HO1
        obtain ⟨A1, c1, rfl, hw1, hc1⟩ := own_whs HO1.out
        have HO2 := hid (HO.out A1 c1 wr hw1 hc1)
        have b2 : ¬ (l.length : Int) < l.length := by omega
        clear Hf Hlen Hall Hz Hbad Hiff HO hw1 hsame
        go_wp2_with fail
        refine (HO2.out).mono ?_
        rintro e w1 ⟨b, rfl, hb, b3⟩
        have Hb := hid (show q = b from Bool.eq_iff_iff.2 (Hi.out.trans hb.symm))
        clear hb
        go_wp2_with fail
        go_ret
        exact Did.mk (by rw [Hb.out]; rfl) (KM.out.next b3).2
end Go.Proofs.Ytcnpfchopjopeaa
