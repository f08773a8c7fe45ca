/- Contract of the program's own Open (layer 11). -/
import Derived.Test.YtodhpdaoghbmcaaRomP
import Derived.Test.YtodhpdaoghbmcaaRomN
import Derived.Test.YtodhpdaoghbmcaaRomV
namespace Go.Proofs.Ytodhpdaoghbmcaa
open Go.RowKit
open Whn (Gr Wh)

theorem Try.info_bool : (Try.prog.info? 4).map (fun i => (i.zero, i.size, i.bytes)) = some (some (.bool false), 1, 1) := by kernel_rfl
theorem made_bool (n : Nat) : (madeCells (Value.bool false).cells (n * 1)).toList = List.replicate n (.bool false) := by
  rw [Nat.mul_one]; exact toList_madeCells_one _ _
/-- a full row of the call's own is a struct in memory -/
theorem ob_of_full {w : World} {base g N : Nat} {e : TypeId} {xs : List Value} (h : w.ownsRow base e 1 (.slice (some ⟨g, 0, none⟩) N N) N xs) : Ob w g xs e := by
  rcases h.2 with ⟨hv, _⟩ | ⟨g1, cap, cur, hv, _, hg, _, _, hcs, htake⟩
  · injection hv with h1; cases h1
  injection hv with h1 _ h3
  injection h1 with h1
  injection h1 with h1
  subst h1
  subst h3
  unfold Ob
  rw [hg, ← htake, List.take_of_length_le (by rw [Array.length_toList, hcs]; exact Nat.le_refl _)]
theorem cells_of_bools (L : List Bool) (j : Nat) (h : j < L.length) : (L.map Value.bool)[j]? = some (.bool (L.getD j false)) := by
  rw [List.getElem?_map, List.getD_eq_getElem?_getD, List.getElem?_eq_getElem h]; rfl
theorem mem_moments {g : Gr} {x : Wh} {N : Nat} (hN : Whn.all g = (N : Int)) (hr : Whn.right g x = true) (j : Nat) (hj : j < N) : decide ((j : Int) ∈ Whn.moments g x) = Whn.onM g x (j : Int) := by
  unfold Whn.moments Whn.upto
  rw [if_pos hr, hN, Int.toNat_natCast, Bool.eq_iff_iff, decide_eq_true_iff, List.mem_filter, List.mem_map]
  exact ⟨fun h => h.2, fun h => ⟨⟨j, List.mem_range.2 hj, rfl⟩, h⟩⟩
theorem moments_in {g : Gr} {x : Wh} {N : Nat} (hN : Whn.all g = (N : Int)) (hr : Whn.right g x = true) {y : Int} (hy : y ∈ Whn.moments g x) : ∃ m : Nat, y = (m : Int) ∧ m < N := by
  unfold Whn.moments Whn.upto at hy
  rw [if_pos hr, hN, Int.toNat_natCast, List.mem_filter, List.mem_map] at hy
  obtain ⟨⟨m, hm, rfl⟩, _⟩ := hy
  exact ⟨m, rfl, List.mem_range.1 hm⟩
theorem getD_set (L : List Bool) (m j : Nat) (hm : m < L.length) : (L.set m true).getD j false = (L.getD j false || decide (j = m)) := by
  rw [List.getD_eq_getElem?_getD, List.getD_eq_getElem?_getD, List.getElem?_set]
  by_cases e : m = j
  · subst e
    rw [if_pos rfl, if_pos hm]
    simp
  · rw [if_neg e, decide_eq_false (fun h => e h.symm), Bool.or_false]
set_option maxRecDepth 4000 in
set_option maxHeartbeats 8000000 in
theorem p_Open (g : Gr) (r : Rm) (A : Option Addr) (c : Nat) (hok : Rok r) (hm : r.l.length ≤ maxLen) (w : World) (h : Whs w w.heap.size A r.l) :
    Calls Try.prog 43 #[gv g, rv r A c] w (ItRet (if rmRight g r then opn g r.l (Whn.all g).toNat else []) w) := by
  have HR := hid (fun w h => p_RightRoom g r A c hok hm w h)
  have HM := hid (fun x hx w => p_MomentsO g x hx w)
  have H := hid h
  have HO := hid hok.2.2.2
  obtain ⟨P, W, hP, hW, K, hb0⟩ := (Mem.nil w).one (gc g) 23
  obtain ⟨R, V, hR, hV, K1, hb1⟩ := K.out.one (rc r A c) 63
  obtain ⟨g0, g1, g2⟩ := K1.out.gr (B := P) (g := g) (by simp)
  obtain ⟨r0, r1, r2, r3⟩ := K1.out.rm (B := R) (r := r) (A := A) (c := c) (by simp)
  have HV := hid (HR.out V ((H.out.below K1.out.2 (Nat.le_refl _)).more K1.out.2.size))
  clear K hb0 hb1 HR
  cases hT : rmRight g r with
  | false =>
    rw [hT] at HV
    go_enter Try.func43, Try.ntmps43
    go_wp2_with fail
    refine HV.out.mono ?_
    rintro e w1 ⟨rfl, b1⟩
    go_wp2_with fail
    go_ret
    exact ItRet.mk (l := []) (Rd.none_ _ _ _) (K1.out.next b1).2 rfl
  | true =>
    rw [hT] at HV
    have hg : Whn.rgrid g = true := by
      unfold rmRight at hT
      simp only [Bool.and_eq_true] at hT
      exact hT.1.1.1.1
    have hall : r.l.all (Whn.right g) = true := by
      unfold rmRight at hT
      simp only [Bool.and_eq_true] at hT
      exact hT.2.1
    have ha := Whn.all_le g
    obtain ⟨q1, q2, q3, q4, q5, q6⟩ := (Whn.rgrid_iff g).1 hg
    have HA : Whn.all g = g.w * g.d * g.s := by unfold Whn.all; rw [if_pos hg]
    obtain ⟨N, hN⟩ := Int.eq_ofNat_of_zero_le ha.1
    have m1 : g.w * g.d ≤ 20 * 7 := Int.mul_le_mul q2 q4 (by omega) (by omega)
    have m0 : 0 ≤ g.w * g.d := Int.mul_nonneg (by omega) (by omega)
    have hwm : wrap64 (g.w * g.d) = g.w * g.d := by unfold wrap64; omega
    have hwn : wrap64 (wrap64 (g.w * g.d) * g.s) = (N : Int) := by
      rw [hwm, ← HA, hN]; unfold wrap64; omega
    clear hwm m0 m1
    have HN := hid hN
    have hN2 : N ≤ 13440 := by omega
    have hNt : (Whn.all g).toNat = N := by omega
    rw [if_pos rfl, hNt]
    have Hall := hid hall
    have Hgr := hid hg
    obtain ⟨i0, hi0, hz0, hz1, hz2⟩ := info_parts Try.info_bool
    have hb2 : i0.bytes * N ≤ 281474976710656 := by rw [hz2]; omega
    have hb3 : N ≤ maxLen := by unfold maxLen; omega
    clear hNt hN HA ha q1 q2 q3 q4 q5 q6 hg hall hT hok h
    unfold maxLen at hm
    go_enter Try.func43, Try.ntmps43
    go_wp2_with fail
    refine HV.out.mono ?_
    rintro e w1 ⟨rfl, b1⟩
    have K2 := hid (K1.out.next b1)
    clear g0 g1 g2 r0 r1 r2 r3
    obtain ⟨g0, g1, g2⟩ := K2.out.gr (B := P) (g := g) (by simp)
    obtain ⟨r0, r1, r2, r3⟩ := K2.out.rm (B := R) (r := r) (A := A) (c := c) (by simp)
    have hB0 : w.heap.size ≤ w1.heap.size := K2.out.2.size
    obtain ⟨G, hG⟩ : ∃ G, w1.heap.size = G := ⟨_, rfl⟩
    go_wp2_with (at_make; refine wpList_make_full _ rfl _ _ 81 rfl w1.heap.size 4 i0 (.bool false) 1 Try.underlying81 hi0 hz0 hz1 .i64 .i64 _ _ N rfl rfl hwn hwn hb2 hb3 (Nat.le_refl _) ?_; intro w2 hown hgrow; have bb : Below w1.heap.size w1 w2 := (Below.refl _ w1).grown hgrow (Nat.le_refl _) (fun k hk => by cases hk); have K3 := hid (K2.out.next bb); clear r0 r1 r2 r3 g0 g1 g2; obtain ⟨r0, r1, r2, r3⟩ := K3.out.rm (B := R) (r := r) (A := A) (c := c) (by simp))
    have hPG : P < G ∧ w.heap.size ≤ G := by
      have q1 := (K2.out.at_ (b := P) (cs := gc g) (t := 23) (by simp)).lt
      omega
    have HPG := hid hPG
    have hOb : Ob w2 G ((List.replicate N false).map Value.bool) 4 := by
      rw [made_bool] at hown
      rw [List.map_replicate]
      exact ob_of_full (by rw [← hG]; exact hown)
    have KL : Hid (Mem w w2 [(G, (List.replicate N false).map Value.bool, 4), (P, gc g, 23)]) := hid ⟨fun p hp => by
      simp only [List.mem_cons, List.not_mem_nil, or_false] at hp
      rcases hp with rfl | rfl
      · exact hOb
      · exact K3.out.1 _ (by simp), K3.out.2⟩
    clear r0 r1 r2 r3 hown hgrow bb K3 K2 b1 hOb hB0 hb2 hb3 HV K1 hi0 hz0 hz1 hz2
    go_loopw [28] (fun iv wr => ∃ (k : Nat) (L : List Bool), iv = .int .i64 k ∧ k ≤ r.l.length ∧ Hid (Mem w wr [(G, L.map Value.bool, 4), (P, gc g, 23)]) ∧ Hid (L.length = N) ∧ Hid (∀ j, j < N → L.getD j false = (r.l.take k).any fun x => Whn.onM g x (j : Int))) (fun iv _ => r.l.length - (intOf iv).toNat)
    case atStart => exact ⟨0, _, rfl, Nat.zero_le _, KL, hid List.length_replicate, hid (fun j hj => by rw [List.getD_eq_getElem?_getD, List.getElem?_replicate, if_pos hj]; rfl)⟩
    case round =>
      clear KL
      obtain ⟨k, L, rfl, hk, KM, HL, HP⟩ := hrel
      by_cases hlt : k < r.l.length
      · obtain ⟨ad, y, rfl, had, hx, hxl⟩ := whs_ad H.out hlt
        have hy1 : Wok y := HO.out _ hxl
        have Hyr := hid (List.all_eq_true.1 Hall.out y hxl)
        have b1 : (0 : Int) ≤ (k : Int) := by omega
        have b2 : (k : Int) < r.l.length := by omega
        have H1 := H.out.below KM.out.2 (Nat.le_refl _)
        obtain ⟨d0, d1, d2, d3⟩ := whs_at H1 hx.out
        obtain ⟨D, U, hD, hU, K2, hb2⟩ := KM.out.one (wc y) 29
        obtain ⟨c0, c1, c2, c3⟩ := K2.out.wh (B := D) (x := y) (by simp)
        obtain ⟨e0, e1, e2⟩ := K2.out.gr (B := P) (g := g) (by simp)
        go_wp2_with fail
        refine (HM.out y hy1 _).mono ?_
        rintro e w3 ⟨v, rfl, ho, b3⟩
        have hGU : G < U.heap.size := (K2.out.at_ (b := G) (cs := L.map Value.bool) (t := 4) (by simp)).lt
        have K3 := hid ((K2.out.next b3).sub (l' := [(G, L.map Value.bool, 4), (P, gc g, 23)]) (by simp))
        obtain ⟨Am, cm, rfl, _, hcm⟩ := own_rd ho
        have Hmm := hid (mem_moments HN.out Hyr.out)
        have Hmi := hid (fun y (hy : y ∈ Whn.moments g _) => moments_in HN.out Hyr.out hy)
        have hml := Whn.moments_len g y
        have Hnx := hid (fun j : Nat => any_next r.l (fun x => Whn.onM g x (j : Int)) k y hx.out)
        generalize hms : Whn.moments g y = ms at *
        clear hms d0 d1 d2 d3 c0 c1 c2 c3 e0 e1 e2 K2 hb2 H1 KM b3
        go_wp2_with fail
        go_loopw [36] (fun iv wr => ∃ (i : Nat) (M : List Bool), iv = .int .i64 i ∧ i ≤ ms.length ∧ Hid (Mem w wr [(G, M.map Value.bool, 4), (P, gc g, 23)]) ∧ Hid (M.length = N) ∧ Hid (∀ j, j < N → M.getD j false = ((r.l.take k).any (fun x => Whn.onM g x (j : Int)) || decide ((j : Int) ∈ ms.take i))) ∧ Hid (wr.ownsRow U.heap.size 3 1 (.slice Am ms.length cm) ms.length (ms.map (Value.int .i64)))) (fun iv _ => ms.length - (intOf iv).toNat)
        case atStart => exact ⟨0, L, rfl, Nat.zero_le _, K3, HL, hid (fun j hj => by rw [HP.out j hj]; simp), hid ho⟩
        case round =>
          clear K3 HL HP ho
          obtain ⟨i, M, rfl, hi, KM, HL, HP, HW⟩ := hrel
          by_cases hil : i < ms.length
          · obtain ⟨A', c', e', hr, _⟩ := own_rd HW.out
            injection e' with e1 _ e2
            subst e1; subst e2
            obtain ⟨am, z, rfl, _, hz, hcz⟩ := Its.get hr hil
            obtain ⟨m, rfl, hmN⟩ := Hmi.out z (List.mem_of_getElem? hz.out)
            have b3 : (0 : Int) ≤ (i : Int) := by omega
            have b4 : (i : Int) < ms.length := by omega
            have b5 : (0 : Int) ≤ (m : Int) := by omega
            have b6 : (m : Int) < (N : Int) := by omega
            have hO := KM.out.at_ (b := G) (cs := M.map Value.bool) (t := 4) (by simp)
            have hcg := hO.cell (cells_of_bools M m (by rw [HL.out]; exact hmN))
            have hfg := hO.free m
            have KN := hid (KM.out.set HPG.out.2 (by
              intro p hp
              simp only [List.mem_cons, List.not_mem_nil, or_false] at hp
              subst hp
              have := HPG.out
              show P ≠ G; omega) m (.bool true))
            rw [show (M.map Value.bool).set m (Value.bool true) = (M.set m true).map Value.bool from (List.map_set ..).symm] at KN
            have HWN := hid (own_set HW.out (p := ⟨G, m, none⟩) (show G < U.heap.size from hGU) (.bool true))
            have HLN := hid (show (M.set m true).length = N by rw [List.length_set]; exact HL.out)
            have HPN := hid (show ∀ j, j < N → (M.set m true).getD j false = ((r.l.take k).any (fun x => Whn.onM g x (j : Int)) || decide ((j : Int) ∈ ms.take (i + 1))) from fun j hj => by
              rw [getD_set _ _ _ (by rw [HL.out]; exact hmN), HP.out j hj, List.take_add_one, hz.out, Bool.or_assoc]
              congr 1
              rw [Bool.eq_iff_iff]
              simp only [Bool.or_eq_true, decide_eq_true_iff, List.mem_append, Option.toList_some, List.mem_singleton]
              constructor
              · rintro (h | h)
                · exact .inl h
                · exact .inr (by omega)
              · rintro (h | h)
                · exact .inl h
                · exact .inr (by omega))
            clear hr HW KM HP HL hO
            go_wp2_with fail
            exact ⟨⟨i + 1, _, by go_num, by omega, KN, HLN, HPN, HWN⟩, by simp [intOf]; omega⟩
          · obtain rfl : i = ms.length := by omega
            have b4 : ¬ ((ms.length : Nat) : Int) < ms.length := by omega
            have HPN := hid (show ∀ j, j < N → M.getD j false = (r.l.take (k + 1)).any fun x => Whn.onM g x (j : Int) from fun j hj => by
              rw [HP.out j hj, List.take_length, Hmm.out j hj, Hnx.out j])
            clear HP HW
            go_wp2_with fail
            exact ⟨⟨k + 1, _, by go_num, by omega, KM, HL, HPN⟩, by simp [intOf]; omega⟩
      · obtain rfl : k = r.l.length := by omega
        have b4 : ¬ ((r.l.length : Nat) : Int) < r.l.length := by omega
        have HF := hid (show ∀ j, j < N → L.getD j false = !(free g r.l (j : Int)) from fun j hj => by
          rw [HP.out j hj, List.take_length]
          unfold free
          rw [Bool.not_not])
        clear HP HM HO H
        go_wp2_with fail
        obtain ⟨i0, hi0, hz0, hz1, hz2⟩ := info_parts Try.info_int
        have Hz := hid (show opn g r.l 0 = [] from rfl)
        have Hsu := hid (opn_succ g r.l)
        have Hln := hid (opn_len g r.l)
        have HBw := hid (show ∀ X : World, Mem w X [(G, L.map Value.bool, 4), (P, gc g, 23)] → G + 1 ≤ X.heap.size from fun X h => (h.at_ (b := G) (cs := L.map Value.bool) (t := 4) (by simp)).lt)
        generalize hoo : opn g r.l = oo at *
        clear hoo b4
        go_loopw [10, 47] (fun lv iv wr => ∃ m : Nat, iv = .int .i64 m ∧ m ≤ N ∧ Hid (wr.ownsRow (G + 1) 3 1 lv (oo m).length ((oo m).map (Value.int .i64))) ∧ Hid (Mem w wr [(G, L.map Value.bool, 4), (P, gc g, 23)])) (fun _ iv _ => N - (intOf iv).toNat)
        case atStart => exact ⟨0, rfl, Nat.zero_le _, by rw [Hz.out]; exact hid (World.ownsRow_nil _ _ _ _), KM⟩
        case round =>
          clear KM
          obtain ⟨m, rfl, hmN, HO1, KM⟩ := hrel
          by_cases hml : m < N
          · have b5 : (0 : Int) ≤ (m : Int) := by omega
            have b6 : (m : Int) < (N : Int) := by omega
            have hcg := (KM.out.at_ (b := G) (cs := L.map Value.bool) (t := 4) (by simp)).cell (cells_of_bools L m (by rw [HL.out]; exact hml))
            rw [HF.out m hml] at hcg
            have Hs1 := hid (Hsu.out m)
            cases hfr : free g r.l (m : Int) with
            | false =>
              rw [hfr] at Hs1 hcg
              rw [if_neg (by simp), List.append_nil] at Hs1
              clear hfr
              go_wp2_with fail
              exact ⟨⟨m + 1, by go_num, by omega, by rw [Hs1.out]; exact HO1, KM⟩, by simp [intOf]; omega⟩
            | true =>
              rw [hfr] at Hs1 hcg
              rw [if_pos rfl] at Hs1
              have hl2 := Hln.out m
              have hn3 : (oo m).length + 1 ≤ maxLen := by unfold maxLen; omega
              have hn4 : ((oo m).length + 1) * 8 ≤ 140737488355328 := by omega
              have hB4 := HBw.out _ KM.out
              clear hfr
              go_wp2_with (at_builtin; refine wpList_append_own _ rfl _ _ 32 rfl (G + 1) 3 i0 (.int .i64 0) 1 8 Try.underlying32 hi0 hz0 hz1 hz2 rfl (by decide) _ _ _ rfl (HO1.out.alloc _) ⟨_, 0, none⟩ 1 1 [.int .i64 _] rfl rfl (lit_one _ _ _) (int_one _ _) hn3 hn4 (le_alloc hB4 _) ?_; intro v1 w5 hown2 hgrow _)
              have bb : Below (G + 1) wr w5 := ((Below.refl (G + 1) wr).alloc hB4 _).grown hgrow (le_alloc hB4 _) (fun k hk => (HO1.out.lt k hk).1)
              have K6 : Mem w w5 [(G, L.map Value.bool, 4), (P, gc g, 23)] := ⟨fun p hp => (KM.out.1 p hp).below bb (by
                have hAB := HPG.out
                simp only [List.mem_cons, List.not_mem_nil, or_false] at hp
                rcases hp with rfl | rfl
                · show G < G + 1; omega
                · show P < G + 1; omega), KM.out.2.trans (bb.mono (by have hAB := HPG.out; omega))⟩
              refine ⟨⟨m + 1, by go_num, by omega, ?_, hid K6⟩, by simp [intOf]; omega⟩
              rw [Hs1.out, List.length_append, List.map_append]
              exact hid hown2
          · obtain rfl : m = N := by omega
            have b6 : ¬ ((m : Nat) : Int) < (m : Int) := by omega
            have HO5 := HO1.out
            clear Hsu Hln HF
            go_wp2_with fail
            go_ret
            obtain ⟨A1, cc, rfl, hr, hc⟩ := own_rd HO5
            exact ⟨A1, cc, rfl, hr, KM.out.2⟩
end Go.Proofs.Ytodhpdaoghbmcaa
