/- Contracts of the program's own functions of layer 12 (person): Spread. -/
import Derived.Test.YtodhpdaoghbmcaaPerE
namespace Go.Proofs.Ytodhpdaoghbmcaa
open Go.RowKit
open Whn (Gr Wh)

theorem set_self {L : List Int} {d : Nat} {a : Int} (h : L.getD d 0 = a) (hd : d < L.length) : L.set d a = L := by
  rw [List.getD_eq_getElem?_getD, List.getElem?_eq_getElem hd] at h
  subst h
  exact List.set_getElem_self hd
theorem atS_bnd {g : Gr} (hg : Whn.rgrid g = true) {l rs : List Wh} (hp : rs.Perm (l.filter (Whn.right g))) (hs : Whn.RisS rs) (k D : Nat) : 0 ≤ (Whn.atS g (rs.take k) D).1 ∧ (Whn.atS g (rs.take k) D).1 ≤ 96 ∧ ((Whn.atS g (rs.take k) D).1 ≠ 0 → 0 ≤ (Whn.atS g (rs.take k) D).2 ∧ (Whn.atS g (rs.take k) D).2 ≤ 96) := by
  have h := Whn.invS_all (g := g) D (rs.take k) (fun x hx => (List.mem_filter.1 (hp.mem_iff.1 (List.mem_of_mem_take hx))).2) (List.Pairwise.sublist (List.take_sublist k rs) hs)
  have g1 := (Whn.rgrid_iff g).1 hg
  rcases h with ⟨h1, _⟩ | ⟨h1, h2, h3, _⟩ <;> omega
theorem atS_next {g : Gr} {rs : List Wh} {k : Nat} {x : Wh} (hx : rs[k]? = some x) (D : Nat) : Whn.atS g (rs.take (k + 1)) D = Whn.stS g D (Whn.atS g (rs.take k) D) x := by
  rw [List.take_add_one, hx]; exact Whn.atS_snoc g (rs.take k) x D
theorem stS_yes {g : Gr} {D : Nat} {x : Wh} (h : Whn.dayOn g x D = true) (z : Int × Int) : Whn.stS g D z x = (max z.1 (x.s + x.l - (if z.1 = 0 then x.s else z.2)), if z.1 = 0 then x.s else z.2) := by unfold Whn.stS; rw [if_pos h]
theorem stS_no {g : Gr} {D : Nat} {x : Wh} (h : Whn.dayOn g x D = false) (z : Int × Int) : Whn.stS g D z x = z := by unfold Whn.stS; rw [if_neg (by rw [h]; decide)]
set_option maxRecDepth 20000 in
set_option maxHeartbeats 8000000 in
theorem p_Spread (g : Gr) (l : List Wh) (A : Option Addr) (c : Nat) (hok : ∀ y ∈ l, Wok y) (hm : l.length ≤ 10000) (w : World) (h : Whs w w.heap.size A l) :
    Calls Try.prog 23 #[gv g, .slice A l.length c] w (MoRet (Whn.spread g l) w) := by
  have HG := hid (fun w => p_RightGrid g w)
  have HB := hid (fun w h => p_byStart g l A c hok hm w h)
  have HD := hid (fun y hy hg w => p_days g y hy hg w)
  have H := hid h
  obtain ⟨G, W, hG, hW, K, hb0⟩ := (Mem.nil w).one (gc g) 23
  obtain ⟨g0, g1, g2⟩ := K.out.gr (B := G) (g := g) (by simp)
  clear h hb0
  cases hgg : Whn.rgrid g with
  | false =>
    rw [hgg] at HG
    have Hr := hid (show [] = Whn.spread g l by unfold Whn.spread Whn.daysN; rw [hgg]; rfl)
    clear hgg
    go_enter Try.func23, Try.ntmps23
    go_wp2_with fail
    refine (HG.out _).mono ?_
    rintro e w1 ⟨rfl, b1⟩
    go_wp2_with fail
    go_ret
    exact ⟨_, rfl, by rw [← Hr.out]; exact World.ownsRow_nil _ _ _ _, (K.out.next b1).2⟩
  | true =>
    obtain ⟨q1, q2, q3, q4, q5, q6⟩ := (Whn.rgrid_iff g).1 hgg
    have m1 : g.w * g.d ≤ 20 * 7 := Int.mul_le_mul q2 q4 (by omega) (by omega)
    have m0 : 0 ≤ g.w * g.d := Int.mul_nonneg (by omega) (by omega)
    obtain ⟨N, hN⟩ := Int.eq_ofNat_of_zero_le m0
    have hN2 : N ≤ 140 := by omega
    have hwn : wrap64 (g.w * g.d) = (N : Int) := by rw [hN]; exact wrap64_small2 _ (by omega)
    have hdN : Whn.daysN g = N := by unfold Whn.daysN; rw [if_pos hgg, hN, Int.toNat_natCast]
    have Hgg := hid hgg
    have Hbl := hid (show (Whn.spread g l).length = N by rw [Whn.spread_len, hdN])
    rw [hgg] at HG
    rw [hdN] at HD
    have HdN := hid hdN
    obtain ⟨i0, hi0, hz0, hz1, hz2⟩ := info_parts Try.info_int
    have hb2 : i0.bytes * N ≤ 281474976710656 := by rw [hz2]; omega
    have hb3 : N ≤ maxLen := by unfold maxLen; omega
    have Hok := hid (fun (rs : List Wh) (hp : rs.Perm (l.filter (Whn.right g))) (y : Wh) (hy : y ∈ rs) => show Wok y ∧ Whn.right g y = true from by
      have := List.mem_filter.1 (hp.mem_iff.1 hy)
      exact ⟨hok y this.1, this.2⟩)
    clear hgg m0 m1 hN hdN q1 q2 q3 q4 q5 q6 hok
    go_enter Try.func23, Try.ntmps23
    go_wp2_with fail
    refine (HG.out _).mono ?_
    rintro e w1 ⟨rfl, b1⟩
    have K2 := hid (K.out.next b1)
    clear g0 g1 g2 K
    obtain ⟨g0, g1, g2⟩ := K2.out.gr (B := G) (g := g) (by simp)
    have hB0 : w.heap.size ≤ w1.heap.size := K2.out.2.size
    obtain ⟨P, hP⟩ : ∃ P, w1.heap.size = P := ⟨_, rfl⟩
    go_wp2_with (first
      | (at_make; refine wpList_make_full _ rfl _ _ 32 rfl w1.heap.size 3 i0 (.int .i64 0) 1 Try.underlying32 hi0 hz0 hz1 .i64 .i64 _ _ N rfl rfl hwn hwn hb2 hb3 (Nat.le_refl _) ?_; intro w2 hown hgrow; have K3 := hid (K2.out.next ((Below.refl _ w1).grown hgrow (Nat.le_refl _) (fun k hk => by cases hk))); have KO := hid (ob_of_full hown); clear hown hgrow)
      | (at_make; refine wpList_make_full _ rfl _ _ 32 rfl w2.heap.size 3 i0 (.int .i64 0) 1 Try.underlying32 hi0 hz0 hz1 .i64 .i64 _ _ N rfl rfl rfl rfl hb2 hb3 (Nat.le_refl _) ?_; intro w3 hown2 hgrow2; have bb2 := hid ((Below.refl w2.heap.size w2).grown hgrow2 (Nat.le_refl _) (fun k hk => by cases hk)); have KO2 := hid (ob_of_full hown2); clear g0 g1 g2; have K4 := hid (K3.out.next bb2.out); obtain ⟨g0, g1, g2⟩ := K4.out.gr (B := G) (g := g) (by simp)))
    have hGP : G < P := by
      have := (K2.out.at_ (b := G) (cs := gc g) (t := 23) (by simp)).lt
      omega
    have KP := hid (KO.out.next bb2.out)
    have hPQ : P < w2.heap.size := by
      have := KO.out.lt
      omega
    obtain ⟨Q, hQ⟩ : ∃ Q, w2.heap.size = Q := ⟨_, rfl⟩
    rw [hP, made_int, ← List.map_replicate] at KP
    rw [hQ, made_int, ← List.map_replicate] at KO2
    rw [hQ] at hPQ
    have hQR : Q < w3.heap.size := KO2.out.lt
    have KL : Hid (Mem w w3 [(Q, (List.replicate N 0).map (Value.int .i64), 3), (P, (List.replicate N 0).map (Value.int .i64), 3), (G, gc g, 23)]) := hid ⟨fun p hp => by
      simp only [List.mem_cons, List.not_mem_nil, or_false] at hp
      rcases hp with rfl | rfl | rfl
      · exact KO2.out
      · exact KP.out
      · exact K4.out.1 _ (by simp), K4.out.2⟩
    have HGP := hid (show w.heap.size ≤ G ∧ G < P ∧ P < Q from ⟨by omega, hGP, hPQ⟩)
    clear KO KO2 KP K3 K4 K2 hown2 hgrow2 bb2 hGP hPQ hb2 b1 hB0
    have H3 := hid ((H.out.below KL.out.2 (Nat.le_refl _)).more KL.out.2.size)
    have hwf := hid (full_zero N)
    generalize List.replicate N (0 : Int) = Z at *
    refine (HB.out _ H3.out).mono ?_
    rintro e w4 ⟨v, rs, rfl, hperm, hris, hown, b4⟩
    obtain ⟨R, hR⟩ : ∃ R, w3.heap.size = R := ⟨_, rfl⟩
    rw [hR] at hown hQR
    have K5 := hid (KL.out.next b4)
    obtain ⟨Ar, cr, rfl, _, hcr⟩ := own_whs hown
    have HO1 := hid hown
    have HQR := hid hQR
    have Hok1 := hid (fun y hy => Hok.out rs hperm y hy)
    have hrl : rs.length ≤ 10000 := by
      rw [hperm.length_eq]
      exact Nat.le_trans (List.length_filter_le _ _) hm
    have Hbn := hid (fun k D => atS_bnd Hgg.out hperm hris k D)
    have Hfin := hid (fun D (hD : D < Whn.daysN g) => Whn.atS_spread hperm hris hD)
    have Hnx := hid (fun k x (hx : rs[k]? = some x) D => atS_next (g := g) hx D)
    have Hz0 := hid (show (fun _ => (0, 0)) = Whn.atS g (rs.take 0) from rfl)
    rw [Hz0.out] at hwf
    clear KL hown hperm hris hQR H3 Hok HB b4 g0 g1 g2 Hz0
    generalize hAt : Whn.atS g = At at *
    obtain ⟨g0, g1, g2⟩ := K5.out.gr (B := G) (g := g) (by simp)
    go_wp2_with fail
    go_loopw [27] (fun iv wr => ∃ (k : Nat) (L M : List Int), iv = .int .i64 k ∧ k ≤ rs.length ∧ Hid (Mem w wr [(Q, M.map (Value.int .i64), 3), (P, L.map (Value.int .i64), 3), (G, gc g, 23)]) ∧ Hid (Full N (At (rs.take k)) L M) ∧ Hid (wr.ownsRow R 29 4 (.slice Ar rs.length cr) rs.length (wcells rs))) (fun iv _ => rs.length - (intOf iv).toNat)
    case atStart => exact ⟨0, Z, Z, rfl, Nat.zero_le _, K5, hwf, HO1⟩
    case round =>
      clear K5 hwf HO1 g0 g1 g2
      obtain ⟨k, L, M, rfl, hk, KM, HF, HO1⟩ := hrel
      by_cases hlt : k < rs.length
      · obtain ⟨A', c', e', hrw, _⟩ := own_whs HO1.out
        injection e' with e1 _ e2
        subst e1; subst e2
        obtain ⟨ad, y, rfl, had, hx, hxl⟩ := whs_ad hrw hlt
        have hy := Hok1.out y hxl
        have b1 : (0 : Int) ≤ (k : Int) := by omega
        have b2 : (k : Int) < rs.length := by omega
        obtain ⟨d0, d1, d2, d3⟩ := whs_at hrw hx.out
        obtain ⟨D, U, hD, hU, K2, hb2⟩ := KM.out.one (wc y) 29
        obtain ⟨c0, c1, c2, c3⟩ := K2.out.wh (B := D) (x := y) (by simp)
        obtain ⟨e0, e1, e2⟩ := K2.out.gr (B := G) (g := g) (by simp)
        have O2 := hid (own_below HO1.out hb2)
        have hQD : Q < D := by
          have := (KM.out.at_ (b := Q) (cs := M.map (Value.int .i64)) (t := 3) (by simp)).lt
          omega
        have hDU : D < U.heap.size := (K2.out.at_ (b := D) (cs := wc y) (t := 29) (by simp)).lt
        have HD1 := hid (HD.out y hy.1 Hgg.out U)
        clear hrw
        go_wp2_with fail
        refine HD1.out.mono ?_
        rintro e w5 ⟨v, rfl, ho, b3⟩
        have K3 := hid (K2.out.next b3)
        have O3 := hid (own_below O2.out b3)
        obtain ⟨Am, cm, rfl, _, hcm⟩ := own_rd ho
        have hml := dn_len g y N
        have Hdn := hid (fun i D (h : (dn g y N)[i]? = some D) => dn_of h)
        have Hdl := hid (dn_length g y N)
        have Hnd := hid (dnN_nodup g y N)
        have Hgt := hid (fun i d (h : (dnN g y N)[i]? = some d) => dnN_get h)
        have Hno := hid (fun j (hj : j < N) (h : j ∉ dnN g y N) => dnN_no hj h)
        have Hy := hid hy
        have HQD := hid hQD
        have HDU := hid hDU
        generalize dn g y N = ms at *
        generalize dnN g y N = ds at *
        clear d0 d1 d2 d3 c0 c1 c2 c3 e0 e1 e2 K2 hb2 KM b3 O2 HD1 HO1 hy hDU hQD
        go_wp2_with fail
        go_loopw [35] (fun iv wr => ∃ (i : Nat) (L M : List Int), iv = .int .i64 i ∧ i ≤ ms.length ∧ Hid (Mem w wr [(D, wc y, 29), (Q, M.map (Value.int .i64), 3), (P, L.map (Value.int .i64), 3), (G, gc g, 23)]) ∧ Hid (PSt N (At (rs.take k)) (At (rs.take (k + 1))) ds i L M) ∧ Hid (wr.ownsRow R 29 4 (.slice (some ad) rs.length cr) rs.length (wcells rs)) ∧ Hid (wr.ownsRow U.heap.size 3 1 (.slice Am ms.length cm) ms.length (ms.map (Value.int .i64)))) (fun iv _ => ms.length - (intOf iv).toNat)
        case atStart => exact ⟨0, L, M, rfl, Nat.zero_le _, K3, hid (PSt.start HF.out), O3, hid ho⟩
        case round =>
          clear K3 HF O3 ho
          obtain ⟨i, L, M, rfl, hi, KM, HP, HO1, HO2⟩ := hrel
          by_cases hil : i < ms.length
          · obtain ⟨A', c', e', hrw, _⟩ := own_rd HO2.out
            injection e' with e1 _ e2
            subst e1; subst e2
            obtain ⟨am, z, rfl, _, hz, hcz⟩ := Its.get hrw hil
            obtain ⟨d, rfl, hd⟩ := Hdn.out i z hz.out
            obtain ⟨hdN, hdy⟩ := Hgt.out i d hd
            have b3 : (0 : Int) ≤ (i : Int) := by omega
            have b4 : (i : Int) < ms.length := by omega
            have b5 : (0 : Int) ≤ (d : Int) := by omega
            have b6 : (d : Int) < (N : Int) := by omega
            obtain ⟨v1, v2⟩ := HP.out.at_ Hnd.out hd hdN
            have vB := (Hnx.out k y hx.out d).trans (stS_yes hdy _)
            obtain ⟨w1, w2, w3⟩ := Hbn.out k d
            obtain ⟨r1, r2, r3⟩ := right_bnd Hy.out.2
            have hP1 := KM.out.at_ (b := P) (cs := L.map (Value.int .i64)) (t := 3) (by simp)
            have hQ1 := KM.out.at_ (b := Q) (cs := M.map (Value.int .i64)) (t := 3) (by simp)
            have p1 := hP1.cell (cells_of_ints L d (by rw [HP.out.1]; exact hdN))
            have q1 := hQ1.cell (cells_of_ints M d (by rw [HP.out.2.1]; exact hdN))
            have p2 := hP1.free d
            have q2 := hQ1.free d
            rw [v1] at p1
            rw [v2] at q1
            have HNX := hid (HP.out.next hd hdN vB)
            have Hms := hid (fun (a : Int) (h : (At (rs.take k) d).2 = a) => set_self (v2.trans h) (by rw [HP.out.2.1]; exact hdN))
            obtain ⟨c0, c1, c2, c3⟩ := KM.out.wh (B := D) (x := y) (by simp)
            generalize (At (rs.take k) d).1 = bv at *
            generalize (At (rs.take k) d).2 = ev at *
            have hQR := HQR.out
            have hQU : Q < U.heap.size := by have := HQD.out; have := HDU.out; omega
            have hPU : P < U.heap.size := by have := HGP.out; omega
            have hPR : P < R := by have := HGP.out; omega
            obtain ⟨se, hse, Hse⟩ : ∃ se, IntKind.i64.wrap (y.s + y.l) = se ∧ Hid (se = y.s + y.l) := ⟨_, rfl, hid (IntWalk.i64_in _ (by omega))⟩
            have HneP : Hid (∀ M' : List Int, ∀ p ∈ ([(D, wc y, 29), (Q, M'.map (Value.int .i64), 3), (G, gc g, 23)] : Obs), p.1 ≠ P) := hid (fun M' p hp => by
                simp only [List.mem_cons, List.not_mem_nil, or_false] at hp
                have h1 := HGP.out
                have h2 := HQD.out
                rcases hp with rfl | rfl | rfl
                · show D ≠ P; omega
                · show Q ≠ P; omega
                · show G ≠ P; omega)
            have HneQ : Hid (∀ p ∈ ([(D, wc y, 29), (P, L.map (Value.int .i64), 3), (G, gc g, 23)] : Obs), p.1 ≠ Q) := hid (fun p hp => by
                simp only [List.mem_cons, List.not_mem_nil, or_false] at hp
                have h1 := HGP.out
                have h2 := HQD.out
                rcases hp with rfl | rfl | rfl
                · show D ≠ Q; omega
                · show P ≠ Q; omega
                · show G ≠ Q; omega)
            have HL0 := hid v1
            have HwP := hid (show w.heap.size ≤ P by have := HGP.out; omega)
            have HwQ := hid (show w.heap.size ≤ Q by have := HGP.out; omega)
            clear hP1 hQ1 v1 v2 vB
            by_cases hb0 : bv = 0
            · subst hb0
              obtain ⟨df, hdf, Hdf⟩ : ∃ df, IntKind.i64.wrap (se - y.s) = df ∧ Hid (df = se - y.s) := ⟨_, rfl, hid (IntWalk.i64_in _ (by have := Hse.out; omega))⟩
              obtain ⟨nb, hnb, Hnb⟩ : ∃ nb, max 0 df = nb ∧ Hid (nb = max 0 df) := ⟨_, rfl, hid rfl⟩
              have HNX1 := hid (show PSt N _ _ ds (i + 1) (L.set d nb) (M.set d y.s) from by
                have h := HNX.out
                rw [if_pos rfl] at h
                have e1 : max 0 (y.s + y.l - y.s) = nb := by rw [Hnb.out, Hdf.out, Hse.out]
                rwa [e1] at h)
              have KN1 := hid ((KM.out.sub (l' := [(Q, M.map (Value.int .i64), 3), (D, wc y, 29), (P, L.map (Value.int .i64), 3), (G, gc g, 23)]) (by intro p hp; simp only [List.mem_cons, List.not_mem_nil, or_false] at hp ⊢; rcases hp with rfl | rfl | rfl | rfl <;> simp)).set HwQ.out HneQ.out d (.int .i64 y.s))
              rw [← List.map_set] at KN1
              have O4 := hid (own_set HO1.out (p := ⟨Q, d, none⟩) hQR (.int .i64 y.s))
              have O5 := hid (own_set HO2.out (p := ⟨Q, d, none⟩) hQU (.int .i64 y.s))
              have HML := HP.out
              clear HNX KM HP HO1 HO2 hrw Hms
              go_wp2_with fail
              clear c0 c1 c2 c3 p1 q1 p2 q2 hcz
              have hP1 := KN1.out.at_ (b := P) (cs := L.map (Value.int .i64)) (t := 3) (by simp)
              have hQ1 := KN1.out.at_ (b := Q) (cs := (M.set d y.s).map (Value.int .i64)) (t := 3) (by simp)
              have p1 := hP1.cell (cells_of_ints L d (by rw [HML.1]; exact hdN))
              have q1 := hQ1.cell (cells_of_ints (M.set d y.s) d (by rw [List.length_set, HML.2.1]; exact hdN))
              have e0 : L.getD d 0 = 0 := HL0.out
              rw [e0] at p1
              rw [getD_set_int _ _ _ _ (by rw [HML.2.1]; exact hdN), if_pos rfl] at q1
              have p2 := hP1.free d
              obtain ⟨c0, c1, c2, c3⟩ := KN1.out.wh (B := D) (x := y) (by simp)
              go_region
              have KN2 := hid ((KN1.out.sub (l' := [(P, L.map (Value.int .i64), 3), (D, wc y, 29), (Q, (M.set d y.s).map (Value.int .i64), 3), (G, gc g, 23)]) (by intro p hp; simp only [List.mem_cons, List.not_mem_nil, or_false] at hp ⊢; rcases hp with rfl | rfl | rfl | rfl <;> simp)).set HwP.out (HneP.out _) d (.int .i64 nb)).drew
              rw [← List.map_set] at KN2
              have KN3 := hid (KN2.out.sub (l' := [(D, wc y, 29), (Q, (M.set d y.s).map (Value.int .i64), 3), (P, (L.set d nb).map (Value.int .i64), 3), (G, gc g, 23)]) (by intro p hp; simp only [List.mem_cons, List.not_mem_nil, or_false] at hp ⊢; rcases hp with rfl | rfl | rfl | rfl <;> simp))
              have O6 := hid (own_set O4.out (p := ⟨P, d, none⟩) hPR (.int .i64 nb)).drew
              have O7 := hid (own_set O5.out (p := ⟨P, d, none⟩) hPU (.int .i64 nb)).drew
              clear KN1 KN2 hP1 hQ1 p1 p2 q1 c0 c1 c2 c3 O4 O5 HML
              go_wp2_with fail
              exact ⟨⟨i + 1, _, _, by go_num, by omega, KN3, HNX1, O6, O7⟩, by simp [intOf]; omega⟩
            · have w4 := w3 hb0
              have hbf : (bv == 0) = false := by rw [beq_eq_false_iff_ne]; exact hb0
              obtain ⟨df, hdf, Hdf⟩ : ∃ df, IntKind.i64.wrap (se - ev) = df ∧ Hid (df = se - ev) := ⟨_, rfl, hid (IntWalk.i64_in _ (by have := Hse.out; omega))⟩
              obtain ⟨nb, hnb, Hnb⟩ : ∃ nb, max bv df = nb ∧ Hid (nb = max bv df) := ⟨_, rfl, hid rfl⟩
              have HNX1 := hid (show PSt N _ _ ds (i + 1) (L.set d nb) M from by
                have h := HNX.out
                rw [if_neg hb0] at h
                have e1 : max bv (y.s + y.l - ev) = nb := by rw [Hnb.out, Hdf.out, Hse.out]
                rw [e1, Hms.out _ rfl] at h
                exact h)
              have KN2 := hid ((KM.out.sub (l' := [(P, L.map (Value.int .i64), 3), (D, wc y, 29), (Q, M.map (Value.int .i64), 3), (G, gc g, 23)]) (by intro p hp; simp only [List.mem_cons, List.not_mem_nil, or_false] at hp ⊢; rcases hp with rfl | rfl | rfl | rfl <;> simp)).set HwP.out (HneP.out _) d (.int .i64 nb)).drew
              rw [← List.map_set] at KN2
              have KN3 := hid (KN2.out.sub (l' := [(D, wc y, 29), (Q, M.map (Value.int .i64), 3), (P, (L.set d nb).map (Value.int .i64), 3), (G, gc g, 23)]) (by intro p hp; simp only [List.mem_cons, List.not_mem_nil, or_false] at hp ⊢; rcases hp with rfl | rfl | rfl | rfl <;> simp))
              have O6 := hid (own_set HO1.out (p := ⟨P, d, none⟩) hPR (.int .i64 nb)).drew
              have O7 := hid (own_set HO2.out (p := ⟨P, d, none⟩) hPU (.int .i64 nb)).drew
              clear HNX KM HP HO1 HO2 hrw Hms w3 hb0 KN2
              go_wp2_with fail
              go_region
              go_wp2_with fail
              exact ⟨⟨i + 1, _, _, by go_num, by omega, KN3, HNX1, O6, O7⟩, by simp [intOf]; omega⟩
          · obtain rfl : i = ms.length := by omega
            have b4 : ¬ ((ms.length : Nat) : Int) < ms.length := by omega
            have HF2 := hid (show Full N (At (rs.take (k + 1))) L M from by
              have h := HP.out
              rw [Hdl.out] at h
              exact h.full (fun j hj hn => (Hnx.out k y hx.out j).trans (stS_no (Hno.out j hj hn) _)))
            have K6 := hid (KM.out.sub (l' := [(Q, M.map (Value.int .i64), 3), (P, L.map (Value.int .i64), 3), (G, gc g, 23)]) (by intro p hp; simp only [List.mem_cons, List.not_mem_nil, or_false] at hp ⊢; rcases hp with rfl | rfl | rfl <;> simp))
            clear KM HP HO2
            go_wp2_with fail
            exact ⟨⟨k + 1, _, _, by go_num, by omega, K6, HF2, HO1⟩, by simp [intOf]; omega⟩
      · obtain rfl : k = rs.length := by omega
        have b2 : ¬ ((rs.length : Nat) : Int) < rs.length := by omega
        have HL : Hid (L = Whn.spread g l) := hid (HF.out.first Hbl.out (fun j hj => by
          rw [List.take_length, Hfin.out j (by rw [HdN.out]; exact hj)]
          unfold Whn.spread
          rw [List.getElem?_map, List.getElem?_range (by rw [HdN.out]; exact hj)]; rfl))
        have hO := KM.out.at_ (b := P) (cs := L.map (Value.int .i64)) (t := 3) (by simp)
        have hOw := hid (own_of_ob hO (N := N) (base := w.heap.size) (by rw [List.length_map]; exact HF.out.1) (by have := HGP.out; omega) hb3)
        rw [HL.out] at hOw
        have hb := KM.out.2
        clear KM HF HO1 hO HL
        go_wp2_with fail
        go_ret
        exact ⟨_, rfl, by rw [Hbl.out]; exact hOw.out, hb⟩
end Go.Proofs.Ytodhpdaoghbmcaa
