/- Contracts of the program's own functions of layer 12 (person): how rows of numbers are made day by day; Busy. -/
import Derived.Test.YtjjmajhldpoobaaPerC
import Derived.Test.YtjjmajhldpoobaaPerDm
namespace Go.Proofs.Ytjjmajhldpoobaa
open Go.RowKit
open Whn (Gr Wh)

theorem getD_set_int (L : List Int) (d j : Nat) (a : Int) (hd : d < L.length) : (L.set d a).getD j 0 = if j = d then a else L.getD j 0 := by
  rw [List.getD_eq_getElem?_getD, List.getD_eq_getElem?_getD, List.getElem?_set]
  by_cases e : d = j
  · subst e
    rw [if_pos rfl, if_pos rfl, if_pos hd]; rfl
  · rw [if_neg e, if_neg (fun h => e h.symm)]
/-- two rows of numbers, of which the first days stand as they will, and the others as they did -/
def PSt (N : Nat) (A B : Nat → Int × Int) (ds : List Nat) (i : Nat) (L M : List Int) : Prop :=
  L.length = N ∧ M.length = N ∧ ∀ j, j < N → L.getD j 0 = (if j ∈ ds.take i then B j else A j).1 ∧ M.getD j 0 = (if j ∈ ds.take i then B j else A j).2
/-- .. all as they will -/
def Full (N : Nat) (A : Nat → Int × Int) (L M : List Int) : Prop := L.length = N ∧ M.length = N ∧ ∀ j, j < N → L.getD j 0 = (A j).1 ∧ M.getD j 0 = (A j).2
theorem PSt.start {N : Nat} {A B : Nat → Int × Int} {ds : List Nat} {L M : List Int} (h : Full N A L M) : PSt N A B ds 0 L M :=
  ⟨h.1, h.2.1, fun j hj => by rw [List.take_zero, if_neg (by simp)]; exact h.2.2 j hj⟩
theorem PSt.at_ {N : Nat} {A B : Nat → Int × Int} {ds : List Nat} {i : Nat} {L M : List Int} (h : PSt N A B ds i L M) (hn : ds.Nodup) {d : Nat} (hd : ds[i]? = some d) (hdN : d < N) : L.getD d 0 = (A d).1 ∧ M.getD d 0 = (A d).2 := by
  have := h.2.2 d hdN
  rw [if_neg (fun hm => ?_)] at this
  · exact this
  · obtain ⟨k, hk, e⟩ := List.mem_iff_getElem.1 hm
    rw [List.length_take] at hk
    rw [List.getElem_take] at e
    obtain ⟨hi, e2⟩ := List.getElem?_eq_some_iff.1 hd
    have := List.pairwise_iff_getElem.1 hn k i (by omega) hi (by omega)
    exact this (e.trans e2.symm)
theorem PSt.next {N : Nat} {A B : Nat → Int × Int} {ds : List Nat} {i : Nat} {L M : List Int} (h : PSt N A B ds i L M) {d : Nat} (hd : ds[i]? = some d) (hdN : d < N) {a b : Int} (hB : B d = (a, b)) : PSt N A B ds (i + 1) (L.set d a) (M.set d b) := by
  refine ⟨by rw [List.length_set]; exact h.1, by rw [List.length_set]; exact h.2.1, fun j hj => ?_⟩
  rw [getD_set_int _ _ _ _ (by rw [h.1]; exact hdN), getD_set_int _ _ _ _ (by rw [h.2.1]; exact hdN), List.take_add_one, hd]
  by_cases e : j = d
  · subst e
    rw [if_pos rfl, if_pos rfl, if_pos (List.mem_append_right _ (by simp)), hB]
    exact ⟨rfl, rfl⟩
  · rw [if_neg e, if_neg e, (h.2.2 j hj).1, (h.2.2 j hj).2]
    have : (j ∈ ds.take i ++ (some d).toList) ↔ j ∈ ds.take i := by simp [e]
    by_cases hm : j ∈ ds.take i
    · rw [if_pos hm, if_pos (this.2 hm)]; exact ⟨rfl, rfl⟩
    · rw [if_neg hm, if_neg (fun h => hm (this.1 h))]; exact ⟨rfl, rfl⟩
theorem PSt.full {N : Nat} {A B : Nat → Int × Int} {ds : List Nat} {L M : List Int} (h : PSt N A B ds ds.length L M) (hno : ∀ j, j < N → j ∉ ds → B j = A j) : Full N B L M :=
  ⟨h.1, h.2.1, fun j hj => by
    have := h.2.2 j hj
    rw [List.take_length] at this
    by_cases hm : j ∈ ds
    · rwa [if_pos hm] at this
    · rw [if_neg hm] at this
      rw [hno j hj hm]; exact this⟩
theorem full_zero (N : Nat) : Full N (fun _ => (0, 0)) (List.replicate N 0) (List.replicate N 0) :=
  ⟨List.length_replicate, List.length_replicate, fun j hj => by
    rw [List.getD_eq_getElem?_getD, List.getElem?_replicate, if_pos hj]; exact ⟨rfl, rfl⟩⟩
theorem Full.first {N : Nat} {A : Nat → Int × Int} {L M : List Int} (h : Full N A L M) {out : List Int} (hl : out.length = N) (ho : ∀ j, j < N → out[j]? = some (A j).1) : L = out := by
  refine List.ext_getElem? fun j => ?_
  by_cases hj : j < N
  · have e := (h.2.2 j hj).1
    rw [List.getD_eq_getElem?_getD, List.getElem?_eq_getElem (by rw [h.1]; exact hj)] at e
    rw [ho j hj, List.getElem?_eq_getElem (by rw [h.1]; exact hj)]
    exact congrArg some e
  · rw [List.getElem?_eq_none (by rw [h.1]; omega), List.getElem?_eq_none (by rw [hl]; omega)]
theorem cells_of_ints (L : List Int) (j : Nat) (h : j < L.length) : (L.map (Value.int .i64))[j]? = some (.int .i64 (L.getD j 0)) := by
  rw [List.getElem?_map, List.getD_eq_getElem?_getD, List.getElem?_eq_getElem h]; rfl
theorem made_int (n : Nat) : (madeCells (Value.int .i64 0).cells (n * 1)).toList = List.replicate n (.int .i64 0) := by
  rw [Nat.mul_one]; exact toList_madeCells_one _ _
theorem own_of_ob {X : World} {B N base : Nat} {cs : List Value} {t : TypeId} (h : Ob X B cs t) (hl : cs.length = N) (hb : base ≤ B) (hm : N ≤ maxLen) : X.ownsRow base t 1 (.slice (some ⟨B, 0, none⟩) N N) N cs :=
  ⟨by rw [hl, Nat.mul_one], .inr ⟨B, N, cs.toArray, rfl, hb, h, Nat.le_refl _, hm, by simp [hl], by simp [← hl]⟩⟩
theorem dnN_nodup (g : Gr) (x : Wh) (k : Nat) : (dnN g x k).Nodup := by unfold dnN; exact List.Pairwise.filter _ List.nodup_range
theorem dnN_get {g : Gr} {x : Wh} {k i d : Nat} (h : (dnN g x k)[i]? = some d) : d < k ∧ Whn.dayOn g x d = true := by
  have hm := List.mem_of_getElem? h
  unfold dnN at hm
  obtain ⟨h1, h2⟩ := List.mem_filter.1 hm
  exact ⟨List.mem_range.1 h1, h2⟩
theorem dnN_no {g : Gr} {x : Wh} {k j : Nat} (hj : j < k) (h : j ∉ dnN g x k) : Whn.dayOn g x j = false := by
  cases hd : Whn.dayOn g x j with
  | false => rfl
  | true => exact absurd (by unfold dnN; exact List.mem_filter.2 ⟨List.mem_range.2 hj, hd⟩) h
theorem dn_of {g : Gr} {x : Wh} {k i : Nat} {D : Int} (h : (dn g x k)[i]? = some D) : ∃ d : Nat, D = (d : Int) ∧ (dnN g x k)[i]? = some d := by
  unfold dn at h
  rw [List.getElem?_map] at h
  cases hd : (dnN g x k)[i]? with
  | none => rw [hd] at h; cases h
  | some d => rw [hd] at h; exact ⟨d, (Option.some.inj h).symm, rfl⟩
theorem dn_length (g : Gr) (x : Wh) (k : Nat) : (dn g x k).length = (dnN g x k).length := by unfold dn; rw [List.length_map]
/-- what stands behind the first of some sorted times lies within a day's bounds -/
theorem atB_bnd {g : Gr} (hg : Whn.rgrid g = true) {l rs : List Wh} (hp : rs.Perm (l.filter (Whn.right g))) (hs : Whn.RisS rs) (k D : Nat) : 0 ≤ (Whn.atB g (rs.take k) D).1 ∧ (Whn.atB g (rs.take k) D).1 ≤ 96 ∧ 0 ≤ (Whn.atB g (rs.take k) D).2 ∧ (Whn.atB g (rs.take k) D).2 ≤ 96 := by
  have h := Whn.invB_all hg D (rs.take k) (fun x hx => (List.mem_filter.1 (hp.mem_iff.1 (List.mem_of_mem_take hx))).2) (List.Pairwise.sublist (List.take_sublist k rs) hs)
  obtain ⟨h1, h2, h3, _⟩ := h
  have g1 := (Whn.rgrid_iff g).1 hg
  have := Whn.cnt_le (Whn.cov g (rs.take k) D) g.s.toNat
  omega
theorem atB_next {g : Gr} {rs : List Wh} {k : Nat} {x : Wh} (hx : rs[k]? = some x) (D : Nat) : Whn.atB g (rs.take (k + 1)) D = Whn.stB g D (Whn.atB g (rs.take k) D) x := by
  rw [List.take_add_one, hx]; exact Whn.atB_snoc g (rs.take k) x D
theorem stB_yes {g : Gr} {D : Nat} {x : Wh} (h : Whn.dayOn g x D = true) (z : Int × Int) : Whn.stB g D z x = (z.1 + (max z.2 (x.s + x.l) - max z.2 x.s), max z.2 (x.s + x.l)) := by unfold Whn.stB; rw [if_pos h]
theorem stB_no {g : Gr} {D : Nat} {x : Wh} (h : Whn.dayOn g x D = false) (z : Int × Int) : Whn.stB g D z x = z := by unfold Whn.stB; rw [if_neg (by rw [h]; decide)]
theorem right_bnd {g : Gr} {x : Wh} (h : Whn.right g x = true) : 0 ≤ x.s ∧ 1 ≤ x.l ∧ x.s + x.l ≤ 96 := by
  obtain ⟨hg, _, _, r4, r5, r6, _⟩ := (Whn.right_iff g x).1 h
  have := (Whn.rgrid_iff g).1 hg
  omega
set_option maxRecDepth 20000 in
set_option maxHeartbeats 8000000 in
theorem p_Busy (g : Gr) (l : List Wh) (A : Option Addr) (c : Nat) (hok : ∀ y ∈ l, Wok y) (hm : l.length ≤ 10000) (w : World) (h : Whs w w.heap.size A l) :
    Calls Try.prog 26 #[gv g, .slice A l.length c] w (MoRet (Whn.busy g l) w) := by
  have HG := hid (fun w => p_RightGrid g w)
  have HB := hid (fun w h => p_byStart g l A c hok hm w h)
  have HD := hid (fun y hy hg w => p_days g y hy hg w)
  have H := hid h
  obtain ⟨G, W, hG, hW, K, hb0⟩ := (Mem.nil w).one (gc g) 23
  obtain ⟨g0, g1, g2⟩ := K.out.gr (B := G) (g := g) (by simp)
  clear h hb0
  cases hgg : Whn.rgrid g with
  | false =>
    rw [hgg] at HG
    have Hr := hid (show [] = Whn.busy g l by unfold Whn.busy Whn.daysN; rw [hgg]; rfl)
    clear hgg
    go_enter Try.func26, Try.ntmps26
    go_wp2_with fail
    refine (HG.out _).mono ?_
    rintro e w1 ⟨rfl, b1⟩
    go_wp2_with fail
    go_ret
    exact ⟨_, rfl, by rw [← Hr.out]; exact World.ownsRow_nil _ _ _ _, (K.out.next b1).2⟩
  | true =>
    obtain ⟨q1, q2, q3, q4, q5, q6⟩ := (Whn.rgrid_iff g).1 hgg
    have m1 : g.w * g.d ≤ 20 * 7 := Int.mul_le_mul q2 q4 (by omega) (by omega)
    have m0 : 0 ≤ g.w * g.d := Int.mul_nonneg (by omega) (by omega)
    obtain ⟨N, hN⟩ := Int.eq_ofNat_of_zero_le m0
    have hN2 : N ≤ 140 := by omega
    have hwn : wrap64 (g.w * g.d) = (N : Int) := by rw [hN]; exact wrap64_small2 _ (by omega)
    have hdN : Whn.daysN g = N := by unfold Whn.daysN; rw [if_pos hgg, hN, Int.toNat_natCast]
    have Hgg := hid hgg
    have Hbl := hid (show (Whn.busy g l).length = N by rw [Whn.busy_len, hdN])
    rw [hgg] at HG
    rw [hdN] at HD
    have HdN := hid hdN
    obtain ⟨i0, hi0, hz0, hz1, hz2⟩ := info_parts Try.info_int
    have hb2 : i0.bytes * N ≤ 281474976710656 := by rw [hz2]; omega
    have hb3 : N ≤ maxLen := by unfold maxLen; omega
    have Hok := hid (fun (rs : List Wh) (hp : rs.Perm (l.filter (Whn.right g))) (y : Wh) (hy : y ∈ rs) => show Wok y ∧ Whn.right g y = true from by
      have := List.mem_filter.1 (hp.mem_iff.1 hy)
      exact ⟨hok y this.1, this.2⟩)
    clear hgg m0 m1 hN hdN q1 q2 q3 q4 q5 q6 hok
    go_enter Try.func26, Try.ntmps26
    go_wp2_with fail
    refine (HG.out _).mono ?_
    rintro e w1 ⟨rfl, b1⟩
    have K2 := hid (K.out.next b1)
    clear g0 g1 g2 K
    obtain ⟨g0, g1, g2⟩ := K2.out.gr (B := G) (g := g) (by simp)
    have hB0 : w.heap.size ≤ w1.heap.size := K2.out.2.size
    obtain ⟨P, hP⟩ : ∃ P, w1.heap.size = P := ⟨_, rfl⟩
    go_wp2_with (first
      | (at_make; refine wpList_make_full _ rfl _ _ 43 rfl w1.heap.size 3 i0 (.int .i64 0) 1 Try.underlying43 hi0 hz0 hz1 .i64 .i64 _ _ N rfl rfl hwn hwn hb2 hb3 (Nat.le_refl _) ?_; intro w2 hown hgrow; have K3 := hid (K2.out.next ((Below.refl _ w1).grown hgrow (Nat.le_refl _) (fun k hk => by cases hk))); have KO := hid (ob_of_full hown); clear hown hgrow)
      | (at_make; refine wpList_make_full _ rfl _ _ 43 rfl w2.heap.size 3 i0 (.int .i64 0) 1 Try.underlying43 hi0 hz0 hz1 .i64 .i64 _ _ N rfl rfl rfl rfl hb2 hb3 (Nat.le_refl _) ?_; intro w3 hown2 hgrow2; have bb2 := hid ((Below.refl w2.heap.size w2).grown hgrow2 (Nat.le_refl _) (fun k hk => by cases hk)); have KO2 := hid (ob_of_full hown2); clear g0 g1 g2; have K4 := hid (K3.out.next bb2.out); obtain ⟨g0, g1, g2⟩ := K4.out.gr (B := G) (g := g) (by simp)))
    have hGP : G < P := by
      have := (K2.out.at_ (b := G) (cs := gc g) (t := 23) (by simp)).lt
      omega
    have KP := hid (KO.out.next bb2.out)
    have hPQ : P < w2.heap.size := by
      have := KO.out.lt
      omega
    obtain ⟨Q, hQ⟩ : ∃ Q, w2.heap.size = Q := ⟨_, rfl⟩
    rw [hP, made_int, ← List.map_replicate] at KP
    rw [hQ, made_int, ← List.map_replicate] at KO2
    rw [hQ] at hPQ
    have hQR : Q < w3.heap.size := KO2.out.lt
    have KL : Hid (Mem w w3 [(Q, (List.replicate N 0).map (Value.int .i64), 3), (P, (List.replicate N 0).map (Value.int .i64), 3), (G, gc g, 23)]) := hid ⟨fun p hp => by
      simp only [List.mem_cons, List.not_mem_nil, or_false] at hp
      rcases hp with rfl | rfl | rfl
      · exact KO2.out
      · exact KP.out
      · exact K4.out.1 _ (by simp), K4.out.2⟩
    have HGP := hid (show w.heap.size ≤ G ∧ G < P ∧ P < Q from ⟨by omega, hGP, hPQ⟩)
    clear KO KO2 KP K3 K4 K2 hown2 hgrow2 bb2 hGP hPQ hb2 b1 hB0
    have H3 := hid ((H.out.below KL.out.2 (Nat.le_refl _)).more KL.out.2.size)
    have hwf := hid (full_zero N)
    generalize List.replicate N (0 : Int) = Z at *
    refine (HB.out _ H3.out).mono ?_
    rintro e w4 ⟨v, rs, rfl, hperm, hris, hown, b4⟩
    obtain ⟨R, hR⟩ : ∃ R, w3.heap.size = R := ⟨_, rfl⟩
    rw [hR] at hown hQR
    have K5 := hid (KL.out.next b4)
    obtain ⟨Ar, cr, rfl, _, hcr⟩ := own_whs hown
    have HO1 := hid hown
    have HQR := hid hQR
    have Hok1 := hid (fun y hy => Hok.out rs hperm y hy)
    have hrl : rs.length ≤ 10000 := by
      rw [hperm.length_eq]
      exact Nat.le_trans (List.length_filter_le _ _) hm
    have Hbn := hid (fun k D => atB_bnd Hgg.out hperm hris k D)
    have Hfin := hid (fun D (hD : D < Whn.daysN g) => Whn.atB_busy Hgg.out hperm hris hD)
    have Hnx := hid (fun k x (hx : rs[k]? = some x) D => atB_next (g := g) hx D)
    have Hz0 := hid (show (fun _ => (0, 0)) = Whn.atB g (rs.take 0) from rfl)
    rw [Hz0.out] at hwf
    clear KL hown hperm hris hQR H3 Hok HB b4 g0 g1 g2 Hz0
    generalize hAt : Whn.atB g = At at *
    obtain ⟨g0, g1, g2⟩ := K5.out.gr (B := G) (g := g) (by simp)
    go_wp2_with fail
    go_loopw [28] (fun iv wr => ∃ (k : Nat) (L M : List Int), iv = .int .i64 k ∧ k ≤ rs.length ∧ Hid (Mem w wr [(Q, M.map (Value.int .i64), 3), (P, L.map (Value.int .i64), 3), (G, gc g, 23)]) ∧ Hid (Full N (At (rs.take k)) L M) ∧ Hid (wr.ownsRow R 48 4 (.slice Ar rs.length cr) rs.length (wcells rs))) (fun iv _ => rs.length - (intOf iv).toNat)
    case atStart => exact ⟨0, Z, Z, rfl, Nat.zero_le _, K5, hwf, HO1⟩
    case round =>
      clear K5 hwf HO1 g0 g1 g2
      obtain ⟨k, L, M, rfl, hk, KM, HF, HO1⟩ := hrel
      by_cases hlt : k < rs.length
      · obtain ⟨A', c', e', hrw, _⟩ := own_whs HO1.out
        injection e' with e1 _ e2
        subst e1; subst e2
        obtain ⟨ad, y, rfl, had, hx, hxl⟩ := whs_ad hrw hlt
        have hy := Hok1.out y hxl
        have b1 : (0 : Int) ≤ (k : Int) := by omega
        have b2 : (k : Int) < rs.length := by omega
        obtain ⟨d0, d1, d2, d3⟩ := whs_at hrw hx.out
        obtain ⟨D, U, hD, hU, K2, hb2⟩ := KM.out.one (wc y) 48
        obtain ⟨c0, c1, c2, c3⟩ := K2.out.wh (B := D) (x := y) (by simp)
        obtain ⟨e0, e1, e2⟩ := K2.out.gr (B := G) (g := g) (by simp)
        have O2 := hid (own_below HO1.out hb2)
        have hQD : Q < D := by
          have := (KM.out.at_ (b := Q) (cs := M.map (Value.int .i64)) (t := 3) (by simp)).lt
          omega
        have hDU : D < U.heap.size := (K2.out.at_ (b := D) (cs := wc y) (t := 48) (by simp)).lt
        have HD1 := hid (HD.out y hy.1 Hgg.out U)
        clear hrw
        go_wp2_with fail
        refine HD1.out.mono ?_
        rintro e w5 ⟨v, rfl, ho, b3⟩
        have K3 := hid (K2.out.next b3)
        have O3 := hid (own_below O2.out b3)
        obtain ⟨Am, cm, rfl, _, hcm⟩ := own_rd ho
        have hml := dn_len g y N
        have Hdn := hid (fun i D (h : (dn g y N)[i]? = some D) => dn_of h)
        have Hdl := hid (dn_length g y N)
        have Hnd := hid (dnN_nodup g y N)
        have Hgt := hid (fun i d (h : (dnN g y N)[i]? = some d) => dnN_get h)
        have Hno := hid (fun j (hj : j < N) (h : j ∉ dnN g y N) => dnN_no hj h)
        have Hy := hid hy
        have HQD := hid hQD
        have HDU := hid hDU
        generalize dn g y N = ms at *
        generalize dnN g y N = ds at *
        clear d0 d1 d2 d3 c0 c1 c2 c3 e0 e1 e2 K2 hb2 KM b3 O2 HD1 HO1 hy hDU hQD
        go_wp2_with fail
        go_loopw [36] (fun iv wr => ∃ (i : Nat) (L M : List Int), iv = .int .i64 i ∧ i ≤ ms.length ∧ Hid (Mem w wr [(D, wc y, 48), (Q, M.map (Value.int .i64), 3), (P, L.map (Value.int .i64), 3), (G, gc g, 23)]) ∧ Hid (PSt N (At (rs.take k)) (At (rs.take (k + 1))) ds i L M) ∧ Hid (wr.ownsRow R 48 4 (.slice (some ad) rs.length cr) rs.length (wcells rs)) ∧ Hid (wr.ownsRow U.heap.size 3 1 (.slice Am ms.length cm) ms.length (ms.map (Value.int .i64)))) (fun iv _ => ms.length - (intOf iv).toNat)
        case atStart => exact ⟨0, L, M, rfl, Nat.zero_le _, K3, hid (PSt.start HF.out), O3, hid ho⟩
        case round =>
          clear K3 HF O3 ho
          obtain ⟨i, L, M, rfl, hi, KM, HP, HO1, HO2⟩ := hrel
          by_cases hil : i < ms.length
          · obtain ⟨A', c', e', hrw, _⟩ := own_rd HO2.out
            injection e' with e1 _ e2
            subst e1; subst e2
            obtain ⟨am, z, rfl, _, hz, hcz⟩ := Its.get hrw hil
            obtain ⟨d, rfl, hd⟩ := Hdn.out i z hz.out
            obtain ⟨hdN, hdy⟩ := Hgt.out i d hd
            have b3 : (0 : Int) ≤ (i : Int) := by omega
            have b4 : (i : Int) < ms.length := by omega
            have b5 : (0 : Int) ≤ (d : Int) := by omega
            have b6 : (d : Int) < (N : Int) := by omega
            obtain ⟨v1, v2⟩ := HP.out.at_ Hnd.out hd hdN
            have vB := (Hnx.out k y hx.out d).trans (stB_yes hdy _)
            obtain ⟨w1, w2, w3, w4⟩ := Hbn.out k d
            obtain ⟨r1, r2, r3⟩ := right_bnd Hy.out.2
            have hP1 := KM.out.at_ (b := P) (cs := L.map (Value.int .i64)) (t := 3) (by simp)
            have hQ1 := KM.out.at_ (b := Q) (cs := M.map (Value.int .i64)) (t := 3) (by simp)
            have p1 := hP1.cell (cells_of_ints L d (by rw [HP.out.1]; exact hdN))
            have q1 := hQ1.cell (cells_of_ints M d (by rw [HP.out.2.1]; exact hdN))
            have p2 := hP1.free d
            have q2 := hQ1.free d
            rw [v1] at p1
            rw [v2] at q1
            have HNX := hid (HP.out.next hd hdN vB)
            obtain ⟨c0, c1, c2, c3⟩ := KM.out.wh (B := D) (x := y) (by simp)
            generalize (At (rs.take k) d).1 = bv at *
            generalize (At (rs.take k) d).2 = ev at *
            have KN0 : Hid (∀ v, Mem w (wr.setCell ⟨P, d, none⟩ (.int .i64 v)).drew.drew [(P, (L.set d v).map (Value.int .i64), 3), (D, wc y, 48), (Q, M.map (Value.int .i64), 3), (G, gc g, 23)]) := hid (fun v => by
              have := (KM.out.sub (l' := [(P, L.map (Value.int .i64), 3), (D, wc y, 48), (Q, M.map (Value.int .i64), 3), (G, gc g, 23)]) (by intro p hp; simp only [List.mem_cons, List.not_mem_nil, or_false] at hp ⊢; rcases hp with rfl | rfl | rfl | rfl <;> simp)).set (by have := HGP.out; omega) (by
                intro p hp
                simp only [List.mem_cons, List.not_mem_nil, or_false] at hp
                have h1 := HGP.out
                have h2 := HQD.out
                rcases hp with rfl | rfl | rfl
                · show D ≠ P; omega
                · show Q ≠ P; omega
                · show G ≠ P; omega) d (.int .i64 v)
              rw [← List.map_set] at this
              exact this.drew.drew)
            clear hP1 hQ1 v1 v2 vB
            obtain ⟨se, hse, Hse⟩ : ∃ se, IntKind.i64.wrap (y.s + y.l) = se ∧ Hid (se = y.s + y.l) := ⟨_, rfl, hid (IntWalk.i64_in _ (by omega))⟩
            obtain ⟨mx, hmx, Hmx⟩ : ∃ mx, max ev se = mx ∧ Hid (mx = max ev se) := ⟨_, rfl, hid rfl⟩
            obtain ⟨my, hmy, Hmy⟩ : ∃ my, max ev y.s = my ∧ Hid (my = max ev y.s) := ⟨_, rfl, hid rfl⟩
            obtain ⟨df, hdf, Hdf⟩ : ∃ df, IntKind.i64.wrap (mx - my) = df ∧ Hid (df = mx - my) := ⟨_, rfl, hid (IntWalk.i64_in _ (by have := Hse.out; omega))⟩
            obtain ⟨nb, hnb, Hnb⟩ : ∃ nb, IntKind.i64.wrap (bv + df) = nb ∧ Hid (nb = bv + df) := ⟨_, rfl, hid (IntWalk.i64_in _ (by have := Hse.out; have := Hdf.out; omega))⟩
            go_wp2_with fail
            go_region
            have HNX1 := hid (show PSt N _ _ ds (i + 1) (L.set d nb) (M.set d mx) from by
              have h := HNX.out
              have e1 : bv + (max ev (y.s + y.l) - max ev y.s) = nb := by rw [Hnb.out, Hdf.out, Hmx.out, Hmy.out, Hse.out]
              have e2 : max ev (y.s + y.l) = mx := by rw [Hmx.out, Hse.out]
              rwa [e1, e2] at h)
            clear HNX
            go_wp2_with fail
            go_region
            have KN1 := hid (KN0.out nb)
            have KN2 := hid ((KN1.out.sub (l' := [(Q, M.map (Value.int .i64), 3), (P, (L.set d nb).map (Value.int .i64), 3), (D, wc y, 48), (G, gc g, 23)]) (by intro p hp; simp only [List.mem_cons, List.not_mem_nil, or_false] at hp ⊢; rcases hp with rfl | rfl | rfl | rfl <;> simp)).set (by have := HGP.out; omega) (by
                intro p hp
                simp only [List.mem_cons, List.not_mem_nil, or_false] at hp
                have h1 := HGP.out
                have h2 := HQD.out
                rcases hp with rfl | rfl | rfl
                · show P ≠ Q; omega
                · show D ≠ Q; omega
                · show G ≠ Q; omega) d (.int .i64 mx))
            rw [← List.map_set] at KN2
            have KN3 := hid (KN2.out.sub (l' := [(D, wc y, 48), (Q, (M.set d mx).map (Value.int .i64), 3), (P, (L.set d nb).map (Value.int .i64), 3), (G, gc g, 23)]) (by intro p hp; simp only [List.mem_cons, List.not_mem_nil, or_false] at hp ⊢; rcases hp with rfl | rfl | rfl | rfl <;> simp))
            have hQ3 := KN1.out.at_ (b := Q) (cs := M.map (Value.int .i64)) (t := 3) (by simp)
            have q3 := hQ3.cell (cells_of_ints M d (by rw [HP.out.2.1]; exact hdN))
            have q4 := hQ3.free d
            have hQR := HQR.out
            have hQU : Q < U.heap.size := by have := HQD.out; have := HDU.out; omega
            have hPU : P < U.heap.size := by have := HGP.out; omega
            have hPR : P < R := by have := HGP.out; omega
            have O4 := hid (own_set ((own_set HO1.out (p := ⟨P, d, none⟩) hPR (.int .i64 nb)).drew.drew) (p := ⟨Q, d, none⟩) hQR (.int .i64 mx))
            have O5 := hid (own_set ((own_set HO2.out (p := ⟨P, d, none⟩) hPU (.int .i64 nb)).drew.drew) (p := ⟨Q, d, none⟩) hQU (.int .i64 mx))
            clear KN0 KN1 KN2 hQ3 p1 p2 q1 q2 c0 c1 c2 c3 KM HP HO1 HO2 hrw hcz
            go_wp2_with fail
            exact ⟨⟨i + 1, _, _, by go_num, by omega, KN3, HNX1, O4, O5⟩, by simp [intOf]; omega⟩
          · obtain rfl : i = ms.length := by omega
            have b4 : ¬ ((ms.length : Nat) : Int) < ms.length := by omega
            have HF2 := hid (show Full N (At (rs.take (k + 1))) L M from by
              have h := HP.out
              rw [Hdl.out] at h
              exact h.full (fun j hj hn => (Hnx.out k y hx.out j).trans (stB_no (Hno.out j hj hn) _)))
            have K6 := hid (KM.out.sub (l' := [(Q, M.map (Value.int .i64), 3), (P, L.map (Value.int .i64), 3), (G, gc g, 23)]) (by intro p hp; simp only [List.mem_cons, List.not_mem_nil, or_false] at hp ⊢; rcases hp with rfl | rfl | rfl <;> simp))
            clear KM HP HO2
            go_wp2_with fail
            exact ⟨⟨k + 1, _, _, by go_num, by omega, K6, HF2, HO1⟩, by simp [intOf]; omega⟩
      · obtain rfl : k = rs.length := by omega
        have b2 : ¬ ((rs.length : Nat) : Int) < rs.length := by omega
        have HL : Hid (L = Whn.busy g l) := hid (HF.out.first Hbl.out (fun j hj => by
          rw [List.take_length, Hfin.out j (by rw [HdN.out]; exact hj)]
          unfold Whn.busy
          rw [List.getElem?_map, List.getElem?_range (by rw [HdN.out]; exact hj)]; rfl))
        have hO := KM.out.at_ (b := P) (cs := L.map (Value.int .i64)) (t := 3) (by simp)
        have hOw := hid (own_of_ob hO (N := N) (base := w.heap.size) (by rw [List.length_map]; exact HF.out.1) (by have := HGP.out; omega) hb3)
        rw [HL.out] at hOw
        have hb := KM.out.2
        clear KM HF HO1 hO HL
        go_wp2_with fail
        go_ret
        exact ⟨_, rfl, by rw [Hbl.out]; exact hOw.out, hb⟩
end Go.Proofs.Ytjjmajhldpoobaa
