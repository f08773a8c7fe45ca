/- Contracts of the program's own functions of layer 16 (many): Blocks; by how much a rule is passed; Broken, Least. -/
import Derived.Test.YtjjmajhldpoobaaMnyQ
import Derived.Test.YtjjmajhldpoobaaMnyT
import Derived.Test.YtjjmajhldpoobaaMnyF
namespace Go.Proofs.Ytjjmajhldpoobaa
open Go.RowKit
open Whn (Gr Wh)

/-- what is asked of person's Busy -/
def BusySt : Prop := ∀ (g : Gr) (l : List Wh) (A : Option Addr) (c : Nat) (X : World), (∀ y ∈ l, Wok y) → l.length ≤ 10000 → Whs X X.heap.size A l → Calls Try.prog 26 #[gv g, .slice A l.length c] X (ItRet (Whn.busy g l) X)
theorem frB_days (day : Int) (N : Nat) : frB day 0 ((N : Int) - 1) = decide (0 ≤ day ∧ day < N) := by
  unfold frB
  rw [Bool.eq_iff_iff, Bool.and_eq_true, decide_eq_true_iff, decide_eq_true_iff, decide_eq_true_iff]
  omega
set_option maxRecDepth 20000 in
set_option maxHeartbeats 4000000 in
theorem p_BlocksM (hB : BySt) (g : Gr) (l : List Wh) (A : Option Addr) (c : Nat) (hok : ∀ y ∈ l, Wok y) (hm : l.length ≤ 10000) (day gap : Int) (w : World) (h : Whs w w.heap.size A l) :
    Calls Try.prog 18 #[gv g, .slice A l.length c, .int .i64 day, .int .i64 gap] w (BkRet (Whn.blkV g l day gap) w) := by
  have HB := hid (fun w h => hB g l A c w hok hm h)
  have HD := hid (fun X => p_daysOf g X)
  have hN := Whn.daysN_le g
  have HW := hid (fun X => p_withinM day 0 ((Whn.daysN g : Nat) - 1) X)
  rw [frB_days] at HW
  have H := hid h
  have k1 : IntKind.i64.wrap (((Whn.daysN g : Nat) : Int) - 1) = ((Whn.daysN g : Nat) : Int) - 1 := by rw [IntKind.wrap_i64]; omega
  have Hok := hid (fun (rs : List Wh) (hp : rs.Perm (l.filter (Whn.right g))) (y : Wh) (hy : y ∈ rs) => show Wok y ∧ Whn.right g y = true from by
    have := List.mem_filter.1 (hp.mem_iff.1 hy)
    exact ⟨hok y this.1, this.2⟩)
  have Hln := hid (fun (rs : List Wh) (hp : rs.Perm (l.filter (Whn.right g))) => show rs.length ≤ 10000 from by rw [hp.length_eq]; exact Nat.le_trans (List.length_filter_le _ _) hm)
  obtain ⟨G, W, hG, hW, K, hb0⟩ := (Mem.nil w).one (gc g) 23
  obtain ⟨g0, g1, g2⟩ := K.out.gr (B := G) (g := g) (by simp)
  clear h hok hb0 hB
  by_cases hin : 0 ≤ day ∧ day < (Whn.daysN g : Nat)
  · rw [decide_eq_true hin] at HW
    obtain ⟨D, rfl⟩ : ∃ D : Nat, day = D := ⟨day.toNat, by omega⟩
    have hD : D < Whn.daysN g := by omega
    have Hr := hid (show Whn.blkV g l (D : Int) gap = Whn.blkN gap g l D by unfold Whn.blkV; rw [if_pos hin, Int.toNat_natCast])
    have HP := hid (fun rs (hp : rs.Perm (l.filter (Whn.right g))) (hs : Whn.RisS rs) A c X h => (show Calls Try.prog 37 #[gv g, .slice A rs.length c, .int .i64 D, .int .i64 gap] X (BkRet (Whn.blkN gap g l D) X) from by
      rw [← Whn.onP_blk gap D hp hs]
      exact p_blocks g rs A c (Hok.out rs hp) (Hln.out rs hp) D hD gap X h))
    generalize Whn.blkV g l (D : Int) gap = rr at *
    generalize Whn.blkN gap g l D = r2 at *
    generalize ((Whn.daysN g : Nat) : Int) = Nz at *
    clear hin hD Hok
    go_enter Try.func18, Try.ntmps18
    go_wp2_with fail
    refine (HD.out _).mono ?_
    rintro e Y1 ⟨rfl, bz⟩
    have K1 := hid (K.out.next bz)
    clear g0 g1 g2 bz
    go_wp2_with fail
    refine (HW.out _).mono ?_
    rintro e Y2 ⟨rfl, rfl⟩
    go_wp2_with fail
    refine wp_region_held_drew (S := fun X => Mem w X [(G, gc g, 23)]) (by kernel_rfl) K1.out.drew (fun hHeld => ?_)
    refine takeH 0 15 (gv g) rfl rfl (by kernel_rfl) (by kernel_rfl) (by kernel_rfl) (fun _ _ _ h => h) (by kernel_rfl) (fun X hX => by obtain ⟨y0, y1, y2⟩ := hX.gr (B := G) (g := g) (by simp); clear hX; go_simp) hHeld ?_
    simp only [Act.put, List.setIfInBounds_toArray, List.set_cons_zero, List.set_cons_succ]
    refine takeH 1 16 (gv g) rfl rfl (by kernel_rfl) (by kernel_rfl) (by kernel_rfl) (fun _ _ _ h => h) (by kernel_rfl) (fun X hX => by obtain ⟨y0, y1, y2⟩ := hX.gr (B := G) (g := g) (by simp); clear hX; go_simp) hHeld ?_
    simp only [Act.put, List.setIfInBounds_toArray, List.set_cons_zero, List.set_cons_succ]
    refine takeH 2 17 (.slice A l.length c) rfl rfl (by kernel_rfl) (by kernel_rfl) (by kernel_rfl) (fun _ _ _ h => h) (by kernel_rfl) (fun X hX => by clear hX; first | rfl | go_simp) hHeld ?_
    simp only [Act.put, List.setIfInBounds_toArray, List.set_cons_zero, List.set_cons_succ]
    refine takeH 4 19 (.int .i64 D) rfl rfl (by kernel_rfl) (by kernel_rfl) (by kernel_rfl) (fun _ _ _ h => h) (by kernel_rfl) (fun X hX => by clear hX; first | rfl | go_simp) hHeld ?_
    simp only [Act.put, List.setIfInBounds_toArray, List.set_cons_zero, List.set_cons_succ]
    refine takeH 5 20 (.int .i64 gap) rfl rfl (by kernel_rfl) (by kernel_rfl) (by kernel_rfl) (fun _ _ _ h => h) (by kernel_rfl) (fun X hX => by clear hX; first | rfl | go_simp) hHeld ?_
    simp only [Act.put, List.setIfInBounds_toArray, List.set_cons_zero, List.set_cons_succ]
    have K2 := hid K1.out.drew
    refine wpAnyH_ready (rs := [3]) (by kernel_rfl) (by simp) ?_
    refine AllReadyH.cons rfl (fun KK hK => ?_) AllReadyH.nil
    simp only [List.getElem_toArray, List.getElem_cons_succ, List.getElem_cons_zero]
    go_simp
    refine (HB.out _ ((H.out.below K2.out.2 (Nat.le_refl _)).more K2.out.2.size)).mono ?_
    rintro e Y3 ⟨v, rs, rfl, hperm, hris, hown, bz⟩
    have K3 := hid (K2.out.next bz)
    obtain ⟨Ar, cr, rfl, hw, hcr⟩ := own_whs hown
    have HP1 := hid (HP.out rs hperm hris Ar cr)
    have HWr := hid hw
    clear hown hw hperm hris bz
    refine hK.out _ _ K3.out (fun hHeld => ?_)
    clear hK KK
    try simp only [Act.put, List.setIfInBounds_toArray, List.set_cons_zero, List.set_cons_succ]
    refine wpAnyH_ready (rs := [6]) (by kernel_rfl) (by simp) ?_
    refine AllReadyH.cons rfl (fun KK hK => ?_) AllReadyH.nil
    simp only [List.getElem_toArray, List.getElem_cons_succ, List.getElem_cons_zero]
    go_simp
    refine (HP1.out _ HWr.out).mono ?_
    rintro e Y4 ⟨v4, rfl, hown4, bz⟩
    have K4 := hid (K3.out.next bz)
    refine hK.out _ _ K4.out (fun hHeld => ?_)
    clear hK KK
    try simp only [Act.put, List.setIfInBounds_toArray, List.set_cons_zero, List.set_cons_succ]
    refine wpAnyH_ready (rs := [7]) (by kernel_rfl) (by simp) ?_
    refine AllReadyH.cons rfl (fun KK hK => ?_) AllReadyH.nil
    simp only [List.getElem_toArray, List.getElem_cons_succ, List.getElem_cons_zero]
    go_simp
    refine hK.out _ _ K4.out (fun hHeld => ?_)
    clear hK KK
    try simp only [Act.put, List.setIfInBounds_toArray, List.set_cons_zero, List.set_cons_succ]
    refine wpAnyH_done (by kernel_rfl) ?_ _
    clear hHeld
    go_wp2_with fail
    go_ret
    exact ⟨_, rfl, by rw [Hr.out]; exact own_mono hown4 K3.out.2.size, K4.out.2⟩
  · rw [decide_eq_false hin] at HW
    have Hr := hid (show Whn.blkV g l day gap = [] by unfold Whn.blkV; rw [if_neg hin])
    generalize Whn.blkV g l day gap = rr at *
    generalize ((Whn.daysN g : Nat) : Int) = Nz at *
    clear hin
    go_enter Try.func18, Try.ntmps18
    go_wp2_with fail
    refine (HD.out _).mono ?_
    rintro e Y1 ⟨rfl, bz⟩
    have K1 := hid (K.out.next bz)
    clear g0 g1 g2 bz
    go_wp2_with fail
    refine (HW.out _).mono ?_
    rintro e Y2 ⟨rfl, rfl⟩
    go_wp2_with fail
    go_ret
    exact ⟨_, rfl, by rw [Hr.out]; exact World.ownsRow_nil Y1 _ _ _, K1.out.2⟩
set_option maxRecDepth 20000 in
set_option maxHeartbeats 4000000 in
theorem p_breaks (hB : BySt) (g : Gr) (a b : Int) (l : List Wh) (A : Option Addr) (c : Nat) (hok : ∀ y ∈ l, Wok y) (hm : l.length ≤ 10000) (ha : 0 ≤ a ∧ I64 a) (w : World) (h : Whs w w.heap.size A l) :
    Calls Try.prog 41 #[gv g, .int .i64 a, .int .i64 b, .slice A l.length c] w (Did (.int .i64 (Whn.sumN (Whn.ovrD g 23 a b l) (Whn.daysN g))) w) := by
  have HB := hid (fun w h => hB g l A c w hok hm h)
  have HD := hid (fun X => p_daysOf g X)
  have hN := Whn.daysN_le g
  have H := hid h
  unfold I64 at ha
  have Hok := hid (fun (rs : List Wh) (hp : rs.Perm (l.filter (Whn.right g))) (y : Wh) (hy : y ∈ rs) => show Wok y ∧ Whn.right g y = true from by
    have := List.mem_filter.1 (hp.mem_iff.1 hy)
    exact ⟨hok y this.1, this.2⟩)
  have Hln := hid (fun (rs : List Wh) (hp : rs.Perm (l.filter (Whn.right g))) => show rs.length ≤ 10000 from by rw [hp.length_eq]; exact Nat.le_trans (List.length_filter_le _ _) hm)
  have HP := hid (fun D (hD : D < Whn.daysN g) rs (hp : rs.Perm (l.filter (Whn.right g))) (hs : Whn.RisS rs) A c X h => (show Calls Try.prog 37 #[gv g, .slice A rs.length c, .int .i64 D, .int .i64 b] X (BkRet (Whn.blkN b g l D) X) from by
    rw [← Whn.onP_blk b D hp hs]
    exact p_blocks g rs A c (Hok.out rs hp) (Hln.out rs hp) D hD b X h))
  have Hbl := hid (fun D => Whn.blkN_len b g l D)
  have Hod := hid (fun D (hD : D < Whn.daysN g) => Whn.ovrD_bnd g 23 a b l ha.1 hD)
  have HoD := hid (fun D => show Whn.ovrD g 23 a b l D = max (((Whn.blkN b g l D).length : Int) - 1 - a) 0 from rfl)
  generalize Whn.ovrD g 23 a b l = F at *
  have Hsb := hid (fun D (hD : D ≤ Whn.daysN g) => show 0 ≤ Whn.sumN F D ∧ Whn.sumN F D ≤ 2000000 by
    have h1 := Whn.sumN_ge (f := F) (n := D) (fun D' hD' => (Hod.out D' (by omega)).1)
    have h2 := Whn.sumN_le (f := F) (n := D) (M := 96 + l.length) (fun D' hD' => (Hod.out D' (by omega)).2)
    have h4 : (D : Int) * (96 + (l.length : Int)) ≤ 140 * 10096 := Int.mul_le_mul (by omega) (by omega) (by omega) (by omega)
    omega)
  generalize Whn.daysN g = N at *
  obtain ⟨G, W, hG, hW, K, hb0⟩ := (Mem.nil w).one (gc g) 23
  obtain ⟨g0, g1, g2⟩ := K.out.gr (B := G) (g := g) (by simp)
  clear h hok hb0 hB Hod Hok
  go_enter Try.func41, Try.ntmps41
  go_wp2_with fail
  refine (HB.out _ ((H.out.below K.out.2 (Nat.le_refl _)).more K.out.2.size)).mono ?_
  rintro e Y1 ⟨v, rs, rfl, hperm, hris, hown, bz⟩
  have K1 := hid (K.out.next bz)
  obtain ⟨Ar, cr, rfl, hw, hcr⟩ := own_whs hown
  have HP1 := hid (fun D hD => HP.out D hD rs hperm hris Ar cr)
  have HWr := hid hw
  clear hown hw hperm hris bz g0 g1 g2 HP HB Hln H
  obtain ⟨g0, g1, g2⟩ := K1.out.gr (B := G) (g := g) (by simp)
  go_wp2_with fail
  refine (HD.out _).mono ?_
  rintro e Y2 ⟨rfl, bz⟩
  have K2 := hid (K1.out.next bz)
  have HY := hid bz
  clear g0 g1 g2 bz K1 hW hG K
  go_wp2_with fail
  go_loopw [9, 17] (fun ov iv wr => ∃ D : Nat, iv = .int .i64 D ∧ D ≤ N ∧ ov = .int .i64 (Whn.sumN F D) ∧ Hid (Mem w wr [(G, gc g, 23)]) ∧ Hid (Below Y1.heap.size Y1 wr)) (fun _ iv _ => N - (intOf iv).toNat)
  case atStart => exact ⟨0, rfl, Nat.zero_le _, rfl, K2, HY⟩
  case round =>
    clear K2 HY
    obtain ⟨D, rfl, hD, rfl, KM, HBy⟩ := hrel
    have hsb := Hsb.out D hD
    by_cases hlt : D < N
    · have b1 : (0 : Int) ≤ (D : Int) := by omega
      have b2 : (D : Int) < (N : Int) := by omega
      have hsb2 := Hsb.out (D + 1) hlt
      have Hs := hid (show Whn.sumN F (D + 1) = Whn.sumN F D + F D from rfl)
      have HoD1 := HoD.out D
      have HP2 := hid (HP1.out D hlt)
      have hbll := Hbl.out D
      rw [Hs.out] at hsb2
      generalize Whn.blkN b g l D = bl at *
      generalize F D = fd at *
      generalize Whn.sumN F D = sn at *
      obtain ⟨g0, g1, g2⟩ := KM.out.gr (B := G) (g := g) (by simp)
      clear Hbl HoD Hsb
      go_wp2_with fail
      refine (HP2.out _ ((HWr.out.below HBy.out (Nat.le_refl _)).more HBy.out.size)).mono ?_
      rintro e Y3 ⟨v3, rfl, hown3, bz⟩
      have K3 := hid (KM.out.next bz)
      have HB3 := hid (HBy.out.trans (bz.mono HBy.out.size))
      obtain ⟨A3, c3, rfl, _, _⟩ := own_bk hown3
      obtain ⟨L, hL⟩ : ∃ L, bl.length = L := ⟨_, rfl⟩
      rw [hL] at HoD1 hbll ⊢
      clear g0 g1 g2 bz KM HBy hown3 hL
      have HoD2 := hid HoD1
      have n4 : IntKind.i64.wrap ((L : Int) - 1) = (L : Int) - 1 := by rw [IntKind.wrap_i64]; omega
      have n0 : IntKind.i64.wrap ((L : Int) - 1 - a) = (L : Int) - 1 - a := by rw [IntKind.wrap_i64]; omega
      have n1 : (if (L : Int) - 1 - a < 0 then 0 else (L : Int) - 1 - a) = fd := by rw [HoD2.out]; split <;> omega
      have n2 : (if 0 < (L : Int) - 1 - a then (L : Int) - 1 - a else 0) = fd := by rw [HoD2.out]; split <;> omega
      have n3 : IntKind.i64.wrap (sn + fd) = sn + fd := by rw [IntKind.wrap_i64]; omega
      clear HoD1
      go_wp2_with fail
      exact ⟨⟨D + 1, by go_num, by omega, by rw [Hs.out], K3, HB3⟩, by simp [intOf]; omega⟩
    · obtain rfl : D = N := by omega
      have b2 : ¬ (D : Int) < (D : Int) := by omega
      go_wp2_with fail
      go_ret
      exact Did.mk rfl KM.out.2
set_option maxRecDepth 20000 in
set_option maxHeartbeats 4000000 in
theorem p_load (hU : BusySt) (g : Gr) (a b : Int) (l : List Wh) (A : Option Addr) (c : Nat) (hok : ∀ y ∈ l, Wok y) (hm : l.length ≤ 10000) (ha : 0 ≤ a ∧ I64 a) (w : World) (h : Whs w w.heap.size A l) :
    Calls Try.prog 40 #[gv g, .int .i64 a, .slice A l.length c] w (Did (.int .i64 (Whn.sumN (Whn.ovrD g 22 a b l) (Whn.daysN g))) w) := by
  have HU := hid (fun X h => hU g l A c X hok hm h)
  have hN := Whn.daysN_le g
  have H := hid h
  unfold I64 at ha
  have Hbn := hid (fun D (hD : D < Whn.daysN g) => Whn.busyN_bnd g l hD)
  have Hba := hid (fun D (hD : D < Whn.daysN g) => busy_at (l := l) hD)
  have hbl := Whn.busy_len g l
  have Hod := hid (fun D (hD : D < Whn.daysN g) => Whn.ovrD_bnd g 22 a b l ha.1 hD)
  have HoD := hid (fun D => show Whn.ovrD g 22 a b l D = max (Whn.busyN g l D - a) 0 from rfl)
  generalize Whn.ovrD g 22 a b l = F at *
  have Hsb := hid (fun D (hD : D ≤ Whn.daysN g) => show 0 ≤ Whn.sumN F D ∧ Whn.sumN F D ≤ 2000000 by
    have h1 := Whn.sumN_ge (f := F) (n := D) (fun D' hD' => (Hod.out D' (by omega)).1)
    have h2 := Whn.sumN_le (f := F) (n := D) (M := 96 + l.length) (fun D' hD' => (Hod.out D' (by omega)).2)
    have h4 : (D : Int) * (96 + (l.length : Int)) ≤ 140 * 10096 := Int.mul_le_mul (by omega) (by omega) (by omega) (by omega)
    omega)
  generalize Whn.busy g l = bu at *
  generalize Whn.daysN g = N at *
  obtain ⟨G, W, hG, hW, K, hb0⟩ := (Mem.nil w).one (gc g) 23
  obtain ⟨g0, g1, g2⟩ := K.out.gr (B := G) (g := g) (by simp)
  clear h hok hb0 hU Hod
  go_enter Try.func40, Try.ntmps40
  go_wp2_with fail
  refine (HU.out _ ((H.out.below K.out.2 (Nat.le_refl _)).more K.out.2.size)).mono ?_
  rintro e Y1 ⟨AB, cb, rfl, hits, bz⟩
  have HY := hid (K.out.2.trans (bz.mono K.out.2.size))
  have HI1 := hid hits
  clear g0 g1 g2 bz hW hG K hits HU
  go_wp2_with fail
  go_loopw [7, 14] (fun ov iv wr => ∃ D : Nat, iv = .int .i64 D ∧ D ≤ N ∧ ov = .int .i64 (Whn.sumN F D) ∧ Hid (Below w.heap.size w wr) ∧ Hid (Below Y1.heap.size Y1 wr)) (fun _ iv _ => N - (intOf iv).toNat)
  case atStart => exact ⟨0, rfl, Nat.zero_le _, rfl, HY, hid (Below.refl _ _)⟩
  case round =>
    clear HY
    obtain ⟨D, rfl, hD, rfl, HY, HBy⟩ := hrel
    have hsb := Hsb.out D hD
    by_cases hlt : D < N
    · have b1 : (0 : Int) ≤ (D : Int) := by omega
      have b2 : (D : Int) < (N : Int) := by omega
      have hsb2 := Hsb.out (D + 1) hlt
      have Hs := hid (show Whn.sumN F (D + 1) = Whn.sumN F D + F D from rfl)
      have HoD1 := hid (HoD.out D)
      have hbn := Hbn.out D hlt
      have hba := hid (Hba.out D hlt)
      rw [Hs.out] at hsb2
      generalize Whn.busyN g l D = bn at *
      generalize F D = fd at *
      generalize Whn.sumN F D = sn at *
      have n0 : IntKind.i64.wrap (bn - a) = bn - a := by rw [IntKind.wrap_i64]; omega
      have n1 : (if bn - a < 0 then 0 else bn - a) = fd := by rw [HoD1.out]; split <;> omega
      have n2 : (if 0 < bn - a then bn - a else 0) = fd := by rw [HoD1.out]; split <;> omega
      have n3 : IntKind.i64.wrap (sn + fd) = sn + fd := by rw [IntKind.wrap_i64]; omega
      obtain ⟨ad, x, rfl, had, hx, hcx⟩ := Its.get (HI1.out.below HBy.out (Nat.le_refl _)) (k := D) (by omega)
      obtain rfl : x = bn := Option.some.inj (hx.out.symm.trans hba.out)
      clear Hbn Hba HoD Hsb
      go_wp2_with fail
      exact ⟨⟨D + 1, by go_num, by omega, by rw [Hs.out], HY, HBy⟩, by simp [intOf]; omega⟩
    · obtain rfl : D = N := by omega
      have b2 : ¬ (D : Int) < (D : Int) := by omega
      go_wp2_with fail
      go_ret
      exact Did.mk rfl HY.out
set_option maxRecDepth 20000 in
set_option maxHeartbeats 4000000 in
theorem p_longBlocks (hB : BySt) (g : Gr) (a b : Int) (l : List Wh) (A : Option Addr) (c : Nat) (hok : ∀ y ∈ l, Wok y) (hm : l.length ≤ 10000) (ha : 0 ≤ a ∧ I64 a) (w : World) (h : Whs w w.heap.size A l) :
    Calls Try.prog 42 #[gv g, .int .i64 a, .int .i64 b, .slice A l.length c] w (Did (.int .i64 (Whn.sumN (Whn.ovrD g 24 a b l) (Whn.daysN g))) w) := by
  have HB := hid (fun w h => hB g l A c w hok hm h)
  have HD := hid (fun X => p_daysOf g X)
  have hN := Whn.daysN_le g
  have H := hid h
  unfold I64 at ha
  have Hok := hid (fun (rs : List Wh) (hp : rs.Perm (l.filter (Whn.right g))) (y : Wh) (hy : y ∈ rs) => show Wok y ∧ Whn.right g y = true from by
    have := List.mem_filter.1 (hp.mem_iff.1 hy)
    exact ⟨hok y this.1, this.2⟩)
  have Hln := hid (fun (rs : List Wh) (hp : rs.Perm (l.filter (Whn.right g))) => show rs.length ≤ 10000 from by rw [hp.length_eq]; exact Nat.le_trans (List.length_filter_le _ _) hm)
  have HP := hid (fun D (hD : D < Whn.daysN g) rs (hp : rs.Perm (l.filter (Whn.right g))) (hs : Whn.RisS rs) A c X h => (show Calls Try.prog 37 #[gv g, .slice A rs.length c, .int .i64 D, .int .i64 b] X (BkRet (Whn.blkN b g l D) X) from by
    rw [← Whn.onP_blk b D hp hs]
    exact p_blocks g rs A c (Hok.out rs hp) (Hln.out rs hp) D hD b X h))
  have Hbl := hid (fun D => Whn.blkN_len b g l D)
  have Hod := hid (fun D (hD : D < Whn.daysN g) => Whn.ovrD_bnd g 24 a b l ha.1 hD)
  have HoD := hid (fun D => show Whn.ovrD g 24 a b l D = Whn.cntB a (Whn.blkN b g l D) from rfl)
  generalize Whn.ovrD g 24 a b l = F at *
  have Hsb := hid (fun D (hD : D ≤ Whn.daysN g) => show 0 ≤ Whn.sumN F D ∧ Whn.sumN F D ≤ 2000000 by
    have h1 := Whn.sumN_ge (f := F) (n := D) (fun D' hD' => (Hod.out D' (by omega)).1)
    have h2 := Whn.sumN_le (f := F) (n := D) (M := 96 + l.length) (fun D' hD' => (Hod.out D' (by omega)).2)
    have h4 : (D : Int) * (96 + (l.length : Int)) ≤ 140 * 10096 := Int.mul_le_mul (by omega) (by omega) (by omega) (by omega)
    omega)
  generalize Whn.daysN g = N at *
  obtain ⟨G, W, hG, hW, K, hb0⟩ := (Mem.nil w).one (gc g) 23
  obtain ⟨g0, g1, g2⟩ := K.out.gr (B := G) (g := g) (by simp)
  clear h hok hb0 hB Hod Hok
  go_enter Try.func42, Try.ntmps42
  go_wp2_with fail
  refine (HB.out _ ((H.out.below K.out.2 (Nat.le_refl _)).more K.out.2.size)).mono ?_
  rintro e Y1 ⟨v, rs, rfl, hperm, hris, hown, bz⟩
  have K1 := hid (K.out.next bz)
  obtain ⟨Ar, cr, rfl, hw, hcr⟩ := own_whs hown
  have HP1 := hid (fun D hD => HP.out D hD rs hperm hris Ar cr)
  have HWr := hid hw
  clear hown hw hperm hris bz g0 g1 g2 HP HB Hln H
  obtain ⟨g0, g1, g2⟩ := K1.out.gr (B := G) (g := g) (by simp)
  go_wp2_with fail
  refine (HD.out _).mono ?_
  rintro e Y2 ⟨rfl, bz⟩
  have K2 := hid (K1.out.next bz)
  have HY := hid bz
  clear g0 g1 g2 bz K1 hW hG K
  go_wp2_with fail
  go_loopw [9, 19] (fun ov iv wr => ∃ D : Nat, iv = .int .i64 D ∧ D ≤ N ∧ ov = .int .i64 (Whn.sumN F D) ∧ Hid (Mem w wr [(G, gc g, 23)]) ∧ Hid (Below Y1.heap.size Y1 wr)) (fun _ iv _ => N - (intOf iv).toNat)
  case atStart => exact ⟨0, rfl, Nat.zero_le _, rfl, K2, HY⟩
  case round =>
    clear K2 HY
    obtain ⟨D, rfl, hD, rfl, KM, HBy⟩ := hrel
    have hsb := Hsb.out D hD
    by_cases hlt : D < N
    · have b1 : (0 : Int) ≤ (D : Int) := by omega
      have b2 : (D : Int) < (N : Int) := by omega
      have hsb2 := Hsb.out (D + 1) hlt
      have Hs := hid (show Whn.sumN F (D + 1) = Whn.sumN F D + F D from rfl)
      have HoD1 := HoD.out D
      have HP2 := hid (HP1.out D hlt)
      have hbll := Hbl.out D
      rw [Hs.out] at hsb2
      generalize Whn.blkN b g l D = bl at *
      generalize F D = fd at *
      generalize Whn.sumN F D = sn at *
      obtain ⟨g0, g1, g2⟩ := KM.out.gr (B := G) (g := g) (by simp)
      have HoD2 := hid HoD1
      clear Hbl HoD Hsb HoD1
      have Hct := hid (fun i p (hp : bl[i]? = some p) => cntB_take (a := a) hp)
      have Hcb := hid (fun i => Whn.cntB_bnd a (bl.take i))
      have Hc0 := hid (show Whn.cntB a (bl.take 0) = 0 from rfl)
      have Hca := hid (show Whn.cntB a (bl.take bl.length) = fd by rw [List.take_length, HoD2.out])
      have Htl := hid (fun i => show (bl.take i).length ≤ i by rw [List.length_take]; omega)
      obtain ⟨cf, hcf⟩ : ∃ cf : Nat → Int, ∀ i, Whn.cntB a (bl.take i) = cf i := ⟨_, fun _ => rfl⟩
      simp only [hcf] at Hct Hcb Hc0 Hca
      clear hcf
      go_wp2_with fail
      refine (HP2.out _ ((HWr.out.below HBy.out (Nat.le_refl _)).more HBy.out.size)).mono ?_
      rintro e Y3 ⟨v3, rfl, hown3, bz⟩
      have K3 := hid (KM.out.next bz)
      have HB3 := hid (HBy.out.trans (bz.mono HBy.out.size))
      obtain ⟨A3, c3, rfl, hes, _⟩ := own_bk hown3
      have HE := hid hes
      clear g0 g1 g2 bz KM HBy hown3 hes
      go_wp2_with fail
      go_loopw [9, 28] (fun nv iv wr => ∃ i : Nat, iv = .int .i64 i ∧ i ≤ bl.length ∧ nv = .int .i64 (sn + cf i) ∧ Hid (Mem w wr [(G, gc g, 23)]) ∧ Hid (Below Y1.heap.size Y1 wr) ∧ Hid (Below Y3.heap.size Y3 wr)) (fun _ iv _ => bl.length - (intOf iv).toNat)
      case atStart => exact ⟨0, rfl, Nat.zero_le _, by rw [Hc0.out, Int.add_zero], K3, HB3, hid (Below.refl _ _)⟩
      case round =>
        clear K3 HB3
        obtain ⟨i, rfl, hi, rfl, K3, HB3, HB4⟩ := hrel
        have hcb := Hcb.out i
        have htl := Htl.out i
        by_cases hil : i < bl.length
        · obtain ⟨ad, p, rfl, had, hp⟩ := bk_ad HE.out hil
          obtain ⟨d0, d1⟩ := bk_at (HE.out.below HB4.out (Nat.le_refl _)) hp.out
          obtain ⟨C, U, hC, hU, K5, hb5⟩ := K3.out.one [.int .i64 p.1, .int .i64 p.2] 25
          have c0 := K5.out.cell (b := C) (cs := [.int .i64 p.1, .int .i64 p.2]) (t := 25) (by simp) (k := 0) rfl
          have c1 := K5.out.cell (b := C) (cs := [.int .i64 p.1, .int .i64 p.2]) (t := 25) (by simp) (k := 1) rfl
          have K6 := hid (K5.out.sub (l' := [(G, gc g, 23)]) (by simp))
          have HB5 := hid (HB3.out.trans (hb5.mono HB3.out.size))
          have HB6 := hid (HB4.out.trans (hb5.mono HB4.out.size))
          have i1 : (0 : Int) ≤ (i : Int) := by omega
          have i2 : (i : Int) < (bl.length : Int) := by omega
          have Hn := hid (Hct.out i p hp.out)
          have n5 : IntKind.i64.wrap (sn + cf i + 1) = sn + cf i + 1 := by rw [IntKind.wrap_i64]; omega
          generalize cf i = ci at *
          clear Hct Hcb Hc0 Hca Htl K3 HB3 HB4 K5 hb5
          by_cases h2 : a < p.1
          · by_cases h1 : 1 < p.2
            · rw [if_pos ⟨h1, h2⟩] at Hn
              go_wp2_with fail
              exact ⟨⟨i + 1, by go_num, by omega, by rw [Hn.out, Int.add_assoc], K6, HB5, HB6⟩, by simp [intOf]; omega⟩
            · rw [if_neg (fun h => h1 h.1)] at Hn
              go_wp2_with fail
              exact ⟨⟨i + 1, by go_num, by omega, by rw [Hn.out, Int.add_zero], K6, HB5, HB6⟩, by simp [intOf]; omega⟩
          · rw [if_neg (fun h => h2 h.2)] at Hn
            go_wp2_with fail
            exact ⟨⟨i + 1, by go_num, by omega, by rw [Hn.out, Int.add_zero], K6, HB5, HB6⟩, by simp [intOf]; omega⟩
        · obtain rfl : i = bl.length := by omega
          have i2 : ¬ (bl.length : Int) < (bl.length : Int) := by omega
          rw [Hca.out]
          clear Hct Hcb Hc0 Hca Htl hcb
          go_wp2_with fail
          exact ⟨⟨D + 1, by go_num, by omega, by rw [Hs.out], K3, HB3⟩, by simp [intOf]; omega⟩
    · obtain rfl : D = N := by omega
      have b2 : ¬ (D : Int) < (D : Int) := by omega
      go_wp2_with fail
      go_ret
      exact Did.mk rfl KM.out.2
end Go.Proofs.Ytjjmajhldpoobaa
