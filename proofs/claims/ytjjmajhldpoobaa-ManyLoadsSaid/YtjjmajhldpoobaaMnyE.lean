/- The document's own answers for layer 16 (many): Over, Broken, Least, Same. -/
import Derived.Test.YtjjmajhldpoobaaMnyD
import Derived.Test.YtjjmajhldpoobaaPerT2
namespace Go.Proofs.Ytjjmajhldpoobaa
open Go.RowKit
open Whn (Gr Wh)

theorem own_bk {w : World} {base : Nat} {v : Value} {l : List (Int × Int)} (h : w.ownsRow base 25 2 v l.length (bcells l)) : ∃ A c, v = .slice A l.length c ∧ Es en2 w w.heap.size A l ∧ l.length ≤ c := own_es h
theorem bk_ad {w : World} {B : Nat} {A : Option Addr} {l : List (Int × Int)} (h : Es en2 w B A l) {k : Nat} (hk : k < l.length) : ∃ ad p, A = some ad ∧ ad.block < B ∧ Hid (l[k]? = some p) := by
  obtain ⟨ad, p, e, hb, hp, _⟩ := Es.get en2_len (by omega) h hk
  exact ⟨ad, p, e, hb, hp⟩
theorem bk_at {w : World} {B : Nat} {ad : Addr} {l : List (Int × Int)} (h : Es en2 w B (some ad) l) {k : Nat} {p : Int × Int} (hp : l[k]? = some p) : w.cell? (ad.add (k * 2)) = some (.int .i64 p.1) ∧ w.cell? ⟨(ad.add (k * 2)).block, (ad.add (k * 2)).off + 1, none⟩ = some (.int .i64 p.2) := by
  have h0 := es_at en2_len h hp 0 (.int .i64 p.1) rfl
  have h1 := es_at en2_len h hp 1 (.int .i64 p.2) rfl
  have e : ad.add (k * 2 + 1) = ⟨(ad.add (k * 2)).block, (ad.add (k * 2)).off + 1, none⟩ := by
    unfold Addr.add
    rw [if_neg (by omega)]
    by_cases h2 : k * 2 = 0
    · rw [if_pos h2, h2]
    · rw [if_neg h2]
      rfl
  exact ⟨h0, by rw [← e]; exact h1⟩
theorem busy_at {g : Gr} {l : List Wh} {D : Nat} (hD : D < Whn.daysN g) : (Whn.busy g l)[D]? = some (Whn.busyN g l D) := by
  unfold Whn.busy
  rw [List.getElem?_map, List.getElem?_range hD]
  rfl
theorem cntB_take {a : Int} {l : List (Int × Int)} {k : Nat} {p : Int × Int} (h : l[k]? = some p) : Whn.cntB a (l.take (k + 1)) = Whn.cntB a (l.take k) + (if 1 < p.2 ∧ a < p.1 then 1 else 0) := by
  have key : ∀ (x : List (Int × Int)), Whn.cntB a (x ++ [p]) = Whn.cntB a x + (if 1 < p.2 ∧ a < p.1 then 1 else 0) := by
    intro x
    induction x with
    | nil => show (if _ then (1 : Int) else 0) + 0 = 0 + _; omega
    | cons y x ih => rw [List.cons_append, Whn.cntB, Whn.cntB, ih]; omega
  rw [List.take_add_one, h]
  exact key _
set_option maxRecDepth 20000 in
set_option maxHeartbeats 8000000 in
theorem r16_Over (g : Gr) (k a b : Int) (ha : I64 a) (l : List Wh) (A : Option Addr) (c : Nat) (hok : ∀ y ∈ l, Wok y) (hm : l.length ≤ 10000) (w : World) (h : Whs w w.heap.size A l) :
    Calls Try.prog 21 #[gv g, .int .i64 k, .int .i64 a, .int .i64 b, .slice A l.length c] w (Did (.int .i64 (Whn.ovr g k a b l)) w) := by
  have HDy := hid (fun X h => r16_Days g l A c hok (by unfold maxLen; omega) X h)
  have HBu := hid (fun X h => r_Busy g l A c hok (by unfold maxLen; omega) X h)
  have HBl := hid (fun d X h => r16_Blocks g l A c hok hm d b X h)
  have H := hid h
  have hdc := Whn.dayC_bnd g l
  have hN := Whn.daysN_le g
  unfold I64 at ha
  obtain ⟨a2, ha2⟩ : ∃ a2, max a 0 = a2 := ⟨_, rfl⟩
  have m1 : (if a < 0 then 0 else a) = a2 := by rw [← ha2]; split <;> omega
  have m2 : (if 0 < a then a else 0) = a2 := by rw [← ha2]; split <;> omega
  have hab : 0 ≤ a2 ∧ a2 ≤ 9223372036854775807 := by omega
  obtain ⟨B, W, hB, hW, K, hb0⟩ := (Mem.nil w).one (gc g) 23
  obtain ⟨g0, g1, g2⟩ := K.out.gr (B := B) (g := g) (by simp)
  clear h hb0
  by_cases h21 : k = 21
  · subst h21
    have Hr := hid (show Whn.ovr g 21 a b l = max (Whn.dayC g l - a2) 0 by unfold Whn.ovr; rw [if_pos rfl, ha2])
    generalize Whn.ovr g 21 a b l = rr at *
    generalize Whn.dayC g l = dc at *
    have n0 : IntKind.i64.wrap (dc - a2) = dc - a2 := by rw [IntKind.wrap_i64]; omega
    have n1 : (if dc - a2 < 0 then 0 else dc - a2) = rr := by rw [Hr.out]; split <;> omega
    have n2 : (if 0 < dc - a2 then dc - a2 else 0) = rr := by rw [Hr.out]; split <;> omega
    clear ha ha2 hok HBu HBl
    go_enter Try.func21, Try.ntmps21
    go_wp2_with fail
    refine (HDy.out _ ((H.out.below K.out.2 (Nat.le_refl _)).more K.out.2.size)).mono ?_
    rintro e Y1 ⟨rfl, bz⟩
    have K1 := hid (K.out.next bz)
    clear g0 g1 g2 Hr
    go_wp2_with fail
    go_ret
    exact Did.mk rfl K1.out.2
  have q21 : (k == 21) = false := by rw [beq_eq_false_iff_ne]; exact h21
  have Hr := hid (show Whn.ovr g k a b l = Whn.sumN (Whn.ovrD g k a2 b l) (Whn.daysN g) by unfold Whn.ovr; rw [if_neg h21, ha2])
  have Hbk := hid (fun D (hD : D < Whn.daysN g) => show Whn.blkV g l (D : Int) b = Whn.blkN b g l D by unfold Whn.blkV; rw [if_pos (by omega), Int.toNat_natCast])
  have Hbl := hid (fun D => Whn.blkN_len b g l D)
  have Hbn := hid (fun D (hD : D < Whn.daysN g) => Whn.busyN_bnd g l hD)
  have Hba := hid (fun D (hD : D < Whn.daysN g) => busy_at (l := l) hD)
  have hbl := Whn.busy_len g l
  have Hod := hid (fun D (hD : D < Whn.daysN g) => Whn.ovrD_bnd g k a2 b l (by omega) hD)
  have HoD := hid (fun D => show Whn.ovrD g k a2 b l D = if k = 22 then max (Whn.busyN g l D - a2) 0 else if k = 23 then max (((Whn.blkN b g l D).length : Int) - 1 - a2) 0 else if k = 24 then Whn.cntB a2 (Whn.blkN b g l D) else 0 from rfl)
  generalize Whn.ovr g k a b l = rr at *
  generalize Whn.ovrD g k a2 b l = F at *
  have Hsb := hid (fun D (hD : D ≤ Whn.daysN g) => show 0 ≤ Whn.sumN F D ∧ Whn.sumN F D ≤ 2000000 by
    have h1 := Whn.sumN_ge (f := F) (n := D) (fun D' hD' => (Hod.out D' (by omega)).1)
    have h2 := Whn.sumN_le (f := F) (n := D) (M := 96 + l.length) (fun D' hD' => (Hod.out D' (by omega)).2)
    have h4 : (D : Int) * (96 + (l.length : Int)) ≤ 140 * 10096 := Int.mul_le_mul (by omega) (by omega) (by omega) (by omega)
    omega)
  generalize Whn.busy g l = bu at *
  generalize Whn.daysN g = N at *
  clear ha ha2 hok HDy hdc h21 Hod
  go_enter Try.func21, Try.ntmps21
  go_wp2_with fail
  refine (HBu.out _ ((H.out.below K.out.2 (Nat.le_refl _)).more K.out.2.size)).mono ?_
  rintro e Y1 ⟨AB, cb, rfl, hits, bz⟩
  have K1 := hid (K.out.next bz)
  have HI1 := hid hits
  clear g0 g1 g2 bz hB hW K hits HBu
  go_wp2_with fail
  go_loopw [11, 13] (fun nv dv wr => ∃ D : Nat, dv = .int .i64 D ∧ D ≤ N ∧ nv = .int .i64 (Whn.sumN F D) ∧ Hid (Mem w wr [(B, gc g, 23)]) ∧ Hid (Below Y1.heap.size Y1 wr)) (fun _ dv _ => N - (intOf dv).toNat)
  case atStart => exact ⟨0, rfl, Nat.zero_le _, rfl, K1, hid (Below.refl _ _)⟩
  case round =>
    clear K1
    obtain ⟨D, rfl, hD, rfl, KM, HBy⟩ := hrel
    have hsb := Hsb.out D hD
    by_cases hlt : D < N
    · have b1 : (0 : Int) ≤ (D : Int) := by omega
      have b2 : (D : Int) < (bu.length : Int) := by omega
      have hsb2 := Hsb.out (D + 1) hlt
      have Hs := hid (show Whn.sumN F (D + 1) = Whn.sumN F D + F D from rfl)
      have HoD1 := HoD.out D
      have hbn := Hbn.out D hlt
      have hba := hid (Hba.out D hlt)
      have HBl1 := hid (fun X h => HBl.out (D : Int) X h)
      rw [Hbk.out D hlt] at HBl1
      have hbll := Hbl.out D
      rw [Hs.out] at hsb2
      generalize Whn.busyN g l D = bn at *
      generalize Whn.blkN b g l D = bl at *
      generalize F D = fd at *
      generalize Whn.sumN F D = sn at *
      obtain ⟨g0, g1, g2⟩ := KM.out.gr (B := B) (g := g) (by simp)
      clear HBl Hbk Hbl Hbn Hba HoD Hsb Hr
      go_wp2_with fail
      refine (HBl1.out _ ((H.out.below KM.out.2 (Nat.le_refl _)).more KM.out.2.size)).mono ?_
      rintro e Y2 ⟨v2, rfl, hown2, bz⟩
      have K2 := hid (KM.out.next bz)
      have HB2 := hid (HBy.out.trans (bz.mono HBy.out.size))
      obtain ⟨A2, c2, rfl, hes, hc2⟩ := own_bk hown2
      have HE := hid hes
      clear g0 g1 g2 bz KM HBy hown2 hes HBl1
      by_cases h22 : k = 22
      · have q22 : (k == 22) = true := by rw [beq_iff_eq]; exact h22
        have q23 : (k == 23) = false := by rw [beq_eq_false_iff_ne]; omega
        have q24 : (k == 24) = false := by rw [beq_eq_false_iff_ne]; omega
        rw [if_pos h22] at HoD1
        clear h22
        have HoD2 := hid HoD1
        have n0 : IntKind.i64.wrap (bn - a2) = bn - a2 := by rw [IntKind.wrap_i64]; omega
        have n1 : (if bn - a2 < 0 then 0 else bn - a2) = fd := by rw [HoD2.out]; split <;> omega
        have n2 : (if 0 < bn - a2 then bn - a2 else 0) = fd := by rw [HoD2.out]; split <;> omega
        have n3 : IntKind.i64.wrap (sn + fd) = sn + fd := by rw [IntKind.wrap_i64]; omega
        clear HoD1
        obtain ⟨ad, x, rfl, had, hx, hcx⟩ := Its.get (HI1.out.below HB2.out (Nat.le_refl _)) (k := D) (by omega)
        obtain rfl : x = bn := Option.some.inj (hx.out.symm.trans hba.out)
        go_wp2_with fail
        go_loopw [11, 15] (fun nv iv wr => iv = .int .i64 (0 : Nat) ∧ nv = .int .i64 (sn + fd) ∧ Hid (Mem w wr [(B, gc g, 23)]) ∧ Hid (Below Y1.heap.size Y1 wr)) (fun _ _ _ => 0)
        case atStart => exact ⟨rfl, rfl, K2, HB2⟩
        case round =>
          clear K2 HB2
          obtain ⟨rfl, rfl, K2, HB2⟩ := hrel
          by_cases h0 : (0 : Int) < (bl.length : Int)
          · go_wp2_with fail
            exact ⟨⟨D + 1, by go_num, by omega, by rw [Hs.out], K2, HB2⟩, by simp [intOf]; omega⟩
          · go_wp2_with fail
            exact ⟨⟨D + 1, by go_num, by omega, by rw [Hs.out], K2, HB2⟩, by simp [intOf]; omega⟩
      by_cases h23 : k = 23
      · have q22 : (k == 22) = false := by rw [beq_eq_false_iff_ne]; omega
        have q23 : (k == 23) = true := by rw [beq_iff_eq]; exact h23
        have q24 : (k == 24) = false := by rw [beq_eq_false_iff_ne]; omega
        rw [if_neg h22, if_pos h23] at HoD1
        clear h22 h23
        have HoD2 := hid HoD1
        obtain ⟨L, hL⟩ : ∃ L, bl.length = L := ⟨_, rfl⟩
        rw [hL] at HoD2 hbll
        have n4 : IntKind.i64.wrap ((L : Int) - 1) = (L : Int) - 1 := by rw [IntKind.wrap_i64]; omega
        have n0 : IntKind.i64.wrap ((L : Int) - 1 - a2) = (L : Int) - 1 - a2 := by rw [IntKind.wrap_i64]; omega
        have n1 : (if (L : Int) - 1 - a2 < 0 then 0 else (L : Int) - 1 - a2) = fd := by rw [HoD2.out]; split <;> omega
        have n2 : (if 0 < (L : Int) - 1 - a2 then (L : Int) - 1 - a2 else 0) = fd := by rw [HoD2.out]; split <;> omega
        have n3 : IntKind.i64.wrap (sn + fd) = sn + fd := by rw [IntKind.wrap_i64]; omega
        clear HoD1
        go_wp2_with fail
        go_loopw [11, 15] (fun nv iv wr => iv = .int .i64 (0 : Nat) ∧ nv = .int .i64 (sn + fd) ∧ Hid (Mem w wr [(B, gc g, 23)]) ∧ Hid (Below Y1.heap.size Y1 wr)) (fun _ _ _ => 0)
        case atStart => exact ⟨rfl, rfl, K2, HB2⟩
        case round =>
          clear K2 HB2
          obtain ⟨rfl, rfl, K2, HB2⟩ := hrel
          by_cases h0 : (0 : Int) < (L : Int)
          · go_wp2_with fail
            exact ⟨⟨D + 1, by go_num, by omega, by rw [Hs.out], K2, HB2⟩, by simp [intOf]; omega⟩
          · go_wp2_with fail
            exact ⟨⟨D + 1, by go_num, by omega, by rw [Hs.out], K2, HB2⟩, by simp [intOf]; omega⟩
      by_cases h24 : k = 24
      · have q22 : (k == 22) = false := by rw [beq_eq_false_iff_ne]; omega
        have q23 : (k == 23) = false := by rw [beq_eq_false_iff_ne]; omega
        have q24 : (k == 24) = true := by rw [beq_iff_eq]; exact h24
        rw [if_neg h22, if_neg h23, if_pos h24] at HoD1
        clear h22 h23 h24
        have HoD2 := hid HoD1
        clear HoD1
        have Hct := hid (fun i p (hp : bl[i]? = some p) => cntB_take (a := a2) hp)
        have Hcb := hid (fun i => Whn.cntB_bnd a2 (bl.take i))
        have Hc0 := hid (show Whn.cntB a2 (bl.take 0) = 0 from rfl)
        have Hca := hid (show Whn.cntB a2 (bl.take bl.length) = fd by rw [List.take_length, HoD2.out])
        have Htl := hid (fun i => show (bl.take i).length ≤ i by rw [List.length_take]; omega)
        obtain ⟨cf, hcf⟩ : ∃ cf : Nat → Int, ∀ i, Whn.cntB a2 (bl.take i) = cf i := ⟨_, fun _ => rfl⟩
        simp only [hcf] at Hct Hcb Hc0 Hca
        clear hcf
        go_wp2_with fail
        go_loopw [11, 15] (fun nv iv wr => ∃ i : Nat, iv = .int .i64 i ∧ i ≤ bl.length ∧ nv = .int .i64 (sn + cf i) ∧ Hid (Mem w wr [(B, gc g, 23)]) ∧ Hid (Below Y1.heap.size Y1 wr) ∧ Hid (Below Y2.heap.size Y2 wr)) (fun _ iv _ => bl.length - (intOf iv).toNat)
        case atStart => exact ⟨0, rfl, Nat.zero_le _, by rw [Hc0.out, Int.add_zero], K2, HB2, hid (Below.refl _ _)⟩
        case round =>
          clear K2 HB2
          obtain ⟨i, rfl, hi, rfl, K2, HB2, HB3⟩ := hrel
          have hcb := Hcb.out i
          have htl := Htl.out i
          by_cases hil : i < bl.length
          · obtain ⟨ad, p, rfl, had, hp⟩ := bk_ad HE.out hil
            obtain ⟨c0, c1⟩ := bk_at (HE.out.below HB3.out (Nat.le_refl _)) hp.out
            have i1 : (0 : Int) ≤ (i : Int) := by omega
            have i2 : (i : Int) < (bl.length : Int) := by omega
            have Hn := hid (Hct.out i p hp.out)
            have n5 : IntKind.i64.wrap (sn + cf i + 1) = sn + cf i + 1 := by rw [IntKind.wrap_i64]; omega
            generalize cf i = ci at *
            clear Hct Hcb Hc0 Hca Htl
            by_cases h1 : 1 < p.2
            · by_cases h2 : a2 < p.1
              · rw [if_pos ⟨h1, h2⟩] at Hn
                go_wp2_with fail
                exact ⟨⟨i + 1, by go_num, by omega, by rw [Hn.out, Int.add_assoc], K2, HB2, HB3⟩, by simp [intOf]; omega⟩
              · rw [if_neg (fun h => h2 h.2)] at Hn
                go_wp2_with fail
                exact ⟨⟨i + 1, by go_num, by omega, by rw [Hn.out, Int.add_zero], K2, HB2, HB3⟩, by simp [intOf]; omega⟩
            · rw [if_neg (fun h => h1 h.1)] at Hn
              go_wp2_with fail
              exact ⟨⟨i + 1, by go_num, by omega, by rw [Hn.out, Int.add_zero], K2, HB2, HB3⟩, by simp [intOf]; omega⟩
          · obtain rfl : i = bl.length := by omega
            have i2 : ¬ (bl.length : Int) < (bl.length : Int) := by omega
            rw [Hca.out]
            clear Hct Hcb Hc0 Hca Htl hcb
            go_wp2_with fail
            exact ⟨⟨D + 1, by go_num, by omega, by rw [Hs.out], K2, HB2⟩, by simp [intOf]; omega⟩
      have q22 : (k == 22) = false := by rw [beq_eq_false_iff_ne]; omega
      have q23 : (k == 23) = false := by rw [beq_eq_false_iff_ne]; omega
      have q24 : (k == 24) = false := by rw [beq_eq_false_iff_ne]; omega
      rw [if_neg h22, if_neg h23, if_neg h24] at HoD1
      clear h22 h23 h24
      subst HoD1
      go_wp2_with fail
      go_loopw [11, 15] (fun nv iv wr => iv = .int .i64 (0 : Nat) ∧ nv = .int .i64 (sn) ∧ Hid (Mem w wr [(B, gc g, 23)]) ∧ Hid (Below Y1.heap.size Y1 wr)) (fun _ _ _ => 0)
      case atStart => exact ⟨rfl, rfl, K2, HB2⟩
      case round =>
        clear K2 HB2
        obtain ⟨rfl, rfl, K2, HB2⟩ := hrel
        by_cases h0 : (0 : Int) < (bl.length : Int)
        · go_wp2_with fail
          exact ⟨⟨D + 1, by go_num, by omega, by rw [Hs.out, Int.add_zero], K2, HB2⟩, by simp [intOf]; omega⟩
        · go_wp2_with fail
          exact ⟨⟨D + 1, by go_num, by omega, by rw [Hs.out, Int.add_zero], K2, HB2⟩, by simp [intOf]; omega⟩
    · obtain rfl : D = N := by omega
      have b2 : ¬ (D : Int) < (bu.length : Int) := by omega
      have Hr2 := hid Hr.out
      clear HoD Hbk Hbl Hbn Hba Hsb Hr
      generalize Whn.sumN F D = sn at *
      go_wp2_with fail
      go_ret
      exact Did.mk (by rw [Hr2.out]; rfl) KM.out.2
end Go.Proofs.Ytjjmajhldpoobaa
