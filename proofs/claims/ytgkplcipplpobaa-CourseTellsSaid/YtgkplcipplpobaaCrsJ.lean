/- The document's own all for layer 14 (course). -/
import Derived.Test.YtgkplcipplpobaaCrsI
namespace Go.Proofs.Ytgkplcipplpobaa
open Go.RowKit
open Whn (Gr Wh)
set_option linter.unusedSimpArgs false

/-- hands out a row of rows -/
def RRet (ls : List (List Int)) (w : World) (e : Ending) (w' : World) : Prop := ∃ A c, e = .returned (.slice A ls.length c) ∧ RRow w' A ls ∧ ls.length ≤ c ∧ Below w.heap.size w w' ∧ ∀ ad, A = some ad → w.heap.size ≤ ad.block
/-- the slice value is such a row, of the call's own -/
def RAt (w : World) (base : Nat) (v : Value) (ls : List (List Int)) : Prop := ∃ A c, v = .slice A ls.length c ∧ RRow w A ls ∧ ls.length ≤ c ∧ ∀ ad, A = some ad → base ≤ ad.block
theorem OwR.rat {w : World} {base b2 : Nat} {v : Value} {ls : List (List Int)} (h : OwR w base v ls) (hb : b2 ≤ base) : RAt w b2 v ls := by
  obtain ⟨A, c, e, hr, hc, ha⟩ := h.rrow
  obtain ⟨vals, ho, _⟩ := h
  exact ⟨A, c, e, hr, hc, fun ad e2 => Nat.le_trans hb (ho.lt _ (ha ad e2).symm).1⟩
theorem rrow_lit (W : World) : RRow ((W.alloc (.cells #[] 3)).alloc (.cells #[.slice (some ⟨W.heap.size, 0, none⟩) 0 0] 29)) (some ⟨W.heap.size + 1, 0, none⟩) [[]] := fun _ => by
  have hz : (W.alloc (.cells #[] 3)).heap.size = W.heap.size + 1 := by go_simp
  have hN := Ob.new (W.alloc (.cells #[] 3)) [.slice (some ⟨W.heap.size, 0, none⟩) 0 0] 29
  rw [hz] at hN
  refine ⟨_, _, rfl, hN, fun k l hl => ?_⟩
  have hk : k = 0 := by
    have := (List.getElem?_eq_some_iff.1 hl).1
    simp only [List.length_singleton] at this
    omega
  subst hk
  injection hl with hl
  subst hl
  exact ⟨_, _, hN.cell rfl, Nat.le_refl _, fun h => absurd rfl h⟩
theorem src_obv {P : Program} {X : World} {e' tx t : TypeId} (hk : P.underlying tx = some (.slice e')) {b : Nat} {v : Value} (h : Ob X b [v] t) (h1 : v.oneCell' = true) : Src P 1 tx (.slice (some ⟨b, 0, none⟩) 1 1) 1 [v] X :=
  Src.ofSlice X hk ⟨b, 0, none⟩ 1 1 [v] rfl (fun j u hu => by
    have hj : j = 0 := by
      have := (List.getElem?_eq_some_iff.1 hu).1
      simp only [List.length_cons, List.length_nil] at this
      omega
    subst hj
    exact h.cell hu) (fun u hu => by rw [List.mem_singleton] at hu; rw [hu]; exact h1)
set_option maxRecDepth 20000 in
set_option maxHeartbeats 8000000 in
theorem r_all (B : Option Addr) (d : Nat) (ls : List (List Int)) (hl4 : ls.length ≤ 4) (hl8 : ∀ l ∈ ls, l.length ≤ 8) (w : World) (hB : Rows2 w w.heap.size B ls) :
    Calls Try.prog 40 #[.agg #[.slice B ls.length d]] w (RRet (allN ls ls.length) w) := by
  have HL8 := hid hl8
  have H := hid hB
  have Hz := hid (show allN ls 0 = [[]] from rfl)
  have Hst := hid (fun k v (h : ls[k]? = some v) => show allN ls (k + 1) = (allN ls k).flatMap (addC v) by rw [allN, List.getD_eq_getElem?_getD, h]; rfl)
  have Hmx := hid (fun k (hk : k ≤ 4) => allN_max hl8 hk)
  have Hrow := hid (fun k r (h : r ∈ allN ls k) => allN_row h)
  obtain ⟨i0, hi0, hz0, hz1, hz2⟩ := info_parts Try.info_int14
  obtain ⟨j0, hj0, hy0, hy1, hy2⟩ := info_parts Try.info_row14
  generalize allN ls = an at *
  obtain ⟨P, W, hP, hW, K, hb0⟩ := (Mem.nil w).one [.slice B ls.length d] 42
  have HPw := hid (show w.heap.size ≤ P from by omega)
  have K0 := hid ((K.out.next ((Below.refl W.heap.size W).alloc (Nat.le_refl _) (.cells #[] 3))).next (Below.alloc (Below.refl (W.alloc (.cells #[] 3)).heap.size _) (Nat.le_refl _) (.cells #[.slice (some ⟨W.heap.size, 0, none⟩) 0 0] 29)))
  have HR0 := hid (rrow_lit W)
  have HWw := hid K.out.2.size
  clear hb0 hB hl8
  go_enter Try.func40, Try.ntmps40
  go_wp2_with fail
  clear hP hW K
  go_loopw [3, 4] (fun lv i wr => ∃ (k : Nat), i = .int .i64 k ∧ k ≤ ls.length ∧ Hid (Mem w wr [(P, [.slice B ls.length d], 42)]) ∧ Hid (RAt wr w.heap.size lv (an k))) (fun _ i _ => ls.length - (intOf i).toNat)
  case atStart => exact ⟨0, rfl, Nat.zero_le _, K0, hid ⟨some ⟨W.heap.size + 1, 0, none⟩, 1, by rw [Hz.out]; rfl, by rw [Hz.out]; exact HR0.out, by rw [Hz.out]; exact Nat.le_refl _, fun ad e => by rw [← Option.some.inj e]; exact Nat.le_succ_of_le HWw.out⟩⟩
  case round =>
    clear K0 HR0 HWw
    obtain ⟨V, rfl⟩ : ∃ V, V = wr := ⟨_, rfl⟩
    obtain ⟨k, rfl, hk, K1, HO⟩ := hrel
    obtain ⟨A, c, rfl, hr1, hc1, hbs⟩ := HO.out
    have HA := hid hr1
    have Hbs := hid hbs
    clear HO hr1 hbs
    have d0 := K1.out.cell (b := P) (cs := [.slice B ls.length d]) (t := 42) (by simp) (k := 0) rfl
    by_cases hlt : k < ls.length
    · obtain ⟨ad, Ak, ck, v, hae, hadb, hx, hxl, hcx, hrx, hckx⟩ := H.out.get hlt
      have hv8 := HL8.out v hxl
      have b1 : (0 : Int) ≤ (k : Int) := by omega
      have b2 : (k : Int) < ls.length := by omega
      have hbx : (ad.add k).block < w.heap.size := by rw [add_block]; exact hadb
      have Hcx := hid hcx
      have HV := hid hrx
      have Hsk := hid (Hst.out k v hx.out)
      have Hm1 := hid (Hmx.out k (by omega))
      have Hr1 := hid (Hrow.out k)
      obtain ⟨L, hL⟩ : ∃ L, an k = L := ⟨_, rfl⟩
      rw [hL] at HA hc1 Hsk Hm1 Hr1 ⊢
      have Hn0 := hid (nx_zero L v)
      have Hnn := hid (fun i n r y h1 h2 => nx_next (L := L) (v := v) (r := r) (i := i) (n := n) (y := y) h1 h2)
      have Hnr := hid (fun i h => nx_row (L := L) (v := v) (i := i) h)
      have Hne := hid (nx_end L v)
      have Hnl := hid (fun i n => nx_len (L := L) (v := v) (i := i) (n := n) Hm1.out hv8)
      rw [← Hsk.out] at Hne
      generalize nxN L v = nx at *
      have hLm := Hm1.out
      subst hae
      have own0 := hid (show OwR V V.heap.size (.slice none 0 0) (nx 0 0) from by rw [Hn0.out]; exact ⟨[], World.ownsRow_nil _ _ _ _, fun k l hl => by cases hl⟩)
      clear hcx hrx hckx hL Hsk Hm1 Hst Hmx Hrow hx hxl
      go_wp2_with fail
      clear d0
      go_loopw [5, 6] (fun nv i wz => ∃ (j : Nat), i = .int .i64 j ∧ j ≤ L.length ∧ Hid (Below V.heap.size V wz) ∧ Hid (OwR wz V.heap.size nv (nx j 0))) (fun _ i _ => L.length - (intOf i).toNat)
      case atStart => exact ⟨0, rfl, Nat.zero_le _, hid (Below.refl _ _), own0⟩
      case round =>
        clear own0
        obtain ⟨V2, rfl⟩ : ∃ V, V = wr := ⟨_, rfl⟩
        obtain ⟨j, rfl, hj, HB, HO⟩ := hrel
        by_cases hlt2 : j < L.length
        · obtain ⟨ae, Bk, dk, r, hbe, haeb, hy, hyl, hcy, hry, hdky⟩ := HA.out.get hlt2
          have hrl : r.length ≤ 4 := by have := Hr1.out r hyl; omega
          have b3 : (0 : Int) ≤ (j : Int) := by omega
          have b4 : (j : Int) < L.length := by omega
          have Hcy := hid hcy
          have HRr := hid hry
          have Hnj := hid (fun n y h => Hnn.out j n r y hy.out h)
          have Hnj2 := hid (Hnr.out j hlt2)
          have Hnlj := hid (Hnl.out j)
          subst hbe
          clear hcy hry Hnn Hnr Hnl hy hyl
          go_wp2_with fail
          go_loopw [5, 7] (fun nv i wz => ∃ (n : Nat), i = .int .i64 n ∧ n ≤ v.length ∧ Hid (Below V.heap.size V wz) ∧ Hid (OwR wz V.heap.size nv (nx j n))) (fun _ i _ => v.length - (intOf i).toNat)
          case atStart => exact ⟨0, rfl, Nat.zero_le _, HB, HO⟩
          case round =>
            clear HB HO
            obtain ⟨V3, rfl⟩ : ∃ V, V = wr := ⟨_, rfl⟩
            obtain ⟨n, rfl, hn, HB, HO⟩ := hrel
            have K3 := hid (K1.out.next HB.out)
            have d0 := K3.out.cell (b := P) (cs := [.slice (some ad) ls.length d]) (t := 42) (by simp) (k := 0) rfl
            have hcx1 := (K3.out.2.cell (p := ad.add k) hbx).trans Hcx.out
            by_cases hlt3 : n < v.length
            · obtain ⟨ag, y, hcg, hagb, hyn, hcell⟩ := Its.get HV.out hlt3
              have b5 : (0 : Int) ≤ (n : Int) := by omega
              have b6 : (n : Int) < v.length := by omega
              have Hnn := hid (Hnj.out n y hyn.out)
              have Hnl := hid (Hnlj.out n)
              subst hcg
              have HcV := hid ((K1.out.2.cell (p := ad.add k) hbx).trans Hcx.out)
              have HgV := hid (show V.cell? (ag.add n) = some (.int .i64 y) from (K1.out.2.cell (p := ag.add n) (by rw [add_block]; exact hagb)).trans hcell)
              have HdV := hid (K1.out.cell (b := P) (cs := [.slice (some ad) ls.length d]) (t := 42) (by simp) (k := 0) rfl)
              have hPV : P < V.heap.size := (K1.out.at_ (b := P) (cs := [.slice (some ad) ls.length d]) (t := 42) (by simp)).lt
              have hdV : (ad.add k).block < V.heap.size := by rw [add_block]; exact Nat.lt_of_lt_of_le hadb K1.out.2.size
              have hgV : (ag.add n).block < V.heap.size := by rw [add_block]; exact Nat.lt_of_lt_of_le hagb K1.out.2.size
              have heV : (ae.add j).block < V.heap.size := by rw [add_block]; exact haeb
              clear hcell
              go_wp2_with fail
              clear hcx1 d0
              refine wp_region_held_drew (S := fun X => Below V.heap.size V X) (by kernel_rfl) (HB.out.drew) (fun hHeld => ?_)
              refine takeH 0 33 (u5) rfl rfl (by kernel_rfl) (by kernel_rfl) (by kernel_rfl) (fun _ _ _ h => h) (by kernel_rfl) (fun X hX => by clear hX; first | rfl | go_simp) hHeld ?_
              simp only [Act.put, List.setIfInBounds_toArray, List.set_cons_zero, List.set_cons_succ]
              refine takeH 2 35 (.slice (some ae) L.length c) rfl rfl (by kernel_rfl) (by kernel_rfl) (by kernel_rfl) (fun _ _ _ h => h) (by kernel_rfl) (fun X hX => by clear hX; first | rfl | go_simp) hHeld ?_
              simp only [Act.put, List.setIfInBounds_toArray, List.set_cons_zero, List.set_cons_succ]
              refine takeH 3 36 (.int .i64 (j : Int)) rfl rfl (by kernel_rfl) (by kernel_rfl) (by kernel_rfl) (fun _ _ _ h => h) (by kernel_rfl) (fun X hX => by clear hX; first | rfl | go_simp) hHeld ?_
              simp only [Act.put, List.setIfInBounds_toArray, List.set_cons_zero, List.set_cons_succ]
              refine takeH 4 37 (.pointer (some (ae.add j))) rfl rfl (by kernel_rfl) (by kernel_rfl) (by kernel_rfl) (fun _ _ _ h => h) (by kernel_rfl) (fun X hX => by clear hX; first | rfl | go_simp) hHeld ?_
              simp only [Act.put, List.setIfInBounds_toArray, List.set_cons_zero, List.set_cons_succ]
              refine takeH 5 38 (.slice Bk r.length dk) rfl rfl (by kernel_rfl) (by kernel_rfl) (by kernel_rfl) (fun _ _ _ h => h) (by kernel_rfl) (fun X hX => by have q := (hX.cell heV).trans Hcy.out; clear hX; go_simp) hHeld ?_
              simp only [Act.put, List.setIfInBounds_toArray, List.set_cons_zero, List.set_cons_succ]
              refine takeH 7 40 (.pointer (some ⟨P, 0, none⟩)) rfl rfl (by kernel_rfl) (by kernel_rfl) (by kernel_rfl) (fun _ _ _ h => h) (by kernel_rfl) (fun X hX => by clear hX; first | rfl | go_simp) hHeld ?_
              simp only [Act.put, List.setIfInBounds_toArray, List.set_cons_zero, List.set_cons_succ]
              refine takeH 8 41 (.slice (some ad) ls.length d) rfl rfl (by kernel_rfl) (by kernel_rfl) (by kernel_rfl) (fun _ _ _ h => h) (by kernel_rfl) (fun X hX => by have q := (hX.cell (p := ⟨P, 0, none⟩) hPV).trans HdV.out; clear hX; go_simp) hHeld ?_
              simp only [Act.put, List.setIfInBounds_toArray, List.set_cons_zero, List.set_cons_succ]
              refine takeH 9 42 (.int .i64 (k : Int)) rfl rfl (by kernel_rfl) (by kernel_rfl) (by kernel_rfl) (fun _ _ _ h => h) (by kernel_rfl) (fun X hX => by clear hX; first | rfl | go_simp) hHeld ?_
              simp only [Act.put, List.setIfInBounds_toArray, List.set_cons_zero, List.set_cons_succ]
              refine takeH 10 43 (.pointer (some (ad.add k))) rfl rfl (by kernel_rfl) (by kernel_rfl) (by kernel_rfl) (fun _ _ _ h => h) (by kernel_rfl) (fun X hX => by clear hX; first | rfl | go_simp) hHeld ?_
              simp only [Act.put, List.setIfInBounds_toArray, List.set_cons_zero, List.set_cons_succ]
              refine takeH 11 44 (.slice (some ag) v.length ck) rfl rfl (by kernel_rfl) (by kernel_rfl) (by kernel_rfl) (fun _ _ _ h => h) (by kernel_rfl) (fun X hX => by have q := (hX.cell hdV).trans HcV.out; clear hX; go_simp) hHeld ?_
              simp only [Act.put, List.setIfInBounds_toArray, List.set_cons_zero, List.set_cons_succ]
              refine takeH 12 45 (.int .i64 (n : Int)) rfl rfl (by kernel_rfl) (by kernel_rfl) (by kernel_rfl) (fun _ _ _ h => h) (by kernel_rfl) (fun X hX => by clear hX; first | rfl | go_simp) hHeld ?_
              simp only [Act.put, List.setIfInBounds_toArray, List.set_cons_zero, List.set_cons_succ]
              refine takeH 13 46 (.pointer (some (ag.add n))) rfl rfl (by kernel_rfl) (by kernel_rfl) (by kernel_rfl) (fun _ _ _ h => h) (by kernel_rfl) (fun X hX => by clear hX; first | rfl | go_simp) hHeld ?_
              simp only [Act.put, List.setIfInBounds_toArray, List.set_cons_zero, List.set_cons_succ]
              refine takeH 14 47 (.int .i64 y) rfl rfl (by kernel_rfl) (by kernel_rfl) (by kernel_rfl) (fun _ _ _ h => h) (by kernel_rfl) (fun X hX => by have q := (hX.cell hgV).trans HgV.out; clear hX; go_simp) hHeld ?_
              simp only [Act.put, List.setIfInBounds_toArray, List.set_cons_zero, List.set_cons_succ]
              have hd0 : Below V3.heap.size V3 V3.drew := (Below.refl _ V3).drew
              have hnl := Hnl.out
              have q1 : 0 + r.length ≤ maxLen := by unfold maxLen; omega
              have q2 : (0 + r.length) * 8 ≤ 140737488355328 := by omega
              have q3 : 0 + r.length + 1 ≤ maxLen := by unfold maxLen; omega
              have q4 : (0 + r.length + 1) * 8 ≤ 140737488355328 := by omega
              have q5 : (nx j n).length + 1 ≤ maxLen := by unfold maxLen; omega
              have q6 : ((nx j n).length + 1) * 24 ≤ 140737488355328 := by omega
              have hS1 := hid (fun X (hX : Below V3.heap.size V3 X) => src_its (P := Try.prog) X Try.underlying29 (c := dk) (rfl : r.length = r.length) (HRr.out.its.below (below2 HB.out hX) (Nat.le_refl _)))
              refine wpAnyH_ready (rs := [1, 15]) (by kernel_rfl) (by simp) ?_
              refine (AllReadyH.cons rfl (fun KK hK => ?_) (AllReadyH.cons rfl (fun KK hK => ?_) AllReadyH.nil))
              · skip
                simp only [List.getElem_toArray, List.getElem_cons_succ, List.getElem_cons_zero]
                go_simp
                have hB0 := Below.alloc hd0 hd0.size (.cells #[] 3)
                have hL0 := World.ownsRow_lit (base := V3.heap.size) (e := 3) (size := 1) V3.drew #[] 0 hd0.size (by unfold maxLen; omega) rfl
                refine hK.out _ _ (below2 HB.out hB0) (fun hHeld => ?_)
                clear hK KK
                try simp only [Act.put, List.setIfInBounds_toArray, List.set_cons_zero, List.set_cons_succ]
                refine wpAnyH_ready (rs := [6, 15]) (by kernel_rfl) (by simp) ?_
                refine (AllReadyH.cons rfl (fun KK hK => ?_) (AllReadyH.cons rfl (fun KK hK => ?_) AllReadyH.nil))
                · skip
                  refine step_append_srcN rfl (.tmp 34) (.tmp 38) 29 29 rfl V3.heap.size 3 i0 (.int .i64 0) 1 8 Try.underlying29 hi0 hz0 hz1 hz2 rfl _ _ _ (by rfl) hL0 _ _ _ (by rfl) (hS1.out _ hB0) q1 q2 hB0.size ?_
                  intro va wa howna hgra
                  have hba : Below V3.heap.size V3 wa := Below.grown hB0 hgra hB0.size (fun k hk => ((hL0).lt k hk).1)
                  refine hK.out _ _ (below2 HB.out hba) (fun hHeld => ?_)
                  clear hK KK
                  try simp only [Act.put, List.setIfInBounds_toArray, List.set_cons_zero, List.set_cons_succ]
                  refine wpAnyH_ready (rs := [15]) (by kernel_rfl) (by simp) ?_
                  refine (AllReadyH.cons rfl (fun KK hK => ?_) AllReadyH.nil)
                  simp only [List.getElem_toArray, List.getElem_cons_succ, List.getElem_cons_zero]
                  go_simp
                  have hB1 := Below.alloc hba hba.size (.cells #[.int .i64 y] 3)
                  have hN1 := hid (Ob.new wa [Value.int .i64 y] 3)
                  refine hK.out _ _ (below2 HB.out hB1) (fun hHeld => ?_)
                  clear hK KK
                  try simp only [Act.put, List.setIfInBounds_toArray, List.set_cons_zero, List.set_cons_succ]
                  have hownb := hid (own_below howna (below_alloc wa (.cells #[.int .i64 y] 3)))
                  refine wpAnyH_ready (rs := [16]) (by kernel_rfl) (by simp) ?_
                  refine (AllReadyH.cons rfl (fun KK hK => ?_) AllReadyH.nil)
                  refine step_append_srcN rfl (.tmp 39) (.tmp 48) 29 29 rfl V3.heap.size 3 i0 (.int .i64 0) 1 8 Try.underlying29 hi0 hz0 hz1 hz2 rfl _ _ _ (by rfl) hownb.out _ _ _ (by rfl) (src_ob Try.underlying29 hN1.out) q3 q4 hB1.size ?_
                  intro vc wc hownc hgrc
                  have hbc : Below V3.heap.size V3 wc := Below.grown hB1 hgrc hB1.size (fun k hk => ((hownb.out).lt k hk).1)
                  refine hK.out _ _ (below2 HB.out hbc) (fun hHeld => ?_)
                  clear hK KK
                  try simp only [Act.put, List.setIfInBounds_toArray, List.set_cons_zero, List.set_cons_succ]
                  obtain ⟨B1, c1, hv1, hI, hcI⟩ := IntRow.of_own (l := r ++ [y]) (by have := hownc; rw [List.nil_append] at this; rw [List.map_append]; exact this)
                  rw [show (r ++ [y]).length = r.length + 1 by rw [List.length_append]; rfl] at hv1
                  subst hv1
                  refine wpAnyH_ready (rs := [17]) (by kernel_rfl) (by simp) ?_
                  refine (AllReadyH.cons rfl (fun KK hK => ?_) AllReadyH.nil)
                  simp only [List.getElem_toArray, List.getElem_cons_succ, List.getElem_cons_zero]
                  go_simp
                  have hB17 := Below.alloc hbc hbc.size (.cells #[.slice B1 (r.length + 1) c1] 29)
                  have hN17 := hid (Ob.new wc [Value.slice B1 (r.length + 1) c1] 29)
                  have hI17 := hid (hI.next (below_alloc wc (.cells #[.slice B1 (r.length + 1) c1] 29)))
                  refine hK.out _ _ (below2 HB.out hB17) (fun hHeld => ?_)
                  clear hK KK
                  try simp only [Act.put, List.setIfInBounds_toArray, List.set_cons_zero, List.set_cons_succ]
                  refine wpAnyH_ready (rs := [18]) (by kernel_rfl) (by simp) ?_
                  refine (AllReadyH.cons rfl (fun KK hK => ?_) AllReadyH.nil)
                  obtain ⟨vals, ho, hc⟩ := HO.out.next hB17
                  refine step_append_srcN rfl (.tmp 33) (.tmp 50) 34 34 rfl V.heap.size 29 j0 (.slice none 0 0) 1 24 Try.underlying34 hj0 hy0 hy1 hy2 rfl _ _ _ (by rfl) ho _ _ _ (by rfl) (src_obv Try.underlying34 hN17.out rfl) q5 q6 (below2 HB.out hB17).size ?_
                  intro vz wz hownz hgrz
                  have hSz : Below V.heap.size V wz := Below.grown (below2 HB.out hB17) hgrz (below2 HB.out hB17).size (fun k hk => (ho.lt k hk).1)
                  have hOz := hid (OwR.push (r := r ++ [y]) (c := c1) ho hc hI17.out hcI hgrz (by rw [List.length_append]; exact hownz))
                  rw [← Hnn.out] at hOz
                  refine hK.out _ _ hSz (fun hHeld => ?_)
                  clear hK KK
                  try simp only [Act.put, List.setIfInBounds_toArray, List.set_cons_zero, List.set_cons_succ]
                  refine wpAnyH_ready (rs := [19]) (by kernel_rfl) (by simp) ?_
                  refine (AllReadyH.cons rfl (fun KK hK => ?_) AllReadyH.nil)
                  simp only [List.getElem_toArray, List.getElem_cons_succ, List.getElem_cons_zero]
                  go_simp
                  refine hK.out _ _ hSz (fun hHeld => ?_)
                  clear hK KK
                  try simp only [Act.put, List.setIfInBounds_toArray, List.set_cons_zero, List.set_cons_succ]
                  refine wpAnyH_done (by kernel_rfl) ?_ _
                  clear hHeld
                  go_wp2_with fail
                  exact ⟨⟨n + 1, by go_num, by omega, hid hSz, hOz⟩, by simp [intOf]; omega⟩
                · skip
                  simp only [List.getElem_toArray, List.getElem_cons_succ, List.getElem_cons_zero]
                  go_simp
                  have hB1 := Below.alloc hB0 hB0.size (.cells #[.int .i64 y] 3)
                  have hN1 := hid (Ob.new (V3.drew.alloc (.cells #[] 3)) [Value.int .i64 y] 3)
                  refine hK.out _ _ (below2 HB.out hB1) (fun hHeld => ?_)
                  clear hK KK
                  try simp only [Act.put, List.setIfInBounds_toArray, List.set_cons_zero, List.set_cons_succ]
                  have hzs : (V3.drew.alloc (.cells #[] 3)).heap.size = V3.heap.size + 1 := by go_simp
                  rw [hzs] at hN1
                  have hL1 := hid (own_below hL0 (below_alloc _ (.cells #[.int .i64 y] 3)))
                  refine wpAnyH_ready (rs := [6]) (by kernel_rfl) (by simp) ?_
                  refine (AllReadyH.cons rfl (fun KK hK => ?_) AllReadyH.nil)
                  refine step_append_srcN rfl (.tmp 34) (.tmp 38) 29 29 rfl V3.heap.size 3 i0 (.int .i64 0) 1 8 Try.underlying29 hi0 hz0 hz1 hz2 rfl _ _ _ (by rfl) hL1.out _ _ _ (by rfl) (hS1.out _ hB1) q1 q2 hB1.size ?_
                  intro va wa howna hgra
                  have hba : Below V3.heap.size V3 wa := Below.grown hB1 hgra hB1.size (fun k hk => ((hL1.out).lt k hk).1)
                  refine hK.out _ _ (below2 HB.out hba) (fun hHeld => ?_)
                  clear hK KK
                  try simp only [Act.put, List.setIfInBounds_toArray, List.set_cons_zero, List.set_cons_succ]
                  have hNa := hid (ob_grown hN1.out hgra (by simp))
                  refine wpAnyH_ready (rs := [16]) (by kernel_rfl) (by simp) ?_
                  refine (AllReadyH.cons rfl (fun KK hK => ?_) AllReadyH.nil)
                  refine step_append_srcN rfl (.tmp 39) (.tmp 48) 29 29 rfl V3.heap.size 3 i0 (.int .i64 0) 1 8 Try.underlying29 hi0 hz0 hz1 hz2 rfl _ _ _ (by rfl) howna _ _ _ (by rfl) (src_ob Try.underlying29 hNa.out) q3 q4 hba.size ?_
                  intro vc wc hownc hgrc
                  have hbc : Below V3.heap.size V3 wc := Below.grown hba hgrc hba.size (fun k hk => ((howna).lt k hk).1)
                  refine hK.out _ _ (below2 HB.out hbc) (fun hHeld => ?_)
                  clear hK KK
                  try simp only [Act.put, List.setIfInBounds_toArray, List.set_cons_zero, List.set_cons_succ]
                  obtain ⟨B1, c1, hv1, hI, hcI⟩ := IntRow.of_own (l := r ++ [y]) (by have := hownc; rw [List.nil_append] at this; rw [List.map_append]; exact this)
                  rw [show (r ++ [y]).length = r.length + 1 by rw [List.length_append]; rfl] at hv1
                  subst hv1
                  refine wpAnyH_ready (rs := [17]) (by kernel_rfl) (by simp) ?_
                  refine (AllReadyH.cons rfl (fun KK hK => ?_) AllReadyH.nil)
                  simp only [List.getElem_toArray, List.getElem_cons_succ, List.getElem_cons_zero]
                  go_simp
                  have hB17 := Below.alloc hbc hbc.size (.cells #[.slice B1 (r.length + 1) c1] 29)
                  have hN17 := hid (Ob.new wc [Value.slice B1 (r.length + 1) c1] 29)
                  have hI17 := hid (hI.next (below_alloc wc (.cells #[.slice B1 (r.length + 1) c1] 29)))
                  refine hK.out _ _ (below2 HB.out hB17) (fun hHeld => ?_)
                  clear hK KK
                  try simp only [Act.put, List.setIfInBounds_toArray, List.set_cons_zero, List.set_cons_succ]
                  refine wpAnyH_ready (rs := [18]) (by kernel_rfl) (by simp) ?_
                  refine (AllReadyH.cons rfl (fun KK hK => ?_) AllReadyH.nil)
                  obtain ⟨vals, ho, hc⟩ := HO.out.next hB17
                  refine step_append_srcN rfl (.tmp 33) (.tmp 50) 34 34 rfl V.heap.size 29 j0 (.slice none 0 0) 1 24 Try.underlying34 hj0 hy0 hy1 hy2 rfl _ _ _ (by rfl) ho _ _ _ (by rfl) (src_obv Try.underlying34 hN17.out rfl) q5 q6 (below2 HB.out hB17).size ?_
                  intro vz wz hownz hgrz
                  have hSz : Below V.heap.size V wz := Below.grown (below2 HB.out hB17) hgrz (below2 HB.out hB17).size (fun k hk => (ho.lt k hk).1)
                  have hOz := hid (OwR.push (r := r ++ [y]) (c := c1) ho hc hI17.out hcI hgrz (by rw [List.length_append]; exact hownz))
                  rw [← Hnn.out] at hOz
                  refine hK.out _ _ hSz (fun hHeld => ?_)
                  clear hK KK
                  try simp only [Act.put, List.setIfInBounds_toArray, List.set_cons_zero, List.set_cons_succ]
                  refine wpAnyH_ready (rs := [19]) (by kernel_rfl) (by simp) ?_
                  refine (AllReadyH.cons rfl (fun KK hK => ?_) AllReadyH.nil)
                  simp only [List.getElem_toArray, List.getElem_cons_succ, List.getElem_cons_zero]
                  go_simp
                  refine hK.out _ _ hSz (fun hHeld => ?_)
                  clear hK KK
                  try simp only [Act.put, List.setIfInBounds_toArray, List.set_cons_zero, List.set_cons_succ]
                  refine wpAnyH_done (by kernel_rfl) ?_ _
                  clear hHeld
                  go_wp2_with fail
                  exact ⟨⟨n + 1, by go_num, by omega, hid hSz, hOz⟩, by simp [intOf]; omega⟩
              · skip
                simp only [List.getElem_toArray, List.getElem_cons_succ, List.getElem_cons_zero]
                go_simp
                have hB1 := Below.alloc hd0 hd0.size (.cells #[.int .i64 y] 3)
                have hN1 := hid (Ob.new V3.drew [Value.int .i64 y] 3)
                refine hK.out _ _ (below2 HB.out hB1) (fun hHeld => ?_)
                clear hK KK
                try simp only [Act.put, List.setIfInBounds_toArray, List.set_cons_zero, List.set_cons_succ]
                refine wpAnyH_ready (rs := [1]) (by kernel_rfl) (by simp) ?_
                refine (AllReadyH.cons rfl (fun KK hK => ?_) AllReadyH.nil)
                simp only [List.getElem_toArray, List.getElem_cons_succ, List.getElem_cons_zero]
                go_simp
                have hB0 := Below.alloc hB1 hB1.size (.cells #[] 3)
                have hL0 := World.ownsRow_lit (base := V3.heap.size) (e := 3) (size := 1) (V3.drew.alloc (.cells #[.int .i64 y] 3)) #[] 0 hB1.size (by unfold maxLen; omega) rfl
                refine hK.out _ _ (below2 HB.out hB0) (fun hHeld => ?_)
                clear hK KK
                try simp only [Act.put, List.setIfInBounds_toArray, List.set_cons_zero, List.set_cons_succ]
                have hzs : (V3.drew.alloc (.cells #[.int .i64 y] 3)).heap.size = V3.heap.size + 1 := by go_simp
                rw [hzs] at hL0
                refine wpAnyH_ready (rs := [6]) (by kernel_rfl) (by simp) ?_
                refine (AllReadyH.cons rfl (fun KK hK => ?_) AllReadyH.nil)
                refine step_append_srcN rfl (.tmp 34) (.tmp 38) 29 29 rfl V3.heap.size 3 i0 (.int .i64 0) 1 8 Try.underlying29 hi0 hz0 hz1 hz2 rfl _ _ _ (by rfl) hL0 _ _ _ (by rfl) (hS1.out _ hB0) q1 q2 hB0.size ?_
                intro va wa howna hgra
                have hba : Below V3.heap.size V3 wa := Below.grown hB0 hgra hB0.size (fun k hk => ((hL0).lt k hk).1)
                refine hK.out _ _ (below2 HB.out hba) (fun hHeld => ?_)
                clear hK KK
                try simp only [Act.put, List.setIfInBounds_toArray, List.set_cons_zero, List.set_cons_succ]
                have hNa := hid (ob_grown ((hN1.out).next (below_alloc _ (.cells #[] 3))) hgra (by simp))
                refine wpAnyH_ready (rs := [16]) (by kernel_rfl) (by simp) ?_
                refine (AllReadyH.cons rfl (fun KK hK => ?_) AllReadyH.nil)
                refine step_append_srcN rfl (.tmp 39) (.tmp 48) 29 29 rfl V3.heap.size 3 i0 (.int .i64 0) 1 8 Try.underlying29 hi0 hz0 hz1 hz2 rfl _ _ _ (by rfl) howna _ _ _ (by rfl) (src_ob Try.underlying29 hNa.out) q3 q4 hba.size ?_
                intro vc wc hownc hgrc
                have hbc : Below V3.heap.size V3 wc := Below.grown hba hgrc hba.size (fun k hk => ((howna).lt k hk).1)
                refine hK.out _ _ (below2 HB.out hbc) (fun hHeld => ?_)
                clear hK KK
                try simp only [Act.put, List.setIfInBounds_toArray, List.set_cons_zero, List.set_cons_succ]
                obtain ⟨B1, c1, hv1, hI, hcI⟩ := IntRow.of_own (l := r ++ [y]) (by have := hownc; rw [List.nil_append] at this; rw [List.map_append]; exact this)
                rw [show (r ++ [y]).length = r.length + 1 by rw [List.length_append]; rfl] at hv1
                subst hv1
                refine wpAnyH_ready (rs := [17]) (by kernel_rfl) (by simp) ?_
                refine (AllReadyH.cons rfl (fun KK hK => ?_) AllReadyH.nil)
                simp only [List.getElem_toArray, List.getElem_cons_succ, List.getElem_cons_zero]
                go_simp
                have hB17 := Below.alloc hbc hbc.size (.cells #[.slice B1 (r.length + 1) c1] 29)
                have hN17 := hid (Ob.new wc [Value.slice B1 (r.length + 1) c1] 29)
                have hI17 := hid (hI.next (below_alloc wc (.cells #[.slice B1 (r.length + 1) c1] 29)))
                refine hK.out _ _ (below2 HB.out hB17) (fun hHeld => ?_)
                clear hK KK
                try simp only [Act.put, List.setIfInBounds_toArray, List.set_cons_zero, List.set_cons_succ]
                refine wpAnyH_ready (rs := [18]) (by kernel_rfl) (by simp) ?_
                refine (AllReadyH.cons rfl (fun KK hK => ?_) AllReadyH.nil)
                obtain ⟨vals, ho, hc⟩ := HO.out.next hB17
                refine step_append_srcN rfl (.tmp 33) (.tmp 50) 34 34 rfl V.heap.size 29 j0 (.slice none 0 0) 1 24 Try.underlying34 hj0 hy0 hy1 hy2 rfl _ _ _ (by rfl) ho _ _ _ (by rfl) (src_obv Try.underlying34 hN17.out rfl) q5 q6 (below2 HB.out hB17).size ?_
                intro vz wz hownz hgrz
                have hSz : Below V.heap.size V wz := Below.grown (below2 HB.out hB17) hgrz (below2 HB.out hB17).size (fun k hk => (ho.lt k hk).1)
                have hOz := hid (OwR.push (r := r ++ [y]) (c := c1) ho hc hI17.out hcI hgrz (by rw [List.length_append]; exact hownz))
                rw [← Hnn.out] at hOz
                refine hK.out _ _ hSz (fun hHeld => ?_)
                clear hK KK
                try simp only [Act.put, List.setIfInBounds_toArray, List.set_cons_zero, List.set_cons_succ]
                refine wpAnyH_ready (rs := [19]) (by kernel_rfl) (by simp) ?_
                refine (AllReadyH.cons rfl (fun KK hK => ?_) AllReadyH.nil)
                simp only [List.getElem_toArray, List.getElem_cons_succ, List.getElem_cons_zero]
                go_simp
                refine hK.out _ _ hSz (fun hHeld => ?_)
                clear hK KK
                try simp only [Act.put, List.setIfInBounds_toArray, List.set_cons_zero, List.set_cons_succ]
                refine wpAnyH_done (by kernel_rfl) ?_ _
                clear hHeld
                go_wp2_with fail
                exact ⟨⟨n + 1, by go_num, by omega, hid hSz, hOz⟩, by simp [intOf]; omega⟩
            · obtain rfl : n = v.length := by omega
              have b6 : ¬ (v.length : Int) < v.length := by omega
              rw [Hnj2.out] at HO
              go_wp2_with fail
              exact ⟨⟨j + 1, by go_num, by omega, HB, HO⟩, by simp [intOf]; omega⟩
        · obtain rfl : j = L.length := by omega
          have b4 : ¬ (L.length : Int) < L.length := by omega
          rw [Hne.out] at HO
          have K3 := hid (K1.out.next HB.out)
          have HO2 := hid (HO.out.rat K1.out.2.size)
          clear Hnn Hnr Hnl
          go_wp2_with fail
          exact ⟨⟨k + 1, by go_num, by omega, K3, HO2⟩, by simp [intOf]; omega⟩
    · obtain rfl : k = ls.length := by omega
      have b2 : ¬ (ls.length : Int) < ls.length := by omega
      clear Hst Hmx Hrow
      go_wp2_with fail
      go_ret
      exact ⟨A, c, rfl, HA.out, hc1, K1.out.2, Hbs.out⟩
end Go.Proofs.Ytgkplcipplpobaa
