/- What the proof of ProblemCopies stands on, part 12. -/
import Derived.Test.YtgmgccepmalahaaGreatCpAD
import Derived.Test.YtgmgccepmalahaaGreatCpAF
namespace Go.Proofs.YtgmgccepmalahaaGreat
open Go.RowKit
open Whn (Gr Wh)
theorem hold_next {ns : List (List UInt8)} {s : List UInt8} {k : Nat} {z : List UInt8} (hz : ns[k]? = some z) (hn : z ≠ s) (h : ∀ j u, j < k → ns[j]? = some u → u ≠ s) : ∀ j u, j < k + 1 → ns[j]? = some u → u ≠ s := fun j u hj hu => by
 rcases Nat.lt_succ_iff_lt_or_eq.1 hj with h' | rfl
 · exact h j u h' hu
 · obtain rfl := Option.some.inj (hu.symm.trans hz)
   exact hn
set_option maxRecDepth 20000 in
theorem n_R (y : RmA) (w : World) : Calls Tryz.prog 107 #[rv y.r y.a y.c] w (Did (txt y.r.n) w) := by
 obtain ⟨R, W, hR, hW, K, hb0⟩ := (Mem.nil w).one (enR y) 52
 have c0 := K.out.cell (b := R) (cs := enR y) (t := 52) (by simp) (k := 0) rfl
 clear hb0
 go_enter Tryz.func107, Tryz.ntmps107
 go_wp2_with fail
 go_ret
 exact Did.mk rfl K.out.2
set_option maxRecDepth 20000 in
set_option maxHeartbeats 4000000 in
theorem f1_R (y : RmA) (s : List UInt8) (D S : Nat) (w : World) (hD : w.cell? ⟨D, 0, none⟩ = some (.func (.func 107) #[] #[])) (hS : w.cell? ⟨S, 0, none⟩ = some (txt s)) :
 Calls Tryz.prog 165 #[rv y.r y.a y.c, .pointer (some ⟨D, 0, none⟩), .pointer (some ⟨S, 0, none⟩)] w (Did (.bool (decide (y.r.n = s))) w) := by
 have HN := hid (fun X => n_R y X)
 have HD := hid (fun X (hb : Below w.heap.size w X) => (hb.cell (p := ⟨D, 0, none⟩) (World.block_lt_of_cell? _ _ hD)).trans hD)
 have HS := hid (fun X (hb : Below w.heap.size w X) => (hb.cell (p := ⟨S, 0, none⟩) (World.block_lt_of_cell? _ _ hS)).trans hS)
 have q1 : ((bs y.r.n).toList == (bs s).toList) = decide (y.r.n = s) := by rw [list_of, list_of, bs_data, bs_data]; by_cases h : y.r.n = s <;> simp [h]
 generalize hq : decide (y.r.n = s) = q at *
 obtain ⟨R, W, hR, hW, K, hb0⟩ := (Mem.nil w).one (enR y) 52
 have Hcell := hid (fun X (h : Mem w X [(R, enR y, 52)]) => show X.cell? ⟨R, 0, none⟩ = some (txt y.r.n) ∧ X.cell? ⟨R, 1, none⟩ = some (.int .i64 y.r.s) ∧ X.cell? ⟨R, 2, none⟩ = some (.int .u16 (y.r.g : Int)) ∧ X.cell? ⟨R, 3, none⟩ = some (.slice y.a y.r.l.length y.c) from ⟨h.cell (b := R) (cs := enR y) (t := 52) (by simp) (k := 0) rfl, h.cell (b := R) (cs := enR y) (t := 52) (by simp) (k := 1) rfl, h.cell (b := R) (cs := enR y) (t := 52) (by simp) (k := 2) rfl, h.cell (b := R) (cs := enR y) (t := 52) (by simp) (k := 3) rfl⟩)
 clear hb0 hD hS hq
 go_enter Tryz.func165, Tryz.ntmps165
 go_upto_region 1 with fail
 refine wp_region_held_drew (S := fun X => Mem w X [(R, enR y, 52)]) (by kernel_rfl) K.out.drew (fun hHeld => ?_)
 refine tkH 0 5 (.func (.func 107) #[] #[]) rfl rfl (fun X hX => by have c := HD.out _ hX.2; clear hX; go_simp) hHeld ?_
 simp only [pt, List.set]
 refine tkH 1 6 (.agg #[txt y.r.n, .int .i64 y.r.s, .int .u16 (y.r.g : Int), .slice y.a y.r.l.length y.c]) rfl rfl (fun X hX => by obtain ⟨e0, e1, e2, e3⟩ := Hcell.out _ hX; clear hX; go_simp) hHeld ?_
 simp only [pt, List.set]
 refine tkH 3 8 (txt s) rfl rfl (fun X hX => by have c := HS.out _ hX.2; clear hX; go_simp) hHeld ?_
 simp only [pt, List.set]
 have Kd := hid K.out.drew
 obtain ⟨U, hU⟩ : ∃ U, W.drew = U := ⟨_, rfl⟩
 rw [hU] at Kd hHeld ⊢
 clear hU
 refine wpAnyH_ready (rs := [2]) (by kernel_rfl) (by simp) ?_
 refine AllReadyH.cons rfl (fun KK hK => ?_) AllReadyH.nil
 simp only [List.getElem_toArray, List.getElem_cons_succ, List.getElem_cons_zero]
 go_simp
 refine (HN.out _).mono ?_
 rintro e w1 ⟨rfl, b1⟩
 have K1 := hid (Kd.out.next b1)
 clear b1
 refine hK.out _ _ K1.out (fun hHeld => ?_)
 clear hK KK
 try simp only [pt, List.set]
 refine wpAnyH_ready (rs := [4]) (by kernel_rfl) (by simp) ?_
 refine AllReadyH.cons rfl (fun KK hK => ?_) AllReadyH.nil
 simp only [List.getElem_toArray, List.getElem_cons_succ, List.getElem_cons_zero]
 go_simp
 refine hK.out _ _ K1.out (fun hHeld => ?_)
 clear hK KK
 try simp only [pt, List.set]
 refine wpAnyH_ready (rs := [5]) (by kernel_rfl) (by simp) ?_
 refine AllReadyH.cons rfl (fun KK hK => ?_) AllReadyH.nil
 simp only [List.getElem_toArray, List.getElem_cons_succ, List.getElem_cons_zero]
 go_simp
 refine hK.out _ _ K1.out (fun hHeld => ?_)
 clear hK KK
 try simp only [pt, List.set]
 refine wpAnyH_done (by kernel_rfl) ?_ _
 clear hHeld
 go_wp2_with fail
 go_ret
 exact Did.mk (by first | rfl | rw [q1]) K1.out.2
set_option maxRecDepth 20000 in
set_option maxHeartbeats 4000000 in
theorem ix_R (A : Option Addr) (c : Nat) (l : List RmA) (hm : l.length ≤ maxLen) (s : List UInt8) (D S : Nat) (w : World) (h : Es enR w w.heap.size A l)
 (hD : w.cell? ⟨D, 0, none⟩ = some (.func (.func 107) #[] #[])) (hS : w.cell? ⟨S, 0, none⟩ = some (txt s)) :
 Calls Tryz.prog 164 #[.slice A l.length c, .func (.func 165) #[] #[.pointer (some ⟨D, 0, none⟩), .pointer (some ⟨S, 0, none⟩)]] w (Did (.int .i64 (fnd (l.map fun y => y.r.n) s)) w) := by
 unfold maxLen at hm
 have HF := hid (fun y X (hb : Below w.heap.size w X) => f1_R y s D S X ((hb.cell (p := ⟨D, 0, none⟩) (World.block_lt_of_cell? _ _ hD)).trans hD) ((hb.cell (p := ⟨S, 0, none⟩) (World.block_lt_of_cell? _ _ hS)).trans hS))
 have H := hid h
 have Hnm := hid (fun i (y : RmA) (h : l[i]? = some y) => show (l.map fun y => y.r.n)[i]? = some y.r.n by rw [List.getElem?_map, h]; rfl)
 have Hs := hid (fun i h hb => fnd_some (ns := l.map fun y => y.r.n) (s := s) (i := i) h hb)
 have Hn := hid (fun hb => fnd_none (ns := l.map fun y => y.r.n) (s := s) hb)
 have hnl : (l.map fun y => y.r.n).length = l.length := List.length_map ..
 have HNL := hid hnl
 generalize fnd (l.map fun y => y.r.n) s = rr at *
 generalize (l.map fun y => y.r.n) = nm at *
 clear h hD hS hnl
 go_enter Tryz.func164, Tryz.ntmps164
 go_wp2_with fail
 go_loopw [8] (fun iv wr => ∃ i : Nat, iv = .int .i64 i ∧ i ≤ l.length ∧ Hid (Below w.heap.size w wr) ∧ Hid (∀ j u, j < i → nm[j]? = some u → u ≠ s)) (fun iv _ => l.length - (intOf iv).toNat)
 case atStart => exact ⟨0, rfl, Nat.zero_le _, hid (Below.refl _ _), hid (fun j u hj => absurd hj (Nat.not_lt_zero j))⟩
 case round =>
  obtain ⟨i, rfl, hi, HB, HA⟩ := hrel
  by_cases hlt : i < l.length
  · obtain ⟨ad, y, rfl, had, hy, hyl, _⟩ := Es.get enR_len (by decide) H.out (k := i) hlt
    have Hq := hid (H.out.below HB.out (Nat.le_refl _))
    obtain ⟨e_0, e_1, e_2, e_3⟩ : wr.cell? (ad.add (i * 4)) = some (txt y.r.n) ∧ wr.cell? ⟨(ad.add (i * 4)).block, (ad.add (i * 4)).off + 1, none⟩ = some (.int .i64 y.r.s) ∧ wr.cell? ⟨(ad.add (i * 4)).block, (ad.add (i * 4)).off + 2, none⟩ = some (.int .u16 (y.r.g : Int)) ∧ wr.cell? ⟨(ad.add (i * 4)).block, (ad.add (i * 4)).off + 3, none⟩ = some (.slice y.a y.r.l.length y.c) := ⟨es_at enR_len Hq.out hy.out 0 _ rfl, es_fld enR_len Hq.out hy.out 1 (by decide) _ rfl, es_fld enR_len Hq.out hy.out 2 (by decide) _ rfl, es_fld enR_len Hq.out hy.out 3 (by decide) _ rfl⟩
    have HZ1 := hid (HF.out y wr HB.out)
    have hz := Hnm.out i y hy.out
    have Hs1 := hid (fun h => Hs.out i h HA.out)
    have Hnx := hid (fun h => hold_next hz h HA.out)
    have i1 : (0 : Int) ≤ (i : Int) := by omega
    have i2 : (i : Int) < (l.length : Int) := by omega
    by_cases hzs : y.r.n = s
    · have Hd := hid (Hs1.out (by rw [hz, hzs]))
      have q1 : decide (y.r.n = s) = true := decide_eq_true hzs
      rw [q1] at HZ1
      clear hz hzs Hq q1 hy hyl HF Hnx Hs1
      go_wp2_with fail
      refine (HZ1.out).mono ?_
      rintro e w1 ⟨rfl, b1⟩
      have HB2 := hid (HB.out.trans (b1.mono HB.out.size))
      clear b1
      go_wp2_with fail
      go_ret
      exact Did.mk (by rw [Hd.out]; rfl) HB2.out
    · have Hn2 := hid (Hnx.out hzs)
      have q1 : decide (y.r.n = s) = false := decide_eq_false hzs
      rw [q1] at HZ1
      clear hz hzs Hq q1 hy hyl HF Hnx Hs1
      go_wp2_with fail
      refine (HZ1.out).mono ?_
      rintro e w1 ⟨rfl, b1⟩
      have HB2 := hid (HB.out.trans (b1.mono HB.out.size))
      clear b1
      go_wp2_with fail
      exact ⟨⟨i + 1, by go_num, by omega, HB2, Hn2⟩, by simp [intOf]; omega⟩
  · have b2 : ¬ (i : Int) < l.length := by omega
    have Hd := hid (Hn.out (fun j u hj hu => HA.out j u (by rw [HNL.out] at hj; omega) hu))
    go_wp2_with fail
    go_ret
    exact Did.mk (by rw [Hd.out]; rfl) HB.out
set_option maxRecDepth 20000 in
set_option maxHeartbeats 4000000 in
theorem fd_R (A : Option Addr) (n c : Nat) (l : List RmA) (hn : l.length = n) (hm : l.length ≤ maxLen) (s : List UInt8) (w : World) (h : Es enR w w.heap.size A l) :
 Calls Tryz.prog 106 #[.slice A n c, .func (.func 107) #[] #[], txt s] w (Did (.int .i64 (fnd (l.map fun y => y.r.n) s)) w) := by
 subst hn
 obtain ⟨D, W, hD, hW, K, hb0⟩ := (Mem.nil w).one [.func (.func 107) #[] #[]] 129
 obtain ⟨S, V, hS, hV, K1, hb1⟩ := K.out.one [txt s] 9
 have HI := hid (fun X (h : Es enR X X.heap.size A l) hD hS => ix_R A c l hm s D S X h hD hS)
 have H := hid (Es.next h K1.out.2)
 clear hb0 hb1 K h
 have c0 := K1.out.cell (b := D) (cs := [.func (.func 107) #[] #[]]) (t := 129) (by simp) (k := 0) rfl
 have c1 := K1.out.cell (b := S) (cs := [txt s]) (t := 9) (by simp) (k := 0) rfl
 have HI1 := hid (HI.out V H.out c0 c1)
 clear HI c0 c1
 go_enter Tryz.func106, Tryz.ntmps106
 go_wp2_with fail
 refine (HI1.out).mono ?_
 rintro e w1 ⟨rfl, b1⟩
 have K2 := hid (K1.out.next b1)
 clear b1
 go_wp2_with fail
 go_ret
 exact Did.mk rfl K2.out.2
set_option maxRecDepth 20000 in
theorem n_P (y : PsA) (w : World) : Calls Tryz.prog 109 #[pv y.r y.a y.c] w (Did (txt y.r.n) w) := by
 obtain ⟨R, W, hR, hW, K, hb0⟩ := (Mem.nil w).one (enQ y) 57
 have c0 := K.out.cell (b := R) (cs := enQ y) (t := 57) (by simp) (k := 0) rfl
 clear hb0
 go_enter Tryz.func109, Tryz.ntmps109
 go_wp2_with fail
 go_ret
 exact Did.mk rfl K.out.2
set_option maxRecDepth 20000 in
set_option maxHeartbeats 4000000 in
theorem f1_P (y : PsA) (s : List UInt8) (D S : Nat) (w : World) (hD : w.cell? ⟨D, 0, none⟩ = some (.func (.func 109) #[] #[])) (hS : w.cell? ⟨S, 0, none⟩ = some (txt s)) :
 Calls Tryz.prog 167 #[pv y.r y.a y.c, .pointer (some ⟨D, 0, none⟩), .pointer (some ⟨S, 0, none⟩)] w (Did (.bool (decide (y.r.n = s))) w) := by
 have HN := hid (fun X => n_P y X)
 have HD := hid (fun X (hb : Below w.heap.size w X) => (hb.cell (p := ⟨D, 0, none⟩) (World.block_lt_of_cell? _ _ hD)).trans hD)
 have HS := hid (fun X (hb : Below w.heap.size w X) => (hb.cell (p := ⟨S, 0, none⟩) (World.block_lt_of_cell? _ _ hS)).trans hS)
 have q1 : ((bs y.r.n).toList == (bs s).toList) = decide (y.r.n = s) := by rw [list_of, list_of, bs_data, bs_data]; by_cases h : y.r.n = s <;> simp [h]
 generalize hq : decide (y.r.n = s) = q at *
 obtain ⟨R, W, hR, hW, K, hb0⟩ := (Mem.nil w).one (enQ y) 57
 have Hcell := hid (fun X (h : Mem w X [(R, enQ y, 57)]) => show X.cell? ⟨R, 0, none⟩ = some (txt y.r.n) ∧ X.cell? ⟨R, 1, none⟩ = some (.slice y.a y.r.l.length y.c) from ⟨h.cell (b := R) (cs := enQ y) (t := 57) (by simp) (k := 0) rfl, h.cell (b := R) (cs := enQ y) (t := 57) (by simp) (k := 1) rfl⟩)
 clear hb0 hD hS hq
 go_enter Tryz.func167, Tryz.ntmps167
 go_upto_region 1 with fail
 refine wp_region_held_drew (S := fun X => Mem w X [(R, enQ y, 57)]) (by kernel_rfl) K.out.drew (fun hHeld => ?_)
 refine tkH 0 5 (.func (.func 109) #[] #[]) rfl rfl (fun X hX => by have c := HD.out _ hX.2; clear hX; go_simp) hHeld ?_
 simp only [pt, List.set]
 refine tkH 1 6 (.agg #[txt y.r.n, .slice y.a y.r.l.length y.c]) rfl rfl (fun X hX => by obtain ⟨e0, e1⟩ := Hcell.out _ hX; clear hX; go_simp) hHeld ?_
 simp only [pt, List.set]
 refine tkH 3 8 (txt s) rfl rfl (fun X hX => by have c := HS.out _ hX.2; clear hX; go_simp) hHeld ?_
 simp only [pt, List.set]
 have Kd := hid K.out.drew
 obtain ⟨U, hU⟩ : ∃ U, W.drew = U := ⟨_, rfl⟩
 rw [hU] at Kd hHeld ⊢
 clear hU
 refine wpAnyH_ready (rs := [2]) (by kernel_rfl) (by simp) ?_
 refine AllReadyH.cons rfl (fun KK hK => ?_) AllReadyH.nil
 simp only [List.getElem_toArray, List.getElem_cons_succ, List.getElem_cons_zero]
 go_simp
 refine (HN.out _).mono ?_
 rintro e w1 ⟨rfl, b1⟩
 have K1 := hid (Kd.out.next b1)
 clear b1
 refine hK.out _ _ K1.out (fun hHeld => ?_)
 clear hK KK
 try simp only [pt, List.set]
 refine wpAnyH_ready (rs := [4]) (by kernel_rfl) (by simp) ?_
 refine AllReadyH.cons rfl (fun KK hK => ?_) AllReadyH.nil
 simp only [List.getElem_toArray, List.getElem_cons_succ, List.getElem_cons_zero]
 go_simp
 refine hK.out _ _ K1.out (fun hHeld => ?_)
 clear hK KK
 try simp only [pt, List.set]
 refine wpAnyH_ready (rs := [5]) (by kernel_rfl) (by simp) ?_
 refine AllReadyH.cons rfl (fun KK hK => ?_) AllReadyH.nil
 simp only [List.getElem_toArray, List.getElem_cons_succ, List.getElem_cons_zero]
 go_simp
 refine hK.out _ _ K1.out (fun hHeld => ?_)
 clear hK KK
 try simp only [pt, List.set]
 refine wpAnyH_done (by kernel_rfl) ?_ _
 clear hHeld
 go_wp2_with fail
 go_ret
 exact Did.mk (by first | rfl | rw [q1]) K1.out.2
set_option maxRecDepth 20000 in
set_option maxHeartbeats 4000000 in
theorem ix_P (A : Option Addr) (c : Nat) (l : List PsA) (hm : l.length ≤ maxLen) (s : List UInt8) (D S : Nat) (w : World) (h : Es enQ w w.heap.size A l)
 (hD : w.cell? ⟨D, 0, none⟩ = some (.func (.func 109) #[] #[])) (hS : w.cell? ⟨S, 0, none⟩ = some (txt s)) :
 Calls Tryz.prog 166 #[.slice A l.length c, .func (.func 167) #[] #[.pointer (some ⟨D, 0, none⟩), .pointer (some ⟨S, 0, none⟩)]] w (Did (.int .i64 (fnd (l.map fun y => y.r.n) s)) w) := by
 unfold maxLen at hm
 have HF := hid (fun y X (hb : Below w.heap.size w X) => f1_P y s D S X ((hb.cell (p := ⟨D, 0, none⟩) (World.block_lt_of_cell? _ _ hD)).trans hD) ((hb.cell (p := ⟨S, 0, none⟩) (World.block_lt_of_cell? _ _ hS)).trans hS))
 have H := hid h
 have Hnm := hid (fun i (y : PsA) (h : l[i]? = some y) => show (l.map fun y => y.r.n)[i]? = some y.r.n by rw [List.getElem?_map, h]; rfl)
 have Hs := hid (fun i h hb => fnd_some (ns := l.map fun y => y.r.n) (s := s) (i := i) h hb)
 have Hn := hid (fun hb => fnd_none (ns := l.map fun y => y.r.n) (s := s) hb)
 have hnl : (l.map fun y => y.r.n).length = l.length := List.length_map ..
 have HNL := hid hnl
 generalize fnd (l.map fun y => y.r.n) s = rr at *
 generalize (l.map fun y => y.r.n) = nm at *
 clear h hD hS hnl
 go_enter Tryz.func166, Tryz.ntmps166
 go_wp2_with fail
 go_loopw [8] (fun iv wr => ∃ i : Nat, iv = .int .i64 i ∧ i ≤ l.length ∧ Hid (Below w.heap.size w wr) ∧ Hid (∀ j u, j < i → nm[j]? = some u → u ≠ s)) (fun iv _ => l.length - (intOf iv).toNat)
 case atStart => exact ⟨0, rfl, Nat.zero_le _, hid (Below.refl _ _), hid (fun j u hj => absurd hj (Nat.not_lt_zero j))⟩
 case round =>
  obtain ⟨i, rfl, hi, HB, HA⟩ := hrel
  by_cases hlt : i < l.length
  · obtain ⟨ad, y, rfl, had, hy, hyl, _⟩ := Es.get enQ_len (by decide) H.out (k := i) hlt
    have Hq := hid (H.out.below HB.out (Nat.le_refl _))
    obtain ⟨e_0, e_1⟩ : wr.cell? (ad.add (i * 2)) = some (txt y.r.n) ∧ wr.cell? ⟨(ad.add (i * 2)).block, (ad.add (i * 2)).off + 1, none⟩ = some (.slice y.a y.r.l.length y.c) := ⟨es_at enQ_len Hq.out hy.out 0 _ rfl, es_fld enQ_len Hq.out hy.out 1 (by decide) _ rfl⟩
    have HZ1 := hid (HF.out y wr HB.out)
    have hz := Hnm.out i y hy.out
    have Hs1 := hid (fun h => Hs.out i h HA.out)
    have Hnx := hid (fun h => hold_next hz h HA.out)
    have i1 : (0 : Int) ≤ (i : Int) := by omega
    have i2 : (i : Int) < (l.length : Int) := by omega
    by_cases hzs : y.r.n = s
    · have Hd := hid (Hs1.out (by rw [hz, hzs]))
      have q1 : decide (y.r.n = s) = true := decide_eq_true hzs
      rw [q1] at HZ1
      clear hz hzs Hq q1 hy hyl HF Hnx Hs1
      go_wp2_with fail
      refine (HZ1.out).mono ?_
      rintro e w1 ⟨rfl, b1⟩
      have HB2 := hid (HB.out.trans (b1.mono HB.out.size))
      clear b1
      go_wp2_with fail
      go_ret
      exact Did.mk (by rw [Hd.out]; rfl) HB2.out
    · have Hn2 := hid (Hnx.out hzs)
      have q1 : decide (y.r.n = s) = false := decide_eq_false hzs
      rw [q1] at HZ1
      clear hz hzs Hq q1 hy hyl HF Hnx Hs1
      go_wp2_with fail
      refine (HZ1.out).mono ?_
      rintro e w1 ⟨rfl, b1⟩
      have HB2 := hid (HB.out.trans (b1.mono HB.out.size))
      clear b1
      go_wp2_with fail
      exact ⟨⟨i + 1, by go_num, by omega, HB2, Hn2⟩, by simp [intOf]; omega⟩
  · have b2 : ¬ (i : Int) < l.length := by omega
    have Hd := hid (Hn.out (fun j u hj hu => HA.out j u (by rw [HNL.out] at hj; omega) hu))
    go_wp2_with fail
    go_ret
    exact Did.mk (by rw [Hd.out]; rfl) HB.out
set_option maxRecDepth 20000 in
set_option maxHeartbeats 4000000 in
theorem fd_P (A : Option Addr) (n c : Nat) (l : List PsA) (hn : l.length = n) (hm : l.length ≤ maxLen) (s : List UInt8) (w : World) (h : Es enQ w w.heap.size A l) :
 Calls Tryz.prog 108 #[.slice A n c, .func (.func 109) #[] #[], txt s] w (Did (.int .i64 (fnd (l.map fun y => y.r.n) s)) w) := by
 subst hn
 obtain ⟨D, W, hD, hW, K, hb0⟩ := (Mem.nil w).one [.func (.func 109) #[] #[]] 131
 obtain ⟨S, V, hS, hV, K1, hb1⟩ := K.out.one [txt s] 9
 have HI := hid (fun X (h : Es enQ X X.heap.size A l) hD hS => ix_P A c l hm s D S X h hD hS)
 have H := hid (Es.next h K1.out.2)
 clear hb0 hb1 K h
 have c0 := K1.out.cell (b := D) (cs := [.func (.func 109) #[] #[]]) (t := 131) (by simp) (k := 0) rfl
 have c1 := K1.out.cell (b := S) (cs := [txt s]) (t := 9) (by simp) (k := 0) rfl
 have HI1 := hid (HI.out V H.out c0 c1)
 clear HI c0 c1
 go_enter Tryz.func108, Tryz.ntmps108
 go_wp2_with fail
 refine (HI1.out).mono ?_
 rintro e w1 ⟨rfl, b1⟩
 have K2 := hid (K1.out.next b1)
 clear b1
 go_wp2_with fail
 go_ret
 exact Did.mk rfl K2.out.2
set_option maxRecDepth 20000 in
theorem n_C (y : ClA) (w : World) : Calls Tryz.prog 111 #[cv y.x y.r] w (Did (txt y.x.n) w) := by
 obtain ⟨R, W, hR, hW, K, hb0⟩ := (Mem.nil w).one (enC y) 62
 have c0 := K.out.cell (b := R) (cs := enC y) (t := 62) (by simp) (k := 0) rfl
 clear hb0
 go_enter Tryz.func111, Tryz.ntmps111
 go_wp2_with fail
 go_ret
 exact Did.mk rfl K.out.2
set_option maxRecDepth 20000 in
set_option maxHeartbeats 4000000 in
theorem f1_C (y : ClA) (s : List UInt8) (D S : Nat) (w : World) (hD : w.cell? ⟨D, 0, none⟩ = some (.func (.func 111) #[] #[])) (hS : w.cell? ⟨S, 0, none⟩ = some (txt s)) :
 Calls Tryz.prog 169 #[cv y.x y.r, .pointer (some ⟨D, 0, none⟩), .pointer (some ⟨S, 0, none⟩)] w (Did (.bool (decide (y.x.n = s))) w) := by
 have HN := hid (fun X => n_C y X)
 have HD := hid (fun X (hb : Below w.heap.size w X) => (hb.cell (p := ⟨D, 0, none⟩) (World.block_lt_of_cell? _ _ hD)).trans hD)
 have HS := hid (fun X (hb : Below w.heap.size w X) => (hb.cell (p := ⟨S, 0, none⟩) (World.block_lt_of_cell? _ _ hS)).trans hS)
 have q1 : ((bs y.x.n).toList == (bs s).toList) = decide (y.x.n = s) := by rw [list_of, list_of, bs_data, bs_data]; by_cases h : y.x.n = s <;> simp [h]
 generalize hq : decide (y.x.n = s) = q at *
 obtain ⟨R, W, hR, hW, K, hb0⟩ := (Mem.nil w).one (enC y) 62
 have Hcell := hid (fun X (h : Mem w X [(R, enC y, 62)]) => show X.cell? ⟨R, 0, none⟩ = some (txt y.x.n) ∧ X.cell? ⟨R, 1, none⟩ = some (.int .i64 y.x.s) ∧ X.cell? ⟨R, 2, none⟩ = some (.int .u16 (y.x.g : Int)) ∧ X.cell? ⟨R, 3, none⟩ = some (.slice y.r.a y.x.p.length y.r.ac) ∧ X.cell? ⟨R, 4, none⟩ = some (.slice y.r.b y.x.t.length y.r.bc) ∧ X.cell? ⟨R, 5, none⟩ = some (.slice y.r.c y.x.l.length y.r.cc) ∧ X.cell? ⟨R, 6, none⟩ = some (.int .i64 y.x.o) from ⟨h.cell (b := R) (cs := enC y) (t := 62) (by simp) (k := 0) rfl, h.cell (b := R) (cs := enC y) (t := 62) (by simp) (k := 1) rfl, h.cell (b := R) (cs := enC y) (t := 62) (by simp) (k := 2) rfl, h.cell (b := R) (cs := enC y) (t := 62) (by simp) (k := 3) rfl, h.cell (b := R) (cs := enC y) (t := 62) (by simp) (k := 4) rfl, h.cell (b := R) (cs := enC y) (t := 62) (by simp) (k := 5) rfl, h.cell (b := R) (cs := enC y) (t := 62) (by simp) (k := 6) rfl⟩)
 clear hb0 hD hS hq
 go_enter Tryz.func169, Tryz.ntmps169
 go_upto_region 1 with fail
 refine wp_region_held_drew (S := fun X => Mem w X [(R, enC y, 62)]) (by kernel_rfl) K.out.drew (fun hHeld => ?_)
 refine tkH 0 5 (.func (.func 111) #[] #[]) rfl rfl (fun X hX => by have c := HD.out _ hX.2; clear hX; go_simp) hHeld ?_
 simp only [pt, List.set]
 refine tkH 1 6 (.agg #[txt y.x.n, .int .i64 y.x.s, .int .u16 (y.x.g : Int), .slice y.r.a y.x.p.length y.r.ac, .slice y.r.b y.x.t.length y.r.bc, .slice y.r.c y.x.l.length y.r.cc, .int .i64 y.x.o]) rfl rfl (fun X hX => by obtain ⟨e0, e1, e2, e3, e4, e5, e6⟩ := Hcell.out _ hX; clear hX; go_simp) hHeld ?_
 simp only [pt, List.set]
 refine tkH 3 8 (txt s) rfl rfl (fun X hX => by have c := HS.out _ hX.2; clear hX; go_simp) hHeld ?_
 simp only [pt, List.set]
 have Kd := hid K.out.drew
 obtain ⟨U, hU⟩ : ∃ U, W.drew = U := ⟨_, rfl⟩
 rw [hU] at Kd hHeld ⊢
 clear hU
 refine wpAnyH_ready (rs := [2]) (by kernel_rfl) (by simp) ?_
 refine AllReadyH.cons rfl (fun KK hK => ?_) AllReadyH.nil
 simp only [List.getElem_toArray, List.getElem_cons_succ, List.getElem_cons_zero]
 go_simp
 refine (HN.out _).mono ?_
 rintro e w1 ⟨rfl, b1⟩
 have K1 := hid (Kd.out.next b1)
 clear b1
 refine hK.out _ _ K1.out (fun hHeld => ?_)
 clear hK KK
 try simp only [pt, List.set]
 refine wpAnyH_ready (rs := [4]) (by kernel_rfl) (by simp) ?_
 refine AllReadyH.cons rfl (fun KK hK => ?_) AllReadyH.nil
 simp only [List.getElem_toArray, List.getElem_cons_succ, List.getElem_cons_zero]
 go_simp
 refine hK.out _ _ K1.out (fun hHeld => ?_)
 clear hK KK
 try simp only [pt, List.set]
 refine wpAnyH_ready (rs := [5]) (by kernel_rfl) (by simp) ?_
 refine AllReadyH.cons rfl (fun KK hK => ?_) AllReadyH.nil
 simp only [List.getElem_toArray, List.getElem_cons_succ, List.getElem_cons_zero]
 go_simp
 refine hK.out _ _ K1.out (fun hHeld => ?_)
 clear hK KK
 try simp only [pt, List.set]
 refine wpAnyH_done (by kernel_rfl) ?_ _
 clear hHeld
 go_wp2_with fail
 go_ret
 exact Did.mk (by first | rfl | rw [q1]) K1.out.2
set_option maxRecDepth 20000 in
set_option maxHeartbeats 4000000 in
theorem ix_C (A : Option Addr) (c : Nat) (l : List ClA) (hm : l.length ≤ maxLen) (s : List UInt8) (D S : Nat) (w : World) (h : Es enC w w.heap.size A l)
 (hD : w.cell? ⟨D, 0, none⟩ = some (.func (.func 111) #[] #[])) (hS : w.cell? ⟨S, 0, none⟩ = some (txt s)) :
 Calls Tryz.prog 168 #[.slice A l.length c, .func (.func 169) #[] #[.pointer (some ⟨D, 0, none⟩), .pointer (some ⟨S, 0, none⟩)]] w (Did (.int .i64 (fnd (l.map fun y => y.x.n) s)) w) := by
 unfold maxLen at hm
 have HF := hid (fun y X (hb : Below w.heap.size w X) => f1_C y s D S X ((hb.cell (p := ⟨D, 0, none⟩) (World.block_lt_of_cell? _ _ hD)).trans hD) ((hb.cell (p := ⟨S, 0, none⟩) (World.block_lt_of_cell? _ _ hS)).trans hS))
 have H := hid h
 have Hnm := hid (fun i (y : ClA) (h : l[i]? = some y) => show (l.map fun y => y.x.n)[i]? = some y.x.n by rw [List.getElem?_map, h]; rfl)
 have Hs := hid (fun i h hb => fnd_some (ns := l.map fun y => y.x.n) (s := s) (i := i) h hb)
 have Hn := hid (fun hb => fnd_none (ns := l.map fun y => y.x.n) (s := s) hb)
 have hnl : (l.map fun y => y.x.n).length = l.length := List.length_map ..
 have HNL := hid hnl
 generalize fnd (l.map fun y => y.x.n) s = rr at *
 generalize (l.map fun y => y.x.n) = nm at *
 clear h hD hS hnl
 go_enter Tryz.func168, Tryz.ntmps168
 go_wp2_with fail
 go_loopw [8] (fun iv wr => ∃ i : Nat, iv = .int .i64 i ∧ i ≤ l.length ∧ Hid (Below w.heap.size w wr) ∧ Hid (∀ j u, j < i → nm[j]? = some u → u ≠ s)) (fun iv _ => l.length - (intOf iv).toNat)
 case atStart => exact ⟨0, rfl, Nat.zero_le _, hid (Below.refl _ _), hid (fun j u hj => absurd hj (Nat.not_lt_zero j))⟩
 case round =>
  obtain ⟨i, rfl, hi, HB, HA⟩ := hrel
  by_cases hlt : i < l.length
  · obtain ⟨ad, y, rfl, had, hy, hyl, _⟩ := Es.get enC_len (by decide) H.out (k := i) hlt
    have Hq := hid (H.out.below HB.out (Nat.le_refl _))
    obtain ⟨e_0, e_1, e_2, e_3, e_4, e_5, e_6⟩ : wr.cell? (ad.add (i * 7)) = some (txt y.x.n) ∧ wr.cell? ⟨(ad.add (i * 7)).block, (ad.add (i * 7)).off + 1, none⟩ = some (.int .i64 y.x.s) ∧ wr.cell? ⟨(ad.add (i * 7)).block, (ad.add (i * 7)).off + 2, none⟩ = some (.int .u16 (y.x.g : Int)) ∧ wr.cell? ⟨(ad.add (i * 7)).block, (ad.add (i * 7)).off + 3, none⟩ = some (.slice y.r.a y.x.p.length y.r.ac) ∧ wr.cell? ⟨(ad.add (i * 7)).block, (ad.add (i * 7)).off + 4, none⟩ = some (.slice y.r.b y.x.t.length y.r.bc) ∧ wr.cell? ⟨(ad.add (i * 7)).block, (ad.add (i * 7)).off + 5, none⟩ = some (.slice y.r.c y.x.l.length y.r.cc) ∧ wr.cell? ⟨(ad.add (i * 7)).block, (ad.add (i * 7)).off + 6, none⟩ = some (.int .i64 y.x.o) := ⟨es_at enC_len Hq.out hy.out 0 _ rfl, es_fld enC_len Hq.out hy.out 1 (by decide) _ rfl, es_fld enC_len Hq.out hy.out 2 (by decide) _ rfl, es_fld enC_len Hq.out hy.out 3 (by decide) _ rfl, es_fld enC_len Hq.out hy.out 4 (by decide) _ rfl, es_fld enC_len Hq.out hy.out 5 (by decide) _ rfl, es_fld enC_len Hq.out hy.out 6 (by decide) _ rfl⟩
    have HZ1 := hid (HF.out y wr HB.out)
    have hz := Hnm.out i y hy.out
    have Hs1 := hid (fun h => Hs.out i h HA.out)
    have Hnx := hid (fun h => hold_next hz h HA.out)
    have i1 : (0 : Int) ≤ (i : Int) := by omega
    have i2 : (i : Int) < (l.length : Int) := by omega
    by_cases hzs : y.x.n = s
    · have Hd := hid (Hs1.out (by rw [hz, hzs]))
      have q1 : decide (y.x.n = s) = true := decide_eq_true hzs
      rw [q1] at HZ1
      clear hz hzs Hq q1 hy hyl HF Hnx Hs1
      go_wp2_with fail
      refine (HZ1.out).mono ?_
      rintro e w1 ⟨rfl, b1⟩
      have HB2 := hid (HB.out.trans (b1.mono HB.out.size))
      clear b1
      go_wp2_with fail
      go_ret
      exact Did.mk (by rw [Hd.out]; rfl) HB2.out
    · have Hn2 := hid (Hnx.out hzs)
      have q1 : decide (y.x.n = s) = false := decide_eq_false hzs
      rw [q1] at HZ1
      clear hz hzs Hq q1 hy hyl HF Hnx Hs1
      go_wp2_with fail
      refine (HZ1.out).mono ?_
      rintro e w1 ⟨rfl, b1⟩
      have HB2 := hid (HB.out.trans (b1.mono HB.out.size))
      clear b1
      go_wp2_with fail
      exact ⟨⟨i + 1, by go_num, by omega, HB2, Hn2⟩, by simp [intOf]; omega⟩
  · have b2 : ¬ (i : Int) < l.length := by omega
    have Hd := hid (Hn.out (fun j u hj hu => HA.out j u (by rw [HNL.out] at hj; omega) hu))
    go_wp2_with fail
    go_ret
    exact Did.mk (by rw [Hd.out]; rfl) HB.out
set_option maxRecDepth 20000 in
set_option maxHeartbeats 4000000 in
theorem fd_C (A : Option Addr) (n c : Nat) (l : List ClA) (hn : l.length = n) (hm : l.length ≤ maxLen) (s : List UInt8) (w : World) (h : Es enC w w.heap.size A l) :
 Calls Tryz.prog 110 #[.slice A n c, .func (.func 111) #[] #[], txt s] w (Did (.int .i64 (fnd (l.map fun y => y.x.n) s)) w) := by
 subst hn
 obtain ⟨D, W, hD, hW, K, hb0⟩ := (Mem.nil w).one [.func (.func 111) #[] #[]] 133
 obtain ⟨S, V, hS, hV, K1, hb1⟩ := K.out.one [txt s] 9
 have HI := hid (fun X (h : Es enC X X.heap.size A l) hD hS => ix_C A c l hm s D S X h hD hS)
 have H := hid (Es.next h K1.out.2)
 clear hb0 hb1 K h
 have c0 := K1.out.cell (b := D) (cs := [.func (.func 111) #[] #[]]) (t := 133) (by simp) (k := 0) rfl
 have c1 := K1.out.cell (b := S) (cs := [txt s]) (t := 9) (by simp) (k := 0) rfl
 have HI1 := hid (HI.out V H.out c0 c1)
 clear HI c0 c1
 go_enter Tryz.func110, Tryz.ntmps110
 go_wp2_with fail
 refine (HI1.out).mono ?_
 rintro e w1 ⟨rfl, b1⟩
 have K2 := hid (K1.out.next b1)
 clear b1
 go_wp2_with fail
 go_ret
 exact Did.mk rfl K2.out.2
set_option maxRecDepth 20000 in
set_option maxHeartbeats 4000000 in
theorem p_FindClass (x : PbA) (s : List UInt8) (w : World) (h : PbIn w x) : Calls Tryz.prog 29 #[pbv x, txt s] w (Did (.int .i64 (fnd (x.cl.map fun y => y.x.n) s)) w) := by
 obtain ⟨G, W, hG, hW, K, hb0⟩ := (Mem.nil w).one (pbc x) 34
 have HC := h.clC
 have HI := hid (fun X h => fd_C x.r3 x.cl.length x.c3 x.cl rfl (by have := HC; omega) s X h)
 have c0 := K.out.cell (b := G) (cs := pbc x) (t := 34) (by simp) (k := 7) rfl
 have H := hid (Es.next h.cl K.out.2)
 clear h hb0 HC
 go_enter Tryz.func29, Tryz.ntmps29
 go_wp2_with fail
 refine (HI.out _ H.out).mono ?_
 rintro e w1 ⟨rfl, b1⟩
 have K2 := hid (K.out.next b1)
 clear b1 c0
 go_wp2_with fail
 go_ret
 exact Did.mk rfl K2.out.2
set_option maxRecDepth 20000 in
theorem n_K (y : CsA) (w : World) : Calls Tryz.prog 113 #[csv y.x y.a y.c] w (Did (txt y.x.n) w) := by
 obtain ⟨R, W, hR, hW, K, hb0⟩ := (Mem.nil w).one (enK y) 65
 have c0 := K.out.cell (b := R) (cs := enK y) (t := 65) (by simp) (k := 0) rfl
 clear hb0
 go_enter Tryz.func113, Tryz.ntmps113
 go_wp2_with fail
 go_ret
 exact Did.mk rfl K.out.2
set_option maxRecDepth 20000 in
set_option maxHeartbeats 4000000 in
theorem f1_K (y : CsA) (s : List UInt8) (D S : Nat) (w : World) (hD : w.cell? ⟨D, 0, none⟩ = some (.func (.func 113) #[] #[])) (hS : w.cell? ⟨S, 0, none⟩ = some (txt s)) :
 Calls Tryz.prog 171 #[csv y.x y.a y.c, .pointer (some ⟨D, 0, none⟩), .pointer (some ⟨S, 0, none⟩)] w (Did (.bool (decide (y.x.n = s))) w) := by
 have HN := hid (fun X => n_K y X)
 have HD := hid (fun X (hb : Below w.heap.size w X) => (hb.cell (p := ⟨D, 0, none⟩) (World.block_lt_of_cell? _ _ hD)).trans hD)
 have HS := hid (fun X (hb : Below w.heap.size w X) => (hb.cell (p := ⟨S, 0, none⟩) (World.block_lt_of_cell? _ _ hS)).trans hS)
 have q1 : ((bs y.x.n).toList == (bs s).toList) = decide (y.x.n = s) := by rw [list_of, list_of, bs_data, bs_data]; by_cases h : y.x.n = s <;> simp [h]
 generalize hq : decide (y.x.n = s) = q at *
 obtain ⟨R, W, hR, hW, K, hb0⟩ := (Mem.nil w).one (enK y) 65
 have Hcell := hid (fun X (h : Mem w X [(R, enK y, 65)]) => show X.cell? ⟨R, 0, none⟩ = some (txt y.x.n) ∧ X.cell? ⟨R, 1, none⟩ = some (.slice y.a y.x.ws.length y.c) from ⟨h.cell (b := R) (cs := enK y) (t := 65) (by simp) (k := 0) rfl, h.cell (b := R) (cs := enK y) (t := 65) (by simp) (k := 1) rfl⟩)
 clear hb0 hD hS hq
 go_enter Tryz.func171, Tryz.ntmps171
 go_upto_region 1 with fail
 refine wp_region_held_drew (S := fun X => Mem w X [(R, enK y, 65)]) (by kernel_rfl) K.out.drew (fun hHeld => ?_)
 refine tkH 0 5 (.func (.func 113) #[] #[]) rfl rfl (fun X hX => by have c := HD.out _ hX.2; clear hX; go_simp) hHeld ?_
 simp only [pt, List.set]
 refine tkH 1 6 (.agg #[txt y.x.n, .slice y.a y.x.ws.length y.c]) rfl rfl (fun X hX => by obtain ⟨e0, e1⟩ := Hcell.out _ hX; clear hX; go_simp) hHeld ?_
 simp only [pt, List.set]
 refine tkH 3 8 (txt s) rfl rfl (fun X hX => by have c := HS.out _ hX.2; clear hX; go_simp) hHeld ?_
 simp only [pt, List.set]
 have Kd := hid K.out.drew
 obtain ⟨U, hU⟩ : ∃ U, W.drew = U := ⟨_, rfl⟩
 rw [hU] at Kd hHeld ⊢
 clear hU
 refine wpAnyH_ready (rs := [2]) (by kernel_rfl) (by simp) ?_
 refine AllReadyH.cons rfl (fun KK hK => ?_) AllReadyH.nil
 simp only [List.getElem_toArray, List.getElem_cons_succ, List.getElem_cons_zero]
 go_simp
 refine (HN.out _).mono ?_
 rintro e w1 ⟨rfl, b1⟩
 have K1 := hid (Kd.out.next b1)
 clear b1
 refine hK.out _ _ K1.out (fun hHeld => ?_)
 clear hK KK
 try simp only [pt, List.set]
 refine wpAnyH_ready (rs := [4]) (by kernel_rfl) (by simp) ?_
 refine AllReadyH.cons rfl (fun KK hK => ?_) AllReadyH.nil
 simp only [List.getElem_toArray, List.getElem_cons_succ, List.getElem_cons_zero]
 go_simp
 refine hK.out _ _ K1.out (fun hHeld => ?_)
 clear hK KK
 try simp only [pt, List.set]
 refine wpAnyH_ready (rs := [5]) (by kernel_rfl) (by simp) ?_
 refine AllReadyH.cons rfl (fun KK hK => ?_) AllReadyH.nil
 simp only [List.getElem_toArray, List.getElem_cons_succ, List.getElem_cons_zero]
 go_simp
 refine hK.out _ _ K1.out (fun hHeld => ?_)
 clear hK KK
 try simp only [pt, List.set]
 refine wpAnyH_done (by kernel_rfl) ?_ _
 clear hHeld
 go_wp2_with fail
 go_ret
 exact Did.mk (by first | rfl | rw [q1]) K1.out.2
set_option maxRecDepth 20000 in
set_option maxHeartbeats 4000000 in
theorem ix_K (A : Option Addr) (c : Nat) (l : List CsA) (hm : l.length ≤ maxLen) (s : List UInt8) (D S : Nat) (w : World) (h : Es enK w w.heap.size A l)
 (hD : w.cell? ⟨D, 0, none⟩ = some (.func (.func 113) #[] #[])) (hS : w.cell? ⟨S, 0, none⟩ = some (txt s)) :
 Calls Tryz.prog 170 #[.slice A l.length c, .func (.func 171) #[] #[.pointer (some ⟨D, 0, none⟩), .pointer (some ⟨S, 0, none⟩)]] w (Did (.int .i64 (fnd (l.map fun y => y.x.n) s)) w) := by
 unfold maxLen at hm
 have HF := hid (fun y X (hb : Below w.heap.size w X) => f1_K y s D S X ((hb.cell (p := ⟨D, 0, none⟩) (World.block_lt_of_cell? _ _ hD)).trans hD) ((hb.cell (p := ⟨S, 0, none⟩) (World.block_lt_of_cell? _ _ hS)).trans hS))
 have H := hid h
 have Hnm := hid (fun i (y : CsA) (h : l[i]? = some y) => show (l.map fun y => y.x.n)[i]? = some y.x.n by rw [List.getElem?_map, h]; rfl)
 have Hs := hid (fun i h hb => fnd_some (ns := l.map fun y => y.x.n) (s := s) (i := i) h hb)
 have Hn := hid (fun hb => fnd_none (ns := l.map fun y => y.x.n) (s := s) hb)
 have hnl : (l.map fun y => y.x.n).length = l.length := List.length_map ..
 have HNL := hid hnl
 generalize fnd (l.map fun y => y.x.n) s = rr at *
 generalize (l.map fun y => y.x.n) = nm at *
 clear h hD hS hnl
 go_enter Tryz.func170, Tryz.ntmps170
 go_wp2_with fail
 go_loopw [8] (fun iv wr => ∃ i : Nat, iv = .int .i64 i ∧ i ≤ l.length ∧ Hid (Below w.heap.size w wr) ∧ Hid (∀ j u, j < i → nm[j]? = some u → u ≠ s)) (fun iv _ => l.length - (intOf iv).toNat)
 case atStart => exact ⟨0, rfl, Nat.zero_le _, hid (Below.refl _ _), hid (fun j u hj => absurd hj (Nat.not_lt_zero j))⟩
 case round =>
  obtain ⟨i, rfl, hi, HB, HA⟩ := hrel
  by_cases hlt : i < l.length
  · obtain ⟨ad, y, rfl, had, hy, hyl, _⟩ := Es.get enK_len (by decide) H.out (k := i) hlt
    have Hq := hid (H.out.below HB.out (Nat.le_refl _))
    obtain ⟨e_0, e_1⟩ : wr.cell? (ad.add (i * 2)) = some (txt y.x.n) ∧ wr.cell? ⟨(ad.add (i * 2)).block, (ad.add (i * 2)).off + 1, none⟩ = some (.slice y.a y.x.ws.length y.c) := ⟨es_at enK_len Hq.out hy.out 0 _ rfl, es_fld enK_len Hq.out hy.out 1 (by decide) _ rfl⟩
    have HZ1 := hid (HF.out y wr HB.out)
    have hz := Hnm.out i y hy.out
    have Hs1 := hid (fun h => Hs.out i h HA.out)
    have Hnx := hid (fun h => hold_next hz h HA.out)
    have i1 : (0 : Int) ≤ (i : Int) := by omega
    have i2 : (i : Int) < (l.length : Int) := by omega
    by_cases hzs : y.x.n = s
    · have Hd := hid (Hs1.out (by rw [hz, hzs]))
      have q1 : decide (y.x.n = s) = true := decide_eq_true hzs
      rw [q1] at HZ1
      clear hz hzs Hq q1 hy hyl HF Hnx Hs1
      go_wp2_with fail
      refine (HZ1.out).mono ?_
      rintro e w1 ⟨rfl, b1⟩
      have HB2 := hid (HB.out.trans (b1.mono HB.out.size))
      clear b1
      go_wp2_with fail
      go_ret
      exact Did.mk (by rw [Hd.out]; rfl) HB2.out
    · have Hn2 := hid (Hnx.out hzs)
      have q1 : decide (y.x.n = s) = false := decide_eq_false hzs
      rw [q1] at HZ1
      clear hz hzs Hq q1 hy hyl HF Hnx Hs1
      go_wp2_with fail
      refine (HZ1.out).mono ?_
      rintro e w1 ⟨rfl, b1⟩
      have HB2 := hid (HB.out.trans (b1.mono HB.out.size))
      clear b1
      go_wp2_with fail
      exact ⟨⟨i + 1, by go_num, by omega, HB2, Hn2⟩, by simp [intOf]; omega⟩
  · have b2 : ¬ (i : Int) < l.length := by omega
    have Hd := hid (Hn.out (fun j u hj hu => HA.out j u (by rw [HNL.out] at hj; omega) hu))
    go_wp2_with fail
    go_ret
    exact Did.mk (by rw [Hd.out]; rfl) HB.out
set_option maxRecDepth 20000 in
set_option maxHeartbeats 4000000 in
theorem fd_K (A : Option Addr) (n c : Nat) (l : List CsA) (hn : l.length = n) (hm : l.length ≤ maxLen) (s : List UInt8) (w : World) (h : Es enK w w.heap.size A l) :
 Calls Tryz.prog 112 #[.slice A n c, .func (.func 113) #[] #[], txt s] w (Did (.int .i64 (fnd (l.map fun y => y.x.n) s)) w) := by
 subst hn
 obtain ⟨D, W, hD, hW, K, hb0⟩ := (Mem.nil w).one [.func (.func 113) #[] #[]] 135
 obtain ⟨S, V, hS, hV, K1, hb1⟩ := K.out.one [txt s] 9
 have HI := hid (fun X (h : Es enK X X.heap.size A l) hD hS => ix_K A c l hm s D S X h hD hS)
 have H := hid (Es.next h K1.out.2)
 clear hb0 hb1 K h
 have c0 := K1.out.cell (b := D) (cs := [.func (.func 113) #[] #[]]) (t := 135) (by simp) (k := 0) rfl
 have c1 := K1.out.cell (b := S) (cs := [txt s]) (t := 9) (by simp) (k := 0) rfl
 have HI1 := hid (HI.out V H.out c0 c1)
 clear HI c0 c1
 go_enter Tryz.func112, Tryz.ntmps112
 go_wp2_with fail
 refine (HI1.out).mono ?_
 rintro e w1 ⟨rfl, b1⟩
 have K2 := hid (K1.out.next b1)
 clear b1
 go_wp2_with fail
 go_ret
 exact Did.mk rfl K2.out.2
set_option maxRecDepth 20000 in
theorem n_S (y : StA) (w : World) : Calls Tryz.prog 135 #[stv y.x y.a y.c] w (Did (txt y.x.n) w) := by
 obtain ⟨R, W, hR, hW, K, hb0⟩ := (Mem.nil w).one (enS y) 70
 have c0 := K.out.cell (b := R) (cs := enS y) (t := 70) (by simp) (k := 0) rfl
 clear hb0
 go_enter Tryz.func135, Tryz.ntmps135
 go_wp2_with fail
 go_ret
 exact Did.mk rfl K.out.2
set_option maxRecDepth 20000 in
set_option maxHeartbeats 4000000 in
theorem f1_S (y : StA) (s : List UInt8) (D S : Nat) (w : World) (hD : w.cell? ⟨D, 0, none⟩ = some (.func (.func 135) #[] #[])) (hS : w.cell? ⟨S, 0, none⟩ = some (txt s)) :
 Calls Tryz.prog 212 #[stv y.x y.a y.c, .pointer (some ⟨D, 0, none⟩), .pointer (some ⟨S, 0, none⟩)] w (Did (.bool (decide (y.x.n = s))) w) := by
 have HN := hid (fun X => n_S y X)
 have HD := hid (fun X (hb : Below w.heap.size w X) => (hb.cell (p := ⟨D, 0, none⟩) (World.block_lt_of_cell? _ _ hD)).trans hD)
 have HS := hid (fun X (hb : Below w.heap.size w X) => (hb.cell (p := ⟨S, 0, none⟩) (World.block_lt_of_cell? _ _ hS)).trans hS)
 have q1 : ((bs y.x.n).toList == (bs s).toList) = decide (y.x.n = s) := by rw [list_of, list_of, bs_data, bs_data]; by_cases h : y.x.n = s <;> simp [h]
 generalize hq : decide (y.x.n = s) = q at *
 obtain ⟨R, W, hR, hW, K, hb0⟩ := (Mem.nil w).one (enS y) 70
 have Hcell := hid (fun X (h : Mem w X [(R, enS y, 70)]) => show X.cell? ⟨R, 0, none⟩ = some (txt y.x.n) ∧ X.cell? ⟨R, 1, none⟩ = some (.slice y.a y.x.l.length y.c) from ⟨h.cell (b := R) (cs := enS y) (t := 70) (by simp) (k := 0) rfl, h.cell (b := R) (cs := enS y) (t := 70) (by simp) (k := 1) rfl⟩)
 clear hb0 hD hS hq
 go_enter Tryz.func212, Tryz.ntmps212
 go_upto_region 1 with fail
 refine wp_region_held_drew (S := fun X => Mem w X [(R, enS y, 70)]) (by kernel_rfl) K.out.drew (fun hHeld => ?_)
 refine tkH 0 5 (.func (.func 135) #[] #[]) rfl rfl (fun X hX => by have c := HD.out _ hX.2; clear hX; go_simp) hHeld ?_
 simp only [pt, List.set]
 refine tkH 1 6 (.agg #[txt y.x.n, .slice y.a y.x.l.length y.c]) rfl rfl (fun X hX => by obtain ⟨e0, e1⟩ := Hcell.out _ hX; clear hX; go_simp) hHeld ?_
 simp only [pt, List.set]
 refine tkH 3 8 (txt s) rfl rfl (fun X hX => by have c := HS.out _ hX.2; clear hX; go_simp) hHeld ?_
 simp only [pt, List.set]
 have Kd := hid K.out.drew
 obtain ⟨U, hU⟩ : ∃ U, W.drew = U := ⟨_, rfl⟩
 rw [hU] at Kd hHeld ⊢
 clear hU
 refine wpAnyH_ready (rs := [2]) (by kernel_rfl) (by simp) ?_
 refine AllReadyH.cons rfl (fun KK hK => ?_) AllReadyH.nil
 simp only [List.getElem_toArray, List.getElem_cons_succ, List.getElem_cons_zero]
 go_simp
 refine (HN.out _).mono ?_
 rintro e w1 ⟨rfl, b1⟩
 have K1 := hid (Kd.out.next b1)
 clear b1
 refine hK.out _ _ K1.out (fun hHeld => ?_)
 clear hK KK
 try simp only [pt, List.set]
 refine wpAnyH_ready (rs := [4]) (by kernel_rfl) (by simp) ?_
 refine AllReadyH.cons rfl (fun KK hK => ?_) AllReadyH.nil
 simp only [List.getElem_toArray, List.getElem_cons_succ, List.getElem_cons_zero]
 go_simp
 refine hK.out _ _ K1.out (fun hHeld => ?_)
 clear hK KK
 try simp only [pt, List.set]
 refine wpAnyH_ready (rs := [5]) (by kernel_rfl) (by simp) ?_
 refine AllReadyH.cons rfl (fun KK hK => ?_) AllReadyH.nil
 simp only [List.getElem_toArray, List.getElem_cons_succ, List.getElem_cons_zero]
 go_simp
 refine hK.out _ _ K1.out (fun hHeld => ?_)
 clear hK KK
 try simp only [pt, List.set]
 refine wpAnyH_done (by kernel_rfl) ?_ _
 clear hHeld
 go_wp2_with fail
 go_ret
 exact Did.mk (by first | rfl | rw [q1]) K1.out.2
set_option maxRecDepth 20000 in
set_option maxHeartbeats 4000000 in
theorem ix_S (A : Option Addr) (c : Nat) (l : List StA) (hm : l.length ≤ maxLen) (s : List UInt8) (D S : Nat) (w : World) (h : Es enS w w.heap.size A l)
 (hD : w.cell? ⟨D, 0, none⟩ = some (.func (.func 135) #[] #[])) (hS : w.cell? ⟨S, 0, none⟩ = some (txt s)) :
 Calls Tryz.prog 211 #[.slice A l.length c, .func (.func 212) #[] #[.pointer (some ⟨D, 0, none⟩), .pointer (some ⟨S, 0, none⟩)]] w (Did (.int .i64 (fnd (l.map fun y => y.x.n) s)) w) := by
 unfold maxLen at hm
 have HF := hid (fun y X (hb : Below w.heap.size w X) => f1_S y s D S X ((hb.cell (p := ⟨D, 0, none⟩) (World.block_lt_of_cell? _ _ hD)).trans hD) ((hb.cell (p := ⟨S, 0, none⟩) (World.block_lt_of_cell? _ _ hS)).trans hS))
 have H := hid h
 have Hnm := hid (fun i (y : StA) (h : l[i]? = some y) => show (l.map fun y => y.x.n)[i]? = some y.x.n by rw [List.getElem?_map, h]; rfl)
 have Hs := hid (fun i h hb => fnd_some (ns := l.map fun y => y.x.n) (s := s) (i := i) h hb)
 have Hn := hid (fun hb => fnd_none (ns := l.map fun y => y.x.n) (s := s) hb)
 have hnl : (l.map fun y => y.x.n).length = l.length := List.length_map ..
 have HNL := hid hnl
 generalize fnd (l.map fun y => y.x.n) s = rr at *
 generalize (l.map fun y => y.x.n) = nm at *
 clear h hD hS hnl
 go_enter Tryz.func211, Tryz.ntmps211
 go_wp2_with fail
 go_loopw [8] (fun iv wr => ∃ i : Nat, iv = .int .i64 i ∧ i ≤ l.length ∧ Hid (Below w.heap.size w wr) ∧ Hid (∀ j u, j < i → nm[j]? = some u → u ≠ s)) (fun iv _ => l.length - (intOf iv).toNat)
 case atStart => exact ⟨0, rfl, Nat.zero_le _, hid (Below.refl _ _), hid (fun j u hj => absurd hj (Nat.not_lt_zero j))⟩
 case round =>
  obtain ⟨i, rfl, hi, HB, HA⟩ := hrel
  by_cases hlt : i < l.length
  · obtain ⟨ad, y, rfl, had, hy, hyl, _⟩ := Es.get enS_len (by decide) H.out (k := i) hlt
    have Hq := hid (H.out.below HB.out (Nat.le_refl _))
    obtain ⟨e_0, e_1⟩ : wr.cell? (ad.add (i * 2)) = some (txt y.x.n) ∧ wr.cell? ⟨(ad.add (i * 2)).block, (ad.add (i * 2)).off + 1, none⟩ = some (.slice y.a y.x.l.length y.c) := ⟨es_at enS_len Hq.out hy.out 0 _ rfl, es_fld enS_len Hq.out hy.out 1 (by decide) _ rfl⟩
    have HZ1 := hid (HF.out y wr HB.out)
    have hz := Hnm.out i y hy.out
    have Hs1 := hid (fun h => Hs.out i h HA.out)
    have Hnx := hid (fun h => hold_next hz h HA.out)
    have i1 : (0 : Int) ≤ (i : Int) := by omega
    have i2 : (i : Int) < (l.length : Int) := by omega
    by_cases hzs : y.x.n = s
    · have Hd := hid (Hs1.out (by rw [hz, hzs]))
      have q1 : decide (y.x.n = s) = true := decide_eq_true hzs
      rw [q1] at HZ1
      clear hz hzs Hq q1 hy hyl HF Hnx Hs1
      go_wp2_with fail
      refine (HZ1.out).mono ?_
      rintro e w1 ⟨rfl, b1⟩
      have HB2 := hid (HB.out.trans (b1.mono HB.out.size))
      clear b1
      go_wp2_with fail
      go_ret
      exact Did.mk (by rw [Hd.out]; rfl) HB2.out
    · have Hn2 := hid (Hnx.out hzs)
      have q1 : decide (y.x.n = s) = false := decide_eq_false hzs
      rw [q1] at HZ1
      clear hz hzs Hq q1 hy hyl HF Hnx Hs1
      go_wp2_with fail
      refine (HZ1.out).mono ?_
      rintro e w1 ⟨rfl, b1⟩
      have HB2 := hid (HB.out.trans (b1.mono HB.out.size))
      clear b1
      go_wp2_with fail
      exact ⟨⟨i + 1, by go_num, by omega, HB2, Hn2⟩, by simp [intOf]; omega⟩
  · have b2 : ¬ (i : Int) < l.length := by omega
    have Hd := hid (Hn.out (fun j u hj hu => HA.out j u (by rw [HNL.out] at hj; omega) hu))
    go_wp2_with fail
    go_ret
    exact Did.mk (by rw [Hd.out]; rfl) HB.out
set_option maxRecDepth 20000 in
set_option maxHeartbeats 4000000 in
theorem fd_S (A : Option Addr) (n c : Nat) (l : List StA) (hn : l.length = n) (hm : l.length ≤ maxLen) (s : List UInt8) (w : World) (h : Es enS w w.heap.size A l) :
 Calls Tryz.prog 186 #[.slice A n c, .func (.func 135) #[] #[], txt s] w (Did (.int .i64 (fnd (l.map fun y => y.x.n) s)) w) := by
 subst hn
 obtain ⟨D, W, hD, hW, K, hb0⟩ := (Mem.nil w).one [.func (.func 135) #[] #[]] 152
 obtain ⟨S, V, hS, hV, K1, hb1⟩ := K.out.one [txt s] 9
 have HI := hid (fun X (h : Es enS X X.heap.size A l) hD hS => ix_S A c l hm s D S X h hD hS)
 have H := hid (Es.next h K1.out.2)
 clear hb0 hb1 K h
 have c0 := K1.out.cell (b := D) (cs := [.func (.func 135) #[] #[]]) (t := 152) (by simp) (k := 0) rfl
 have c1 := K1.out.cell (b := S) (cs := [txt s]) (t := 9) (by simp) (k := 0) rfl
 have HI1 := hid (HI.out V H.out c0 c1)
 clear HI c0 c1
 go_enter Tryz.func186, Tryz.ntmps186
 go_wp2_with fail
 refine (HI1.out).mono ?_
 rintro e w1 ⟨rfl, b1⟩
 have K2 := hid (K1.out.next b1)
 clear b1
 go_wp2_with fail
 go_ret
 exact Did.mk rfl K2.out.2
end Go.Proofs.YtgmgccepmalahaaGreat
namespace Go.Proofs.YtgmgccepmalahaaGreat
open Go.RowKit
open Whn (Gr Wh)
def fwB (most : Int) (rt : Nat → Bool) (i : Nat) : Bool := decide ((i : Int) = most) || !rt i
def fwV (n : Nat) (most : Int) (rt : Nat → Bool) : Int := match (List.range n).find? (fwB most rt) with | some i => (i : Int) | none => -1
theorem fw_some {n : Nat} {most : Int} {rt : Nat → Bool} {i : Nat} (hi : i < n) (h : fwB most rt i = true) (hb : ∀ j, j < i → fwB most rt j = false) : fwV n most rt = (i : Int) := by
 unfold fwV; rw [find_range hi h hb]
theorem fw_none {n : Nat} {most : Int} {rt : Nat → Bool} (hb : ∀ j, j < n → fwB most rt j = false) : fwV n most rt = -1 := by
 unfold fwV
 rw [List.find?_eq_none.2 (fun j hj => by rw [hb j (List.mem_range.1 hj)]; decide)]
theorem fnd_miss (ns : List (List UInt8)) (s : List UInt8) : decide (fnd ns s = -1) = !ns.any (fun u => decide (u = s)) := by
 cases h : ns.any (fun u => decide (u = s)) with
 | false =>
  rw [fnd_none, decide_eq_true rfl]; rfl
  intro j z _ hz e
  rw [List.any_eq_false] at h
  exact h z (List.mem_of_getElem? hz) (by rw [e]; simp)
 | true =>
  rw [List.any_eq_true] at h
  obtain ⟨z, hz, e⟩ := h
  have e := of_decide_eq_true e
  subst e
  obtain ⟨i, hi⟩ := List.mem_iff_getElem?.1 hz
  obtain ⟨k, hk, hkm⟩ : ∃ k, ns[k]? = some z ∧ ∀ j u, j < k → ns[j]? = some u → u ≠ z := by
   induction i using Nat.strongRecOn with
   | _ i ih =>
    by_cases hex : ∃ j u, j < i ∧ ns[j]? = some u ∧ u = z
    · obtain ⟨j, u, hj, hu, rfl⟩ := hex
      exact ih j hj hu
    · exact ⟨i, hi, fun j u hj hu e => hex ⟨j, u, hj, hu, e⟩⟩
  rw [fnd_some hk hkm, decide_eq_false (by omega)]; rfl
def nmB (ns : List (List UInt8)) (rs : List Bool) (i : Nat) : Bool := rs.getD i false && decide (fnd (ns.take i) (ns.getD i []) = -1)
theorem fw_fst (ns : List (List UInt8)) (rs : List Bool) (most : Int) : fwV ns.length most (nmB ns rs) = fst17 ns rs most := by
 have e : fwB most (nmB ns rs) = badAt ns rs most := by
  funext i
  unfold fwB nmB badAt
  rw [fnd_miss, Bool.not_and, Bool.not_not]
 unfold fwV fst17
 rw [e]
 rfl
theorem es_take {α : Type} {en : α → List Value} {w : World} {B : Nat} {A : Option Addr} {l : List α} (h : Es en w B A l) (k : Nat) : Es en w B A (l.take k) := fun hn => by
 have e1 : ecells en l = ecells en (l.take k) ++ ecells en (l.drop k) := by rw [← ecells_append, List.take_append_drop]
 obtain ⟨ad, e, hb, hc⟩ := h (fun e => hn (by rw [e] at e1; exact (List.append_eq_nil_iff.1 e1.symm).1))
 refine ⟨ad, e, hb, fun j v hv => hc j v ?_⟩
 rw [e1, List.getElem?_append_left (List.getElem?_eq_some_iff.1 hv).1]
 exact hv
set_option maxRecDepth 20000 in
set_option maxHeartbeats 4000000 in
theorem p_wrong3 (F : Nat) (c0 c1 c2 : Value) (n : Nat) (hn : n ≤ 1000000) (most : Int) (rt : Nat → Bool) (w : World) (HE : ∀ a X, Sem.run Tryz.prog (callFunc F #[a, c0, c1, c2]) X = .ok (.enter F #[a, c0, c1, c2]) X) (HP : ∀ i, i < n → ∀ X, Below w.heap.size w X → Calls Tryz.prog F #[.int .i64 (i : Int), c0, c1, c2] X (Did (.bool (rt i)) X)) :
 Calls Tryz.prog 138 #[.int .i64 (n : Int), .int .i64 most, .func (.func F) #[] #[c0, c1, c2]] w (Did (.int .i64 (fwV n most rt)) w) := by
 have HF := hid HP
 have HC := hid HE
 have Hs := hid (fun i hi h hb => fw_some (n := n) (most := most) (rt := rt) (i := i) hi h hb)
 have Hn := hid (fun hb => fw_none (n := n) (most := most) (rt := rt) hb)
 have Hb := hid (fun i => show fwB most rt i = (decide ((i : Int) = most) || !rt i) from rfl)
 generalize fwV n most rt = rr at *
 generalize fwB most rt = bd at *
 clear HP HE
 go_enter Tryz.func138, Tryz.ntmps138
 go_wp2_with fail
 go_loopw [9] (fun iv wr => ∃ i : Nat, iv = .int .i64 i ∧ i ≤ n ∧ Hid (Below w.heap.size w wr) ∧ Hid (∀ j, j < i → bd j = false)) (fun iv _ => n - (intOf iv).toNat)
 case atStart => exact ⟨0, rfl, Nat.zero_le _, hid (Below.refl _ _), hid (fun j hj => absurd hj (Nat.not_lt_zero j))⟩
 case round =>
  obtain ⟨i, rfl, hi, HB, HA⟩ := hrel
  by_cases hlt : i < n
  · have i1 : (0 : Int) ≤ (i : Int) := by omega
    have i2 : (i : Int) < (n : Int) := by omega
    have HF1 := hid (HF.out i hlt wr HB.out)
    have he := HC.out (.int .i64 (i : Int)) wr
    have Hbi := hid (Hb.out i)
    by_cases hmo : (i : Int) = most
    · have e1 : ((i : Int) == most) = true := by rw [beq_iff_eq]; exact hmo
      have Hd := hid (Hs.out i hlt (by rw [Hbi.out, decide_eq_true hmo]; rfl) HA.out)
      clear hmo
      go_wp2_with fail
      go_ret
      exact Did.mk (by rw [Hd.out]; rfl) HB.out
    · have e1 : ((i : Int) == most) = false := by rw [beq_eq_false_iff_ne]; exact hmo
      rw [decide_eq_false hmo, Bool.false_or] at Hbi
      clear hmo
      generalize rt i = q at *
      cases q with
      | false =>
       have Hd := hid (Hs.out i hlt (by rw [Hbi.out]; rfl) HA.out)
       go_wp2_with fail
       refine (HF1.out).mono ?_
       rintro e w1 ⟨rfl, b1⟩
       have HB2 := hid (HB.out.trans (b1.mono HB.out.size))
       clear b1
       go_wp2_with fail
       go_ret
       exact Did.mk (by rw [Hd.out]; rfl) HB2.out
      | true =>
       have hn2 := hid (show ∀ j, j < i + 1 → bd j = false from fun j hj => by
        rcases Nat.lt_succ_iff_lt_or_eq.1 hj with h | rfl
        · exact HA.out j h
        · rw [Hbi.out]; rfl)
       go_wp2_with fail
       refine (HF1.out).mono ?_
       rintro e w1 ⟨rfl, b1⟩
       have HB2 := hid (HB.out.trans (b1.mono HB.out.size))
       clear b1
       go_wp2_with fail
       exact ⟨⟨i + 1, by go_num, by omega, HB2, hn2⟩, by simp [intOf]; omega⟩
  · have b2 : ¬ (i : Int) < (n : Int) := by omega
    have Hd := hid (Hn.out (fun j hj => HA.out j (by omega)))
    go_wp2_with fail
    go_ret
    exact Did.mk (by rw [Hd.out]; rfl) HB.out
set_option maxRecDepth 20000 in
set_option maxHeartbeats 4000000 in
theorem p_wrong1 (F : Nat) (c0 : Value) (n : Nat) (hn : n ≤ 1000000) (most : Int) (rt : Nat → Bool) (w : World) (HE : ∀ a X, Sem.run Tryz.prog (callFunc F #[a, c0]) X = .ok (.enter F #[a, c0]) X) (HP : ∀ i, i < n → ∀ X, Below w.heap.size w X → Calls Tryz.prog F #[.int .i64 (i : Int), c0] X (Did (.bool (rt i)) X)) :
 Calls Tryz.prog 138 #[.int .i64 (n : Int), .int .i64 most, .func (.func F) #[] #[c0]] w (Did (.int .i64 (fwV n most rt)) w) := by
 have HF := hid HP
 have HC := hid HE
 have Hs := hid (fun i hi h hb => fw_some (n := n) (most := most) (rt := rt) (i := i) hi h hb)
 have Hn := hid (fun hb => fw_none (n := n) (most := most) (rt := rt) hb)
 have Hb := hid (fun i => show fwB most rt i = (decide ((i : Int) = most) || !rt i) from rfl)
 generalize fwV n most rt = rr at *
 generalize fwB most rt = bd at *
 clear HP HE
 go_enter Tryz.func138, Tryz.ntmps138
 go_wp2_with fail
 go_loopw [9] (fun iv wr => ∃ i : Nat, iv = .int .i64 i ∧ i ≤ n ∧ Hid (Below w.heap.size w wr) ∧ Hid (∀ j, j < i → bd j = false)) (fun iv _ => n - (intOf iv).toNat)
 case atStart => exact ⟨0, rfl, Nat.zero_le _, hid (Below.refl _ _), hid (fun j hj => absurd hj (Nat.not_lt_zero j))⟩
 case round =>
  obtain ⟨i, rfl, hi, HB, HA⟩ := hrel
  by_cases hlt : i < n
  · have i1 : (0 : Int) ≤ (i : Int) := by omega
    have i2 : (i : Int) < (n : Int) := by omega
    have HF1 := hid (HF.out i hlt wr HB.out)
    have he := HC.out (.int .i64 (i : Int)) wr
    have Hbi := hid (Hb.out i)
    by_cases hmo : (i : Int) = most
    · have e1 : ((i : Int) == most) = true := by rw [beq_iff_eq]; exact hmo
      have Hd := hid (Hs.out i hlt (by rw [Hbi.out, decide_eq_true hmo]; rfl) HA.out)
      clear hmo
      go_wp2_with fail
      go_ret
      exact Did.mk (by rw [Hd.out]; rfl) HB.out
    · have e1 : ((i : Int) == most) = false := by rw [beq_eq_false_iff_ne]; exact hmo
      rw [decide_eq_false hmo, Bool.false_or] at Hbi
      clear hmo
      generalize rt i = q at *
      cases q with
      | false =>
       have Hd := hid (Hs.out i hlt (by rw [Hbi.out]; rfl) HA.out)
       go_wp2_with fail
       refine (HF1.out).mono ?_
       rintro e w1 ⟨rfl, b1⟩
       have HB2 := hid (HB.out.trans (b1.mono HB.out.size))
       clear b1
       go_wp2_with fail
       go_ret
       exact Did.mk (by rw [Hd.out]; rfl) HB2.out
      | true =>
       have hn2 := hid (show ∀ j, j < i + 1 → bd j = false from fun j hj => by
        rcases Nat.lt_succ_iff_lt_or_eq.1 hj with h | rfl
        · exact HA.out j h
        · rw [Hbi.out]; rfl)
       go_wp2_with fail
       refine (HF1.out).mono ?_
       rintro e w1 ⟨rfl, b1⟩
       have HB2 := hid (HB.out.trans (b1.mono HB.out.size))
       clear b1
       go_wp2_with fail
       exact ⟨⟨i + 1, by go_num, by omega, HB2, hn2⟩, by simp [intOf]; omega⟩
  · have b2 : ¬ (i : Int) < (n : Int) := by omega
    have Hd := hid (Hn.out (fun j hj => HA.out j (by omega)))
    go_wp2_with fail
    go_ret
    exact Did.mk (by rw [Hd.out]; rfl) HB.out
end Go.Proofs.YtgmgccepmalahaaGreat
