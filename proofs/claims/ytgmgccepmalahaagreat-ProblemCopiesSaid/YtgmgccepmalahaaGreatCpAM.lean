/- What the proof of ProblemCopies stands on, part 13. -/
import Derived.Test.YtgmgccepmalahaaGreatCpAL
namespace Go.Proofs.YtgmgccepmalahaaGreat
open Go.RowKit
open Whn (Gr Wh)
set_option maxRecDepth 20000 in
set_option maxHeartbeats 8000000 in
theorem wn1_R (A : Option Addr) (c : Nat) (l : List RmA) (hm : l.length ≤ c ∧ c ≤ maxLen) (rt : RmA → Bool) (F P R L N : Nat) (w : World) (h : Es enR w w.heap.size A l)
 (HE : ∀ a b X, Sem.run Tryz.prog (callFunc F #[a, b]) X = .ok (.enter F #[a, b]) X) (HP : ∀ y ∈ l, ∀ X, Below w.heap.size w X → Calls Tryz.prog F #[rv y.r y.a y.c, .pointer (some ⟨P, 0, none⟩)] X (Did (.bool (rt y)) X))
 (hR : w.cell? ⟨R, 0, none⟩ = some (.func (.func F) #[] #[.pointer (some ⟨P, 0, none⟩)])) (hL : w.cell? ⟨L, 0, none⟩ = some (.slice A l.length c)) (hN : w.cell? ⟨N, 0, none⟩ = some (.func (.func 107) #[] #[]))
 (i : Nat) (hi : i < l.length) :
 Calls Tryz.prog 174 #[.int .i64 (i : Int), .pointer (some ⟨R, 0, none⟩), .pointer (some ⟨L, 0, none⟩), .pointer (some ⟨N, 0, none⟩)] w (Did (.bool (nmB (l.map fun y => y.r.n) (l.map rt) i)) w) := by
 obtain ⟨ad, y, rfl, had, hy, hyl, _⟩ := Es.get enR_len (by decide) h (k := i) hi
 have hmm := hm
 unfold maxLen at hm
 have H := hid h
 have HF := hid (HP y hyl)
 have HN := hid (fun X => n_R y X)
 have HI := hid (fun X (hb : Below w.heap.size w X) => fd_R (some ad) i c (l.take i) (by rw [List.length_take]; omega) (by rw [List.length_take]; omega) y.r.n X (Es.next (es_take h i) hb))
 have HRc := hid (fun X (hb : Below w.heap.size w X) => (hb.cell (p := ⟨R, 0, none⟩) (World.block_lt_of_cell? _ _ hR)).trans hR)
 have HLc := hid (fun X (hb : Below w.heap.size w X) => (hb.cell (p := ⟨L, 0, none⟩) (World.block_lt_of_cell? _ _ hL)).trans hL)
 have HNc := hid (fun X (hb : Below w.heap.size w X) => (hb.cell (p := ⟨N, 0, none⟩) (World.block_lt_of_cell? _ _ hN)).trans hN)
 have Hres := hid (show nmB (l.map fun y => y.r.n) (l.map rt) i = (rt y && (fnd ((l.take i).map fun y => y.r.n) y.r.n == -1)) by
  unfold nmB
  rw [List.getD_eq_getElem?_getD, List.getElem?_map, hy.out, List.getD_eq_getElem?_getD, List.getElem?_map, hy.out, List.map_take]
  rfl)
 have HEc := hid HE
 have Hrow := hid (fun X (hb : Below w.heap.size w X) => (show X.cell? (ad.add (i * 4)) = some (txt y.r.n) ∧ X.cell? ⟨(ad.add (i * 4)).block, (ad.add (i * 4)).off + 1, none⟩ = some (.int .i64 y.r.s) ∧ X.cell? ⟨(ad.add (i * 4)).block, (ad.add (i * 4)).off + 2, none⟩ = some (.int .u16 (y.r.g : Int)) ∧ X.cell? ⟨(ad.add (i * 4)).block, (ad.add (i * 4)).off + 3, none⟩ = some (.slice y.a y.r.l.length y.c) from by
  have hq := h.below hb (Nat.le_refl _)
  exact ⟨es_at enR_len hq hy.out 0 _ rfl, es_fld enR_len hq hy.out 1 (by decide) _ rfl, es_fld enR_len hq hy.out 2 (by decide) _ rfl, es_fld enR_len hq hy.out 3 (by decide) _ rfl⟩))
 have i1 : (0 : Int) ≤ (i : Int) := by omega
 have i2 : (i : Int) < (l.length : Int) := by omega
 have i3 : (i : Int) ≤ (c : Int) := by omega
 generalize nmB (l.map fun y => y.r.n) (l.map rt) i = rr at *
 generalize rt y = q at *
 generalize fnd ((l.take i).map fun y => y.r.n) y.r.n = z at *
 obtain ⟨W, hW⟩ : ∃ W, w = W := ⟨_, rfl⟩
 have HB := hid (show Below w.heap.size w w.drew from (Below.refl _ _).drew)
 clear h HE HP hR hL hN hW had hy hyl H hmm
 cases q with
 | false =>
  rw [Bool.false_and] at Hres
  go_enter Tryz.func174, Tryz.ntmps174
  go_upto_region 1 with fail
  refine wp_region_held_drew (S := fun X => Below w.heap.size w X) (by kernel_rfl) HB.out (fun hHeld => ?_)
  refine tkH 0 6 (.func (.func F) #[] #[.pointer (some ⟨P, 0, none⟩)]) rfl rfl (fun X hX => by have c := HRc.out _ hX; clear hX; go_simp) hHeld ?_
  simp only [pt, List.set]
  refine tkH 1 7 (.slice (some ad) l.length c) rfl rfl (fun X hX => by have c := HLc.out _ hX; clear hX; go_simp) hHeld ?_
  simp only [pt, List.set]
  refine tkD 2 8 (.int .i64 i) rfl rfl hHeld ?_
  simp only [pt, List.set]
  refine tkD 3 9 (.pointer (some (ad.add (i * 4)))) rfl rfl hHeld ?_
  simp only [pt, List.set]
  refine tkH 4 10 (.agg #[txt y.r.n, .int .i64 y.r.s, .int .u16 (y.r.g : Int), .slice y.a y.r.l.length y.c]) rfl rfl (fun X hX => by obtain ⟨e_0, e_1, e_2, e_3⟩ := Hrow.out _ hX; clear hX; go_simp) hHeld ?_
  simp only [pt, List.set]
  have Kd := hid HB.out
  obtain ⟨U, hU⟩ : ∃ U, w.drew = U := ⟨_, rfl⟩
  rw [hU] at Kd hHeld ⊢
  clear hU
  have he := HEc.out (.agg #[txt y.r.n, .int .i64 y.r.s, .int .u16 (y.r.g : Int), .slice y.a y.r.l.length y.c]) (.pointer (some ⟨P, 0, none⟩)) U
  refine wpAnyH_ready (rs := [5]) (by kernel_rfl) (by simp) ?_
  refine AllReadyH.cons rfl (fun KK hK => ?_) AllReadyH.nil
  simp only [List.getElem_toArray, List.getElem_cons_succ, List.getElem_cons_zero]
  go_simp
  refine (HF.out _ Kd.out).mono ?_
  rintro e w1 ⟨rfl, b1⟩
  have K1 := hid (Kd.out.trans (b1.mono Kd.out.size))
  clear b1 he
  refine hK.out _ _ K1.out (fun hHeld => ?_)
  clear hK KK
  try simp only [pt, List.set]
  refine tkD 6 12 (.bool false) rfl rfl hHeld ?_
  simp only [pt, List.set]
  refine skD 7 13 rfl rfl hHeld ?_
  simp only [pt, List.set]
  refine skD 8 14 rfl rfl hHeld ?_
  simp only [pt, List.set]
  refine skD 9 15 rfl rfl hHeld ?_
  simp only [pt, List.set]
  refine skD 10 16 rfl rfl hHeld ?_
  simp only [pt, List.set]
  refine skD 11 17 rfl rfl hHeld ?_
  simp only [pt, List.set]
  refine skD 12 18 rfl rfl hHeld ?_
  simp only [pt, List.set]
  refine skD 13 19 rfl rfl hHeld ?_
  simp only [pt, List.set]
  refine skD 14 20 rfl rfl hHeld ?_
  simp only [pt, List.set]
  refine skD 15 21 rfl rfl hHeld ?_
  simp only [pt, List.set]
  refine skD 16 22 rfl rfl hHeld ?_
  simp only [pt, List.set]
  refine skD 17 23 rfl rfl hHeld ?_
  simp only [pt, List.set]
  refine skD 18 24 rfl rfl hHeld ?_
  simp only [pt, List.set]
  refine tkD 19 25 (.bool false) rfl rfl hHeld ?_
  simp only [pt, List.set]
  refine tkD 20 5 (.bool false) rfl rfl hHeld ?_
  simp only [pt, List.set]
  refine wpAnyH_done (by kernel_rfl) ?_ _
  clear hHeld
  go_wp2_with fail
  go_ret
  exact Did.mk (by rw [Hres.out]; rfl) K1.out
 | true =>
  rw [Bool.true_and] at Hres
  go_enter Tryz.func174, Tryz.ntmps174
  go_upto_region 1 with fail
  refine wp_region_held_drew (S := fun X => Below w.heap.size w X) (by kernel_rfl) HB.out (fun hHeld => ?_)
  refine tkH 0 6 (.func (.func F) #[] #[.pointer (some ⟨P, 0, none⟩)]) rfl rfl (fun X hX => by have c := HRc.out _ hX; clear hX; go_simp) hHeld ?_
  simp only [pt, List.set]
  refine tkH 1 7 (.slice (some ad) l.length c) rfl rfl (fun X hX => by have c := HLc.out _ hX; clear hX; go_simp) hHeld ?_
  simp only [pt, List.set]
  refine tkD 2 8 (.int .i64 i) rfl rfl hHeld ?_
  simp only [pt, List.set]
  refine tkD 3 9 (.pointer (some (ad.add (i * 4)))) rfl rfl hHeld ?_
  simp only [pt, List.set]
  refine tkH 4 10 (.agg #[txt y.r.n, .int .i64 y.r.s, .int .u16 (y.r.g : Int), .slice y.a y.r.l.length y.c]) rfl rfl (fun X hX => by obtain ⟨e_0, e_1, e_2, e_3⟩ := Hrow.out _ hX; clear hX; go_simp) hHeld ?_
  simp only [pt, List.set]
  have Kd := hid HB.out
  obtain ⟨U, hU⟩ : ∃ U, w.drew = U := ⟨_, rfl⟩
  rw [hU] at Kd hHeld ⊢
  clear hU
  have he := HEc.out (.agg #[txt y.r.n, .int .i64 y.r.s, .int .u16 (y.r.g : Int), .slice y.a y.r.l.length y.c]) (.pointer (some ⟨P, 0, none⟩)) U
  refine wpAnyH_ready (rs := [5]) (by kernel_rfl) (by simp) ?_
  refine AllReadyH.cons rfl (fun KK hK => ?_) AllReadyH.nil
  simp only [List.getElem_toArray, List.getElem_cons_succ, List.getElem_cons_zero]
  go_simp
  refine (HF.out _ Kd.out).mono ?_
  rintro e w1 ⟨rfl, b1⟩
  have K1 := hid (Kd.out.trans (b1.mono Kd.out.size))
  clear b1 he
  refine hK.out _ _ K1.out (fun hHeld => ?_)
  clear hK KK
  try simp only [pt, List.set]
  refine tkD 6 12 (.bool true) rfl rfl hHeld ?_
  simp only [pt, List.set]
  refine tkH 7 13 (.slice (some ad) l.length c) rfl rfl (fun X hX => by have c := HLc.out _ hX; clear hX; go_simp) hHeld ?_
  simp only [pt, List.set]
  refine tkD 8 14 (.int .i64 i) rfl rfl hHeld ?_
  simp only [pt, List.set]
  refine tkD 9 15 (.slice (some ad) i c) rfl rfl hHeld ?_
  simp only [pt, List.set]
  refine tkH 10 16 (.func (.func 107) #[] #[]) rfl rfl (fun X hX => by have c := HNc.out _ hX; clear hX; go_simp) hHeld ?_
  simp only [pt, List.set]
  refine tkH 11 17 (.func (.func 107) #[] #[]) rfl rfl (fun X hX => by have c := HNc.out _ hX; clear hX; go_simp) hHeld ?_
  simp only [pt, List.set]
  refine tkH 12 18 (.slice (some ad) l.length c) rfl rfl (fun X hX => by have c := HLc.out _ hX; clear hX; go_simp) hHeld ?_
  simp only [pt, List.set]
  refine tkD 13 19 (.int .i64 i) rfl rfl hHeld ?_
  simp only [pt, List.set]
  refine tkD 14 20 (.pointer (some (ad.add (i * 4)))) rfl rfl hHeld ?_
  simp only [pt, List.set]
  refine tkH 15 21 (.agg #[txt y.r.n, .int .i64 y.r.s, .int .u16 (y.r.g : Int), .slice y.a y.r.l.length y.c]) rfl rfl (fun X hX => by obtain ⟨e_0, e_1, e_2, e_3⟩ := Hrow.out _ hX; clear hX; go_simp) hHeld ?_
  simp only [pt, List.set]
  refine wpAnyH_ready (rs := [16]) (by kernel_rfl) (by simp) ?_
  refine AllReadyH.cons rfl (fun KK hK => ?_) AllReadyH.nil
  simp only [List.getElem_toArray, List.getElem_cons_succ, List.getElem_cons_zero]
  go_simp
  refine (HN.out _).mono ?_
  rintro e w2 ⟨rfl, b2⟩
  have K2 := hid (K1.out.trans (b2.mono K1.out.size))
  clear b2
  refine hK.out _ _ K2.out (fun hHeld => ?_)
  clear hK KK
  try simp only [pt, List.set]
  refine wpAnyH_ready (rs := [17]) (by kernel_rfl) (by simp) ?_
  refine AllReadyH.cons rfl (fun KK hK => ?_) AllReadyH.nil
  simp only [List.getElem_toArray, List.getElem_cons_succ, List.getElem_cons_zero]
  go_simp
  refine (HI.out _ K2.out).mono ?_
  rintro e w3 ⟨rfl, b3⟩
  have K3 := hid (K2.out.trans (b3.mono K2.out.size))
  clear b3
  refine hK.out _ _ K3.out (fun hHeld => ?_)
  clear hK KK
  try simp only [pt, List.set]
  refine wpAnyH_ready (rs := [18]) (by kernel_rfl) (by simp) ?_
  refine AllReadyH.cons rfl (fun KK hK => ?_) AllReadyH.nil
  simp only [List.getElem_toArray, List.getElem_cons_succ, List.getElem_cons_zero]
  go_simp
  refine hK.out _ _ K3.out (fun hHeld => ?_)
  clear hK KK
  try simp only [pt, List.set]
  refine wpAnyH_ready (rs := [19]) (by kernel_rfl) (by simp) ?_
  refine AllReadyH.cons rfl (fun KK hK => ?_) AllReadyH.nil
  simp only [List.getElem_toArray, List.getElem_cons_succ, List.getElem_cons_zero]
  go_simp
  refine hK.out _ _ K3.out (fun hHeld => ?_)
  clear hK KK
  try simp only [pt, List.set]
  refine wpAnyH_ready (rs := [20]) (by kernel_rfl) (by simp) ?_
  refine AllReadyH.cons rfl (fun KK hK => ?_) AllReadyH.nil
  simp only [List.getElem_toArray, List.getElem_cons_succ, List.getElem_cons_zero]
  go_simp
  refine hK.out _ _ K3.out (fun hHeld => ?_)
  clear hK KK
  try simp only [pt, List.set]
  refine wpAnyH_done (by kernel_rfl) ?_ _
  clear hHeld
  go_wp2_with fail
  go_ret
  exact Did.mk (by first | rfl | (rw [Hres.out]; rfl)) K3.out
set_option maxRecDepth 20000 in
set_option maxHeartbeats 4000000 in
theorem wn_R (A : Option Addr) (c : Nat) (l : List RmA) (hm : l.length ≤ c ∧ c ≤ maxLen) (hs : l.length ≤ 1000000) (most : Int) (rt : RmA → Bool) (F P : Nat) (w : World) (h : Es enR w w.heap.size A l)
 (HE : ∀ a b X, Sem.run Tryz.prog (callFunc F #[a, b]) X = .ok (.enter F #[a, b]) X) (HP : ∀ y ∈ l, ∀ X, Below w.heap.size w X → Calls Tryz.prog F #[rv y.r y.a y.c, .pointer (some ⟨P, 0, none⟩)] X (Did (.bool (rt y)) X)) :
 Calls Tryz.prog 121 #[.slice A l.length c, .int .i64 most, .func (.func 107) #[] #[], .func (.func F) #[] #[.pointer (some ⟨P, 0, none⟩)]] w (Did (.int .i64 (fst17 (l.map fun y => y.r.n) (l.map rt) most)) w) := by
 obtain ⟨L, W, hL, hW, K, hb0⟩ := (Mem.nil w).one [.slice A l.length c] 24
 obtain ⟨N, V, hN, hV, K1, hb1⟩ := K.out.one [.func (.func 107) #[] #[]] 129
 obtain ⟨R, U, hR, hU, K2, hb2⟩ := K1.out.one [.func (.func F) #[] #[.pointer (some ⟨P, 0, none⟩)]] 141
 clear hb0 hb1 hb2 K K1
 have c0 := K2.out.cell (b := L) (cs := [.slice A l.length c]) (t := 24) (by simp) (k := 0) rfl
 have c1 := K2.out.cell (b := N) (cs := [.func (.func 107) #[] #[]]) (t := 129) (by simp) (k := 0) rfl
 have c2 := K2.out.cell (b := R) (cs := [.func (.func F) #[] #[.pointer (some ⟨P, 0, none⟩)]]) (t := 141) (by simp) (k := 0) rfl
 have H := hid (Es.next h K2.out.2)
 have HW := hid (p_wrong3 174 (.pointer (some ⟨R, 0, none⟩)) (.pointer (some ⟨L, 0, none⟩)) (.pointer (some ⟨N, 0, none⟩)) l.length hs most (nmB (l.map fun y => y.r.n) (l.map rt)) U (fun a X => by go_simp)
  (fun i hi X hb => wn1_R A c l hm rt F P R L N X (Es.next H.out hb) HE (fun y hy Z hz => HP y hy Z (K2.out.2.trans ((hb.trans (hz.mono hb.size)).mono K2.out.2.size)))
   ((hb.cell (p := ⟨R, 0, none⟩) (World.block_lt_of_cell? _ _ c2)).trans c2) ((hb.cell (p := ⟨L, 0, none⟩) (World.block_lt_of_cell? _ _ c0)).trans c0) ((hb.cell (p := ⟨N, 0, none⟩) (World.block_lt_of_cell? _ _ c1)).trans c1) i hi))
 have Hr := hid (show fwV l.length most (nmB (l.map fun y => y.r.n) (l.map rt)) = fst17 (l.map fun y => y.r.n) (l.map rt) most by
  rw [← fw_fst, List.length_map])
 generalize fwV l.length most (nmB (l.map fun y => y.r.n) (l.map rt)) = v at *
 clear h HE HP c1 c2
 go_enter Tryz.func121, Tryz.ntmps121
 go_wp2_with fail
 refine (HW.out).mono ?_
 rintro e w1 ⟨rfl, b1⟩
 have K3 := hid (K2.out.next b1)
 clear b1 c0
 go_wp2_with fail
 go_ret
 exact Did.mk (by rw [Hr.out]; rfl) K3.out.2
set_option maxRecDepth 20000 in
set_option maxHeartbeats 8000000 in
theorem wn1_P (A : Option Addr) (c : Nat) (l : List PsA) (hm : l.length ≤ c ∧ c ≤ maxLen) (rt : PsA → Bool) (F P R L N : Nat) (w : World) (h : Es enQ w w.heap.size A l)
 (HE : ∀ a b X, Sem.run Tryz.prog (callFunc F #[a, b]) X = .ok (.enter F #[a, b]) X) (HP : ∀ y ∈ l, ∀ X, Below w.heap.size w X → Calls Tryz.prog F #[pv y.r y.a y.c, .pointer (some ⟨P, 0, none⟩)] X (Did (.bool (rt y)) X))
 (hR : w.cell? ⟨R, 0, none⟩ = some (.func (.func F) #[] #[.pointer (some ⟨P, 0, none⟩)])) (hL : w.cell? ⟨L, 0, none⟩ = some (.slice A l.length c)) (hN : w.cell? ⟨N, 0, none⟩ = some (.func (.func 109) #[] #[]))
 (i : Nat) (hi : i < l.length) :
 Calls Tryz.prog 176 #[.int .i64 (i : Int), .pointer (some ⟨R, 0, none⟩), .pointer (some ⟨L, 0, none⟩), .pointer (some ⟨N, 0, none⟩)] w (Did (.bool (nmB (l.map fun y => y.r.n) (l.map rt) i)) w) := by
 obtain ⟨ad, y, rfl, had, hy, hyl, _⟩ := Es.get enQ_len (by decide) h (k := i) hi
 have hmm := hm
 unfold maxLen at hm
 have H := hid h
 have HF := hid (HP y hyl)
 have HN := hid (fun X => n_P y X)
 have HI := hid (fun X (hb : Below w.heap.size w X) => fd_P (some ad) i c (l.take i) (by rw [List.length_take]; omega) (by rw [List.length_take]; omega) y.r.n X (Es.next (es_take h i) hb))
 have HRc := hid (fun X (hb : Below w.heap.size w X) => (hb.cell (p := ⟨R, 0, none⟩) (World.block_lt_of_cell? _ _ hR)).trans hR)
 have HLc := hid (fun X (hb : Below w.heap.size w X) => (hb.cell (p := ⟨L, 0, none⟩) (World.block_lt_of_cell? _ _ hL)).trans hL)
 have HNc := hid (fun X (hb : Below w.heap.size w X) => (hb.cell (p := ⟨N, 0, none⟩) (World.block_lt_of_cell? _ _ hN)).trans hN)
 have Hres := hid (show nmB (l.map fun y => y.r.n) (l.map rt) i = (rt y && (fnd ((l.take i).map fun y => y.r.n) y.r.n == -1)) by
  unfold nmB
  rw [List.getD_eq_getElem?_getD, List.getElem?_map, hy.out, List.getD_eq_getElem?_getD, List.getElem?_map, hy.out, List.map_take]
  rfl)
 have HEc := hid HE
 have Hrow := hid (fun X (hb : Below w.heap.size w X) => (show X.cell? (ad.add (i * 2)) = some (txt y.r.n) ∧ X.cell? ⟨(ad.add (i * 2)).block, (ad.add (i * 2)).off + 1, none⟩ = some (.slice y.a y.r.l.length y.c) from by
  have hq := h.below hb (Nat.le_refl _)
  exact ⟨es_at enQ_len hq hy.out 0 _ rfl, es_fld enQ_len hq hy.out 1 (by decide) _ rfl⟩))
 have i1 : (0 : Int) ≤ (i : Int) := by omega
 have i2 : (i : Int) < (l.length : Int) := by omega
 have i3 : (i : Int) ≤ (c : Int) := by omega
 generalize nmB (l.map fun y => y.r.n) (l.map rt) i = rr at *
 generalize rt y = q at *
 generalize fnd ((l.take i).map fun y => y.r.n) y.r.n = z at *
 obtain ⟨W, hW⟩ : ∃ W, w = W := ⟨_, rfl⟩
 have HB := hid (show Below w.heap.size w w.drew from (Below.refl _ _).drew)
 clear h HE HP hR hL hN hW had hy hyl H hmm
 cases q with
 | false =>
  rw [Bool.false_and] at Hres
  go_enter Tryz.func176, Tryz.ntmps176
  go_upto_region 1 with fail
  refine wp_region_held_drew (S := fun X => Below w.heap.size w X) (by kernel_rfl) HB.out (fun hHeld => ?_)
  refine tkH 0 6 (.func (.func F) #[] #[.pointer (some ⟨P, 0, none⟩)]) rfl rfl (fun X hX => by have c := HRc.out _ hX; clear hX; go_simp) hHeld ?_
  simp only [pt, List.set]
  refine tkH 1 7 (.slice (some ad) l.length c) rfl rfl (fun X hX => by have c := HLc.out _ hX; clear hX; go_simp) hHeld ?_
  simp only [pt, List.set]
  refine tkD 2 8 (.int .i64 i) rfl rfl hHeld ?_
  simp only [pt, List.set]
  refine tkD 3 9 (.pointer (some (ad.add (i * 2)))) rfl rfl hHeld ?_
  simp only [pt, List.set]
  refine tkH 4 10 (.agg #[txt y.r.n, .slice y.a y.r.l.length y.c]) rfl rfl (fun X hX => by obtain ⟨e_0, e_1⟩ := Hrow.out _ hX; clear hX; go_simp) hHeld ?_
  simp only [pt, List.set]
  have Kd := hid HB.out
  obtain ⟨U, hU⟩ : ∃ U, w.drew = U := ⟨_, rfl⟩
  rw [hU] at Kd hHeld ⊢
  clear hU
  have he := HEc.out (.agg #[txt y.r.n, .slice y.a y.r.l.length y.c]) (.pointer (some ⟨P, 0, none⟩)) U
  refine wpAnyH_ready (rs := [5]) (by kernel_rfl) (by simp) ?_
  refine AllReadyH.cons rfl (fun KK hK => ?_) AllReadyH.nil
  simp only [List.getElem_toArray, List.getElem_cons_succ, List.getElem_cons_zero]
  go_simp
  refine (HF.out _ Kd.out).mono ?_
  rintro e w1 ⟨rfl, b1⟩
  have K1 := hid (Kd.out.trans (b1.mono Kd.out.size))
  clear b1 he
  refine hK.out _ _ K1.out (fun hHeld => ?_)
  clear hK KK
  try simp only [pt, List.set]
  refine tkD 6 12 (.bool false) rfl rfl hHeld ?_
  simp only [pt, List.set]
  refine skD 7 13 rfl rfl hHeld ?_
  simp only [pt, List.set]
  refine skD 8 14 rfl rfl hHeld ?_
  simp only [pt, List.set]
  refine skD 9 15 rfl rfl hHeld ?_
  simp only [pt, List.set]
  refine skD 10 16 rfl rfl hHeld ?_
  simp only [pt, List.set]
  refine skD 11 17 rfl rfl hHeld ?_
  simp only [pt, List.set]
  refine skD 12 18 rfl rfl hHeld ?_
  simp only [pt, List.set]
  refine skD 13 19 rfl rfl hHeld ?_
  simp only [pt, List.set]
  refine skD 14 20 rfl rfl hHeld ?_
  simp only [pt, List.set]
  refine skD 15 21 rfl rfl hHeld ?_
  simp only [pt, List.set]
  refine skD 16 22 rfl rfl hHeld ?_
  simp only [pt, List.set]
  refine skD 17 23 rfl rfl hHeld ?_
  simp only [pt, List.set]
  refine skD 18 24 rfl rfl hHeld ?_
  simp only [pt, List.set]
  refine tkD 19 25 (.bool false) rfl rfl hHeld ?_
  simp only [pt, List.set]
  refine tkD 20 5 (.bool false) rfl rfl hHeld ?_
  simp only [pt, List.set]
  refine wpAnyH_done (by kernel_rfl) ?_ _
  clear hHeld
  go_wp2_with fail
  go_ret
  exact Did.mk (by rw [Hres.out]; rfl) K1.out
 | true =>
  rw [Bool.true_and] at Hres
  go_enter Tryz.func176, Tryz.ntmps176
  go_upto_region 1 with fail
  refine wp_region_held_drew (S := fun X => Below w.heap.size w X) (by kernel_rfl) HB.out (fun hHeld => ?_)
  refine tkH 0 6 (.func (.func F) #[] #[.pointer (some ⟨P, 0, none⟩)]) rfl rfl (fun X hX => by have c := HRc.out _ hX; clear hX; go_simp) hHeld ?_
  simp only [pt, List.set]
  refine tkH 1 7 (.slice (some ad) l.length c) rfl rfl (fun X hX => by have c := HLc.out _ hX; clear hX; go_simp) hHeld ?_
  simp only [pt, List.set]
  refine tkD 2 8 (.int .i64 i) rfl rfl hHeld ?_
  simp only [pt, List.set]
  refine tkD 3 9 (.pointer (some (ad.add (i * 2)))) rfl rfl hHeld ?_
  simp only [pt, List.set]
  refine tkH 4 10 (.agg #[txt y.r.n, .slice y.a y.r.l.length y.c]) rfl rfl (fun X hX => by obtain ⟨e_0, e_1⟩ := Hrow.out _ hX; clear hX; go_simp) hHeld ?_
  simp only [pt, List.set]
  have Kd := hid HB.out
  obtain ⟨U, hU⟩ : ∃ U, w.drew = U := ⟨_, rfl⟩
  rw [hU] at Kd hHeld ⊢
  clear hU
  have he := HEc.out (.agg #[txt y.r.n, .slice y.a y.r.l.length y.c]) (.pointer (some ⟨P, 0, none⟩)) U
  refine wpAnyH_ready (rs := [5]) (by kernel_rfl) (by simp) ?_
  refine AllReadyH.cons rfl (fun KK hK => ?_) AllReadyH.nil
  simp only [List.getElem_toArray, List.getElem_cons_succ, List.getElem_cons_zero]
  go_simp
  refine (HF.out _ Kd.out).mono ?_
  rintro e w1 ⟨rfl, b1⟩
  have K1 := hid (Kd.out.trans (b1.mono Kd.out.size))
  clear b1 he
  refine hK.out _ _ K1.out (fun hHeld => ?_)
  clear hK KK
  try simp only [pt, List.set]
  refine tkD 6 12 (.bool true) rfl rfl hHeld ?_
  simp only [pt, List.set]
  refine tkH 7 13 (.slice (some ad) l.length c) rfl rfl (fun X hX => by have c := HLc.out _ hX; clear hX; go_simp) hHeld ?_
  simp only [pt, List.set]
  refine tkD 8 14 (.int .i64 i) rfl rfl hHeld ?_
  simp only [pt, List.set]
  refine tkD 9 15 (.slice (some ad) i c) rfl rfl hHeld ?_
  simp only [pt, List.set]
  refine tkH 10 16 (.func (.func 109) #[] #[]) rfl rfl (fun X hX => by have c := HNc.out _ hX; clear hX; go_simp) hHeld ?_
  simp only [pt, List.set]
  refine tkH 11 17 (.func (.func 109) #[] #[]) rfl rfl (fun X hX => by have c := HNc.out _ hX; clear hX; go_simp) hHeld ?_
  simp only [pt, List.set]
  refine tkH 12 18 (.slice (some ad) l.length c) rfl rfl (fun X hX => by have c := HLc.out _ hX; clear hX; go_simp) hHeld ?_
  simp only [pt, List.set]
  refine tkD 13 19 (.int .i64 i) rfl rfl hHeld ?_
  simp only [pt, List.set]
  refine tkD 14 20 (.pointer (some (ad.add (i * 2)))) rfl rfl hHeld ?_
  simp only [pt, List.set]
  refine tkH 15 21 (.agg #[txt y.r.n, .slice y.a y.r.l.length y.c]) rfl rfl (fun X hX => by obtain ⟨e_0, e_1⟩ := Hrow.out _ hX; clear hX; go_simp) hHeld ?_
  simp only [pt, List.set]
  refine wpAnyH_ready (rs := [16]) (by kernel_rfl) (by simp) ?_
  refine AllReadyH.cons rfl (fun KK hK => ?_) AllReadyH.nil
  simp only [List.getElem_toArray, List.getElem_cons_succ, List.getElem_cons_zero]
  go_simp
  refine (HN.out _).mono ?_
  rintro e w2 ⟨rfl, b2⟩
  have K2 := hid (K1.out.trans (b2.mono K1.out.size))
  clear b2
  refine hK.out _ _ K2.out (fun hHeld => ?_)
  clear hK KK
  try simp only [pt, List.set]
  refine wpAnyH_ready (rs := [17]) (by kernel_rfl) (by simp) ?_
  refine AllReadyH.cons rfl (fun KK hK => ?_) AllReadyH.nil
  simp only [List.getElem_toArray, List.getElem_cons_succ, List.getElem_cons_zero]
  go_simp
  refine (HI.out _ K2.out).mono ?_
  rintro e w3 ⟨rfl, b3⟩
  have K3 := hid (K2.out.trans (b3.mono K2.out.size))
  clear b3
  refine hK.out _ _ K3.out (fun hHeld => ?_)
  clear hK KK
  try simp only [pt, List.set]
  refine wpAnyH_ready (rs := [18]) (by kernel_rfl) (by simp) ?_
  refine AllReadyH.cons rfl (fun KK hK => ?_) AllReadyH.nil
  simp only [List.getElem_toArray, List.getElem_cons_succ, List.getElem_cons_zero]
  go_simp
  refine hK.out _ _ K3.out (fun hHeld => ?_)
  clear hK KK
  try simp only [pt, List.set]
  refine wpAnyH_ready (rs := [19]) (by kernel_rfl) (by simp) ?_
  refine AllReadyH.cons rfl (fun KK hK => ?_) AllReadyH.nil
  simp only [List.getElem_toArray, List.getElem_cons_succ, List.getElem_cons_zero]
  go_simp
  refine hK.out _ _ K3.out (fun hHeld => ?_)
  clear hK KK
  try simp only [pt, List.set]
  refine wpAnyH_ready (rs := [20]) (by kernel_rfl) (by simp) ?_
  refine AllReadyH.cons rfl (fun KK hK => ?_) AllReadyH.nil
  simp only [List.getElem_toArray, List.getElem_cons_succ, List.getElem_cons_zero]
  go_simp
  refine hK.out _ _ K3.out (fun hHeld => ?_)
  clear hK KK
  try simp only [pt, List.set]
  refine wpAnyH_done (by kernel_rfl) ?_ _
  clear hHeld
  go_wp2_with fail
  go_ret
  exact Did.mk (by first | rfl | (rw [Hres.out]; rfl)) K3.out
set_option maxRecDepth 20000 in
set_option maxHeartbeats 4000000 in
theorem wn_P (A : Option Addr) (c : Nat) (l : List PsA) (hm : l.length ≤ c ∧ c ≤ maxLen) (hs : l.length ≤ 1000000) (most : Int) (rt : PsA → Bool) (F P : Nat) (w : World) (h : Es enQ w w.heap.size A l)
 (HE : ∀ a b X, Sem.run Tryz.prog (callFunc F #[a, b]) X = .ok (.enter F #[a, b]) X) (HP : ∀ y ∈ l, ∀ X, Below w.heap.size w X → Calls Tryz.prog F #[pv y.r y.a y.c, .pointer (some ⟨P, 0, none⟩)] X (Did (.bool (rt y)) X)) :
 Calls Tryz.prog 125 #[.slice A l.length c, .int .i64 most, .func (.func 109) #[] #[], .func (.func F) #[] #[.pointer (some ⟨P, 0, none⟩)]] w (Did (.int .i64 (fst17 (l.map fun y => y.r.n) (l.map rt) most)) w) := by
 obtain ⟨L, W, hL, hW, K, hb0⟩ := (Mem.nil w).one [.slice A l.length c] 26
 obtain ⟨N, V, hN, hV, K1, hb1⟩ := K.out.one [.func (.func 109) #[] #[]] 131
 obtain ⟨R, U, hR, hU, K2, hb2⟩ := K1.out.one [.func (.func F) #[] #[.pointer (some ⟨P, 0, none⟩)]] 144
 clear hb0 hb1 hb2 K K1
 have c0 := K2.out.cell (b := L) (cs := [.slice A l.length c]) (t := 26) (by simp) (k := 0) rfl
 have c1 := K2.out.cell (b := N) (cs := [.func (.func 109) #[] #[]]) (t := 131) (by simp) (k := 0) rfl
 have c2 := K2.out.cell (b := R) (cs := [.func (.func F) #[] #[.pointer (some ⟨P, 0, none⟩)]]) (t := 144) (by simp) (k := 0) rfl
 have H := hid (Es.next h K2.out.2)
 have HW := hid (p_wrong3 176 (.pointer (some ⟨R, 0, none⟩)) (.pointer (some ⟨L, 0, none⟩)) (.pointer (some ⟨N, 0, none⟩)) l.length hs most (nmB (l.map fun y => y.r.n) (l.map rt)) U (fun a X => by go_simp)
  (fun i hi X hb => wn1_P A c l hm rt F P R L N X (Es.next H.out hb) HE (fun y hy Z hz => HP y hy Z (K2.out.2.trans ((hb.trans (hz.mono hb.size)).mono K2.out.2.size)))
   ((hb.cell (p := ⟨R, 0, none⟩) (World.block_lt_of_cell? _ _ c2)).trans c2) ((hb.cell (p := ⟨L, 0, none⟩) (World.block_lt_of_cell? _ _ c0)).trans c0) ((hb.cell (p := ⟨N, 0, none⟩) (World.block_lt_of_cell? _ _ c1)).trans c1) i hi))
 have Hr := hid (show fwV l.length most (nmB (l.map fun y => y.r.n) (l.map rt)) = fst17 (l.map fun y => y.r.n) (l.map rt) most by
  rw [← fw_fst, List.length_map])
 generalize fwV l.length most (nmB (l.map fun y => y.r.n) (l.map rt)) = v at *
 clear h HE HP c1 c2
 go_enter Tryz.func125, Tryz.ntmps125
 go_wp2_with fail
 refine (HW.out).mono ?_
 rintro e w1 ⟨rfl, b1⟩
 have K3 := hid (K2.out.next b1)
 clear b1 c0
 go_wp2_with fail
 go_ret
 exact Did.mk (by rw [Hr.out]; rfl) K3.out.2
set_option maxRecDepth 20000 in
set_option maxHeartbeats 8000000 in
theorem wn1_C (A : Option Addr) (c : Nat) (l : List ClA) (hm : l.length ≤ c ∧ c ≤ maxLen) (rt : ClA → Bool) (F P R L N : Nat) (w : World) (h : Es enC w w.heap.size A l)
 (HE : ∀ a b X, Sem.run Tryz.prog (callFunc F #[a, b]) X = .ok (.enter F #[a, b]) X) (HP : ∀ y ∈ l, ∀ X, Below w.heap.size w X → Calls Tryz.prog F #[cv y.x y.r, .pointer (some ⟨P, 0, none⟩)] X (Did (.bool (rt y)) X))
 (hR : w.cell? ⟨R, 0, none⟩ = some (.func (.func F) #[] #[.pointer (some ⟨P, 0, none⟩)])) (hL : w.cell? ⟨L, 0, none⟩ = some (.slice A l.length c)) (hN : w.cell? ⟨N, 0, none⟩ = some (.func (.func 111) #[] #[]))
 (i : Nat) (hi : i < l.length) :
 Calls Tryz.prog 177 #[.int .i64 (i : Int), .pointer (some ⟨R, 0, none⟩), .pointer (some ⟨L, 0, none⟩), .pointer (some ⟨N, 0, none⟩)] w (Did (.bool (nmB (l.map fun y => y.x.n) (l.map rt) i)) w) := by
 obtain ⟨ad, y, rfl, had, hy, hyl, _⟩ := Es.get enC_len (by decide) h (k := i) hi
 have hmm := hm
 unfold maxLen at hm
 have H := hid h
 have HF := hid (HP y hyl)
 have HN := hid (fun X => n_C y X)
 have HI := hid (fun X (hb : Below w.heap.size w X) => fd_C (some ad) i c (l.take i) (by rw [List.length_take]; omega) (by rw [List.length_take]; omega) y.x.n X (Es.next (es_take h i) hb))
 have HRc := hid (fun X (hb : Below w.heap.size w X) => (hb.cell (p := ⟨R, 0, none⟩) (World.block_lt_of_cell? _ _ hR)).trans hR)
 have HLc := hid (fun X (hb : Below w.heap.size w X) => (hb.cell (p := ⟨L, 0, none⟩) (World.block_lt_of_cell? _ _ hL)).trans hL)
 have HNc := hid (fun X (hb : Below w.heap.size w X) => (hb.cell (p := ⟨N, 0, none⟩) (World.block_lt_of_cell? _ _ hN)).trans hN)
 have Hres := hid (show nmB (l.map fun y => y.x.n) (l.map rt) i = (rt y && (fnd ((l.take i).map fun y => y.x.n) y.x.n == -1)) by
  unfold nmB
  rw [List.getD_eq_getElem?_getD, List.getElem?_map, hy.out, List.getD_eq_getElem?_getD, List.getElem?_map, hy.out, List.map_take]
  rfl)
 have HEc := hid HE
 have Hrow := hid (fun X (hb : Below w.heap.size w X) => (show X.cell? (ad.add (i * 7)) = some (txt y.x.n) ∧ X.cell? ⟨(ad.add (i * 7)).block, (ad.add (i * 7)).off + 1, none⟩ = some (.int .i64 y.x.s) ∧ X.cell? ⟨(ad.add (i * 7)).block, (ad.add (i * 7)).off + 2, none⟩ = some (.int .u16 (y.x.g : Int)) ∧ X.cell? ⟨(ad.add (i * 7)).block, (ad.add (i * 7)).off + 3, none⟩ = some (.slice y.r.a y.x.p.length y.r.ac) ∧ X.cell? ⟨(ad.add (i * 7)).block, (ad.add (i * 7)).off + 4, none⟩ = some (.slice y.r.b y.x.t.length y.r.bc) ∧ X.cell? ⟨(ad.add (i * 7)).block, (ad.add (i * 7)).off + 5, none⟩ = some (.slice y.r.c y.x.l.length y.r.cc) ∧ X.cell? ⟨(ad.add (i * 7)).block, (ad.add (i * 7)).off + 6, none⟩ = some (.int .i64 y.x.o) from by
  have hq := h.below hb (Nat.le_refl _)
  exact ⟨es_at enC_len hq hy.out 0 _ rfl, es_fld enC_len hq hy.out 1 (by decide) _ rfl, es_fld enC_len hq hy.out 2 (by decide) _ rfl, es_fld enC_len hq hy.out 3 (by decide) _ rfl, es_fld enC_len hq hy.out 4 (by decide) _ rfl, es_fld enC_len hq hy.out 5 (by decide) _ rfl, es_fld enC_len hq hy.out 6 (by decide) _ rfl⟩))
 have i1 : (0 : Int) ≤ (i : Int) := by omega
 have i2 : (i : Int) < (l.length : Int) := by omega
 have i3 : (i : Int) ≤ (c : Int) := by omega
 generalize nmB (l.map fun y => y.x.n) (l.map rt) i = rr at *
 generalize rt y = q at *
 generalize fnd ((l.take i).map fun y => y.x.n) y.x.n = z at *
 obtain ⟨W, hW⟩ : ∃ W, w = W := ⟨_, rfl⟩
 have HB := hid (show Below w.heap.size w w.drew from (Below.refl _ _).drew)
 clear h HE HP hR hL hN hW had hy hyl H hmm
 cases q with
 | false =>
  rw [Bool.false_and] at Hres
  go_enter Tryz.func177, Tryz.ntmps177
  go_upto_region 1 with fail
  refine wp_region_held_drew (S := fun X => Below w.heap.size w X) (by kernel_rfl) HB.out (fun hHeld => ?_)
  refine tkH 0 6 (.func (.func F) #[] #[.pointer (some ⟨P, 0, none⟩)]) rfl rfl (fun X hX => by have c := HRc.out _ hX; clear hX; go_simp) hHeld ?_
  simp only [pt, List.set]
  refine tkH 1 7 (.slice (some ad) l.length c) rfl rfl (fun X hX => by have c := HLc.out _ hX; clear hX; go_simp) hHeld ?_
  simp only [pt, List.set]
  refine tkD 2 8 (.int .i64 i) rfl rfl hHeld ?_
  simp only [pt, List.set]
  refine tkD 3 9 (.pointer (some (ad.add (i * 7)))) rfl rfl hHeld ?_
  simp only [pt, List.set]
  refine tkH 4 10 (.agg #[txt y.x.n, .int .i64 y.x.s, .int .u16 (y.x.g : Int), .slice y.r.a y.x.p.length y.r.ac, .slice y.r.b y.x.t.length y.r.bc, .slice y.r.c y.x.l.length y.r.cc, .int .i64 y.x.o]) rfl rfl (fun X hX => by obtain ⟨e_0, e_1, e_2, e_3, e_4, e_5, e_6⟩ := Hrow.out _ hX; clear hX; go_simp) hHeld ?_
  simp only [pt, List.set]
  have Kd := hid HB.out
  obtain ⟨U, hU⟩ : ∃ U, w.drew = U := ⟨_, rfl⟩
  rw [hU] at Kd hHeld ⊢
  clear hU
  have he := HEc.out (.agg #[txt y.x.n, .int .i64 y.x.s, .int .u16 (y.x.g : Int), .slice y.r.a y.x.p.length y.r.ac, .slice y.r.b y.x.t.length y.r.bc, .slice y.r.c y.x.l.length y.r.cc, .int .i64 y.x.o]) (.pointer (some ⟨P, 0, none⟩)) U
  refine wpAnyH_ready (rs := [5]) (by kernel_rfl) (by simp) ?_
  refine AllReadyH.cons rfl (fun KK hK => ?_) AllReadyH.nil
  simp only [List.getElem_toArray, List.getElem_cons_succ, List.getElem_cons_zero]
  go_simp
  refine (HF.out _ Kd.out).mono ?_
  rintro e w1 ⟨rfl, b1⟩
  have K1 := hid (Kd.out.trans (b1.mono Kd.out.size))
  clear b1 he
  refine hK.out _ _ K1.out (fun hHeld => ?_)
  clear hK KK
  try simp only [pt, List.set]
  refine tkD 6 12 (.bool false) rfl rfl hHeld ?_
  simp only [pt, List.set]
  refine skD 7 13 rfl rfl hHeld ?_
  simp only [pt, List.set]
  refine skD 8 14 rfl rfl hHeld ?_
  simp only [pt, List.set]
  refine skD 9 15 rfl rfl hHeld ?_
  simp only [pt, List.set]
  refine skD 10 16 rfl rfl hHeld ?_
  simp only [pt, List.set]
  refine skD 11 17 rfl rfl hHeld ?_
  simp only [pt, List.set]
  refine skD 12 18 rfl rfl hHeld ?_
  simp only [pt, List.set]
  refine skD 13 19 rfl rfl hHeld ?_
  simp only [pt, List.set]
  refine skD 14 20 rfl rfl hHeld ?_
  simp only [pt, List.set]
  refine skD 15 21 rfl rfl hHeld ?_
  simp only [pt, List.set]
  refine skD 16 22 rfl rfl hHeld ?_
  simp only [pt, List.set]
  refine skD 17 23 rfl rfl hHeld ?_
  simp only [pt, List.set]
  refine skD 18 24 rfl rfl hHeld ?_
  simp only [pt, List.set]
  refine tkD 19 25 (.bool false) rfl rfl hHeld ?_
  simp only [pt, List.set]
  refine tkD 20 5 (.bool false) rfl rfl hHeld ?_
  simp only [pt, List.set]
  refine wpAnyH_done (by kernel_rfl) ?_ _
  clear hHeld
  go_wp2_with fail
  go_ret
  exact Did.mk (by rw [Hres.out]; rfl) K1.out
 | true =>
  rw [Bool.true_and] at Hres
  go_enter Tryz.func177, Tryz.ntmps177
  go_upto_region 1 with fail
  refine wp_region_held_drew (S := fun X => Below w.heap.size w X) (by kernel_rfl) HB.out (fun hHeld => ?_)
  refine tkH 0 6 (.func (.func F) #[] #[.pointer (some ⟨P, 0, none⟩)]) rfl rfl (fun X hX => by have c := HRc.out _ hX; clear hX; go_simp) hHeld ?_
  simp only [pt, List.set]
  refine tkH 1 7 (.slice (some ad) l.length c) rfl rfl (fun X hX => by have c := HLc.out _ hX; clear hX; go_simp) hHeld ?_
  simp only [pt, List.set]
  refine tkD 2 8 (.int .i64 i) rfl rfl hHeld ?_
  simp only [pt, List.set]
  refine tkD 3 9 (.pointer (some (ad.add (i * 7)))) rfl rfl hHeld ?_
  simp only [pt, List.set]
  refine tkH 4 10 (.agg #[txt y.x.n, .int .i64 y.x.s, .int .u16 (y.x.g : Int), .slice y.r.a y.x.p.length y.r.ac, .slice y.r.b y.x.t.length y.r.bc, .slice y.r.c y.x.l.length y.r.cc, .int .i64 y.x.o]) rfl rfl (fun X hX => by obtain ⟨e_0, e_1, e_2, e_3, e_4, e_5, e_6⟩ := Hrow.out _ hX; clear hX; go_simp) hHeld ?_
  simp only [pt, List.set]
  have Kd := hid HB.out
  obtain ⟨U, hU⟩ : ∃ U, w.drew = U := ⟨_, rfl⟩
  rw [hU] at Kd hHeld ⊢
  clear hU
  have he := HEc.out (.agg #[txt y.x.n, .int .i64 y.x.s, .int .u16 (y.x.g : Int), .slice y.r.a y.x.p.length y.r.ac, .slice y.r.b y.x.t.length y.r.bc, .slice y.r.c y.x.l.length y.r.cc, .int .i64 y.x.o]) (.pointer (some ⟨P, 0, none⟩)) U
  refine wpAnyH_ready (rs := [5]) (by kernel_rfl) (by simp) ?_
  refine AllReadyH.cons rfl (fun KK hK => ?_) AllReadyH.nil
  simp only [List.getElem_toArray, List.getElem_cons_succ, List.getElem_cons_zero]
  go_simp
  refine (HF.out _ Kd.out).mono ?_
  rintro e w1 ⟨rfl, b1⟩
  have K1 := hid (Kd.out.trans (b1.mono Kd.out.size))
  clear b1 he
  refine hK.out _ _ K1.out (fun hHeld => ?_)
  clear hK KK
  try simp only [pt, List.set]
  refine tkD 6 12 (.bool true) rfl rfl hHeld ?_
  simp only [pt, List.set]
  refine tkH 7 13 (.slice (some ad) l.length c) rfl rfl (fun X hX => by have c := HLc.out _ hX; clear hX; go_simp) hHeld ?_
  simp only [pt, List.set]
  refine tkD 8 14 (.int .i64 i) rfl rfl hHeld ?_
  simp only [pt, List.set]
  refine tkD 9 15 (.slice (some ad) i c) rfl rfl hHeld ?_
  simp only [pt, List.set]
  refine tkH 10 16 (.func (.func 111) #[] #[]) rfl rfl (fun X hX => by have c := HNc.out _ hX; clear hX; go_simp) hHeld ?_
  simp only [pt, List.set]
  refine tkH 11 17 (.func (.func 111) #[] #[]) rfl rfl (fun X hX => by have c := HNc.out _ hX; clear hX; go_simp) hHeld ?_
  simp only [pt, List.set]
  refine tkH 12 18 (.slice (some ad) l.length c) rfl rfl (fun X hX => by have c := HLc.out _ hX; clear hX; go_simp) hHeld ?_
  simp only [pt, List.set]
  refine tkD 13 19 (.int .i64 i) rfl rfl hHeld ?_
  simp only [pt, List.set]
  refine tkD 14 20 (.pointer (some (ad.add (i * 7)))) rfl rfl hHeld ?_
  simp only [pt, List.set]
  refine tkH 15 21 (.agg #[txt y.x.n, .int .i64 y.x.s, .int .u16 (y.x.g : Int), .slice y.r.a y.x.p.length y.r.ac, .slice y.r.b y.x.t.length y.r.bc, .slice y.r.c y.x.l.length y.r.cc, .int .i64 y.x.o]) rfl rfl (fun X hX => by obtain ⟨e_0, e_1, e_2, e_3, e_4, e_5, e_6⟩ := Hrow.out _ hX; clear hX; go_simp) hHeld ?_
  simp only [pt, List.set]
  refine wpAnyH_ready (rs := [16]) (by kernel_rfl) (by simp) ?_
  refine AllReadyH.cons rfl (fun KK hK => ?_) AllReadyH.nil
  simp only [List.getElem_toArray, List.getElem_cons_succ, List.getElem_cons_zero]
  go_simp
  refine (HN.out _).mono ?_
  rintro e w2 ⟨rfl, b2⟩
  have K2 := hid (K1.out.trans (b2.mono K1.out.size))
  clear b2
  refine hK.out _ _ K2.out (fun hHeld => ?_)
  clear hK KK
  try simp only [pt, List.set]
  refine wpAnyH_ready (rs := [17]) (by kernel_rfl) (by simp) ?_
  refine AllReadyH.cons rfl (fun KK hK => ?_) AllReadyH.nil
  simp only [List.getElem_toArray, List.getElem_cons_succ, List.getElem_cons_zero]
  go_simp
  refine (HI.out _ K2.out).mono ?_
  rintro e w3 ⟨rfl, b3⟩
  have K3 := hid (K2.out.trans (b3.mono K2.out.size))
  clear b3
  refine hK.out _ _ K3.out (fun hHeld => ?_)
  clear hK KK
  try simp only [pt, List.set]
  refine wpAnyH_ready (rs := [18]) (by kernel_rfl) (by simp) ?_
  refine AllReadyH.cons rfl (fun KK hK => ?_) AllReadyH.nil
  simp only [List.getElem_toArray, List.getElem_cons_succ, List.getElem_cons_zero]
  go_simp
  refine hK.out _ _ K3.out (fun hHeld => ?_)
  clear hK KK
  try simp only [pt, List.set]
  refine wpAnyH_ready (rs := [19]) (by kernel_rfl) (by simp) ?_
  refine AllReadyH.cons rfl (fun KK hK => ?_) AllReadyH.nil
  simp only [List.getElem_toArray, List.getElem_cons_succ, List.getElem_cons_zero]
  go_simp
  refine hK.out _ _ K3.out (fun hHeld => ?_)
  clear hK KK
  try simp only [pt, List.set]
  refine wpAnyH_ready (rs := [20]) (by kernel_rfl) (by simp) ?_
  refine AllReadyH.cons rfl (fun KK hK => ?_) AllReadyH.nil
  simp only [List.getElem_toArray, List.getElem_cons_succ, List.getElem_cons_zero]
  go_simp
  refine hK.out _ _ K3.out (fun hHeld => ?_)
  clear hK KK
  try simp only [pt, List.set]
  refine wpAnyH_done (by kernel_rfl) ?_ _
  clear hHeld
  go_wp2_with fail
  go_ret
  exact Did.mk (by first | rfl | (rw [Hres.out]; rfl)) K3.out
set_option maxRecDepth 20000 in
set_option maxHeartbeats 4000000 in
theorem wn_C (A : Option Addr) (c : Nat) (l : List ClA) (hm : l.length ≤ c ∧ c ≤ maxLen) (hs : l.length ≤ 1000000) (most : Int) (rt : ClA → Bool) (F P : Nat) (w : World) (h : Es enC w w.heap.size A l)
 (HE : ∀ a b X, Sem.run Tryz.prog (callFunc F #[a, b]) X = .ok (.enter F #[a, b]) X) (HP : ∀ y ∈ l, ∀ X, Below w.heap.size w X → Calls Tryz.prog F #[cv y.x y.r, .pointer (some ⟨P, 0, none⟩)] X (Did (.bool (rt y)) X)) :
 Calls Tryz.prog 128 #[.slice A l.length c, .int .i64 most, .func (.func 111) #[] #[], .func (.func F) #[] #[.pointer (some ⟨P, 0, none⟩)]] w (Did (.int .i64 (fst17 (l.map fun y => y.x.n) (l.map rt) most)) w) := by
 obtain ⟨L, W, hL, hW, K, hb0⟩ := (Mem.nil w).one [.slice A l.length c] 27
 obtain ⟨N, V, hN, hV, K1, hb1⟩ := K.out.one [.func (.func 111) #[] #[]] 133
 obtain ⟨R, U, hR, hU, K2, hb2⟩ := K1.out.one [.func (.func F) #[] #[.pointer (some ⟨P, 0, none⟩)]] 147
 clear hb0 hb1 hb2 K K1
 have c0 := K2.out.cell (b := L) (cs := [.slice A l.length c]) (t := 27) (by simp) (k := 0) rfl
 have c1 := K2.out.cell (b := N) (cs := [.func (.func 111) #[] #[]]) (t := 133) (by simp) (k := 0) rfl
 have c2 := K2.out.cell (b := R) (cs := [.func (.func F) #[] #[.pointer (some ⟨P, 0, none⟩)]]) (t := 147) (by simp) (k := 0) rfl
 have H := hid (Es.next h K2.out.2)
 have HW := hid (p_wrong3 177 (.pointer (some ⟨R, 0, none⟩)) (.pointer (some ⟨L, 0, none⟩)) (.pointer (some ⟨N, 0, none⟩)) l.length hs most (nmB (l.map fun y => y.x.n) (l.map rt)) U (fun a X => by go_simp)
  (fun i hi X hb => wn1_C A c l hm rt F P R L N X (Es.next H.out hb) HE (fun y hy Z hz => HP y hy Z (K2.out.2.trans ((hb.trans (hz.mono hb.size)).mono K2.out.2.size)))
   ((hb.cell (p := ⟨R, 0, none⟩) (World.block_lt_of_cell? _ _ c2)).trans c2) ((hb.cell (p := ⟨L, 0, none⟩) (World.block_lt_of_cell? _ _ c0)).trans c0) ((hb.cell (p := ⟨N, 0, none⟩) (World.block_lt_of_cell? _ _ c1)).trans c1) i hi))
 have Hr := hid (show fwV l.length most (nmB (l.map fun y => y.x.n) (l.map rt)) = fst17 (l.map fun y => y.x.n) (l.map rt) most by
  rw [← fw_fst, List.length_map])
 generalize fwV l.length most (nmB (l.map fun y => y.x.n) (l.map rt)) = v at *
 clear h HE HP c1 c2
 go_enter Tryz.func128, Tryz.ntmps128
 go_wp2_with fail
 refine (HW.out).mono ?_
 rintro e w1 ⟨rfl, b1⟩
 have K3 := hid (K2.out.next b1)
 clear b1 c0
 go_wp2_with fail
 go_ret
 exact Did.mk (by rw [Hr.out]; rfl) K3.out.2
set_option maxRecDepth 20000 in
set_option maxHeartbeats 8000000 in
theorem wn1_K (A : Option Addr) (c : Nat) (l : List CsA) (hm : l.length ≤ c ∧ c ≤ maxLen) (rt : CsA → Bool) (F P R L N : Nat) (w : World) (h : Es enK w w.heap.size A l)
 (HE : ∀ a b X, Sem.run Tryz.prog (callFunc F #[a, b]) X = .ok (.enter F #[a, b]) X) (HP : ∀ y ∈ l, ∀ X, Below w.heap.size w X → Calls Tryz.prog F #[csv y.x y.a y.c, .pointer (some ⟨P, 0, none⟩)] X (Did (.bool (rt y)) X))
 (hR : w.cell? ⟨R, 0, none⟩ = some (.func (.func F) #[] #[.pointer (some ⟨P, 0, none⟩)])) (hL : w.cell? ⟨L, 0, none⟩ = some (.slice A l.length c)) (hN : w.cell? ⟨N, 0, none⟩ = some (.func (.func 113) #[] #[]))
 (i : Nat) (hi : i < l.length) :
 Calls Tryz.prog 182 #[.int .i64 (i : Int), .pointer (some ⟨R, 0, none⟩), .pointer (some ⟨L, 0, none⟩), .pointer (some ⟨N, 0, none⟩)] w (Did (.bool (nmB (l.map fun y => y.x.n) (l.map rt) i)) w) := by
 obtain ⟨ad, y, rfl, had, hy, hyl, _⟩ := Es.get enK_len (by decide) h (k := i) hi
 have hmm := hm
 unfold maxLen at hm
 have H := hid h
 have HF := hid (HP y hyl)
 have HN := hid (fun X => n_K y X)
 have HI := hid (fun X (hb : Below w.heap.size w X) => fd_K (some ad) i c (l.take i) (by rw [List.length_take]; omega) (by rw [List.length_take]; omega) y.x.n X (Es.next (es_take h i) hb))
 have HRc := hid (fun X (hb : Below w.heap.size w X) => (hb.cell (p := ⟨R, 0, none⟩) (World.block_lt_of_cell? _ _ hR)).trans hR)
 have HLc := hid (fun X (hb : Below w.heap.size w X) => (hb.cell (p := ⟨L, 0, none⟩) (World.block_lt_of_cell? _ _ hL)).trans hL)
 have HNc := hid (fun X (hb : Below w.heap.size w X) => (hb.cell (p := ⟨N, 0, none⟩) (World.block_lt_of_cell? _ _ hN)).trans hN)
 have Hres := hid (show nmB (l.map fun y => y.x.n) (l.map rt) i = (rt y && (fnd ((l.take i).map fun y => y.x.n) y.x.n == -1)) by
  unfold nmB
  rw [List.getD_eq_getElem?_getD, List.getElem?_map, hy.out, List.getD_eq_getElem?_getD, List.getElem?_map, hy.out, List.map_take]
  rfl)
 have HEc := hid HE
 have Hrow := hid (fun X (hb : Below w.heap.size w X) => (show X.cell? (ad.add (i * 2)) = some (txt y.x.n) ∧ X.cell? ⟨(ad.add (i * 2)).block, (ad.add (i * 2)).off + 1, none⟩ = some (.slice y.a y.x.ws.length y.c) from by
  have hq := h.below hb (Nat.le_refl _)
  exact ⟨es_at enK_len hq hy.out 0 _ rfl, es_fld enK_len hq hy.out 1 (by decide) _ rfl⟩))
 have i1 : (0 : Int) ≤ (i : Int) := by omega
 have i2 : (i : Int) < (l.length : Int) := by omega
 have i3 : (i : Int) ≤ (c : Int) := by omega
 generalize nmB (l.map fun y => y.x.n) (l.map rt) i = rr at *
 generalize rt y = q at *
 generalize fnd ((l.take i).map fun y => y.x.n) y.x.n = z at *
 obtain ⟨W, hW⟩ : ∃ W, w = W := ⟨_, rfl⟩
 have HB := hid (show Below w.heap.size w w.drew from (Below.refl _ _).drew)
 clear h HE HP hR hL hN hW had hy hyl H hmm
 cases q with
 | false =>
  rw [Bool.false_and] at Hres
  go_enter Tryz.func182, Tryz.ntmps182
  go_upto_region 1 with fail
  refine wp_region_held_drew (S := fun X => Below w.heap.size w X) (by kernel_rfl) HB.out (fun hHeld => ?_)
  refine tkH 0 6 (.func (.func F) #[] #[.pointer (some ⟨P, 0, none⟩)]) rfl rfl (fun X hX => by have c := HRc.out _ hX; clear hX; go_simp) hHeld ?_
  simp only [pt, List.set]
  refine tkH 1 7 (.slice (some ad) l.length c) rfl rfl (fun X hX => by have c := HLc.out _ hX; clear hX; go_simp) hHeld ?_
  simp only [pt, List.set]
  refine tkD 2 8 (.int .i64 i) rfl rfl hHeld ?_
  simp only [pt, List.set]
  refine tkD 3 9 (.pointer (some (ad.add (i * 2)))) rfl rfl hHeld ?_
  simp only [pt, List.set]
  refine tkH 4 10 (.agg #[txt y.x.n, .slice y.a y.x.ws.length y.c]) rfl rfl (fun X hX => by obtain ⟨e_0, e_1⟩ := Hrow.out _ hX; clear hX; go_simp) hHeld ?_
  simp only [pt, List.set]
  have Kd := hid HB.out
  obtain ⟨U, hU⟩ : ∃ U, w.drew = U := ⟨_, rfl⟩
  rw [hU] at Kd hHeld ⊢
  clear hU
  have he := HEc.out (.agg #[txt y.x.n, .slice y.a y.x.ws.length y.c]) (.pointer (some ⟨P, 0, none⟩)) U
  refine wpAnyH_ready (rs := [5]) (by kernel_rfl) (by simp) ?_
  refine AllReadyH.cons rfl (fun KK hK => ?_) AllReadyH.nil
  simp only [List.getElem_toArray, List.getElem_cons_succ, List.getElem_cons_zero]
  go_simp
  refine (HF.out _ Kd.out).mono ?_
  rintro e w1 ⟨rfl, b1⟩
  have K1 := hid (Kd.out.trans (b1.mono Kd.out.size))
  clear b1 he
  refine hK.out _ _ K1.out (fun hHeld => ?_)
  clear hK KK
  try simp only [pt, List.set]
  refine tkD 6 12 (.bool false) rfl rfl hHeld ?_
  simp only [pt, List.set]
  refine skD 7 13 rfl rfl hHeld ?_
  simp only [pt, List.set]
  refine skD 8 14 rfl rfl hHeld ?_
  simp only [pt, List.set]
  refine skD 9 15 rfl rfl hHeld ?_
  simp only [pt, List.set]
  refine skD 10 16 rfl rfl hHeld ?_
  simp only [pt, List.set]
  refine skD 11 17 rfl rfl hHeld ?_
  simp only [pt, List.set]
  refine skD 12 18 rfl rfl hHeld ?_
  simp only [pt, List.set]
  refine skD 13 19 rfl rfl hHeld ?_
  simp only [pt, List.set]
  refine skD 14 20 rfl rfl hHeld ?_
  simp only [pt, List.set]
  refine skD 15 21 rfl rfl hHeld ?_
  simp only [pt, List.set]
  refine skD 16 22 rfl rfl hHeld ?_
  simp only [pt, List.set]
  refine skD 17 23 rfl rfl hHeld ?_
  simp only [pt, List.set]
  refine skD 18 24 rfl rfl hHeld ?_
  simp only [pt, List.set]
  refine tkD 19 25 (.bool false) rfl rfl hHeld ?_
  simp only [pt, List.set]
  refine tkD 20 5 (.bool false) rfl rfl hHeld ?_
  simp only [pt, List.set]
  refine wpAnyH_done (by kernel_rfl) ?_ _
  clear hHeld
  go_wp2_with fail
  go_ret
  exact Did.mk (by rw [Hres.out]; rfl) K1.out
 | true =>
  rw [Bool.true_and] at Hres
  go_enter Tryz.func182, Tryz.ntmps182
  go_upto_region 1 with fail
  refine wp_region_held_drew (S := fun X => Below w.heap.size w X) (by kernel_rfl) HB.out (fun hHeld => ?_)
  refine tkH 0 6 (.func (.func F) #[] #[.pointer (some ⟨P, 0, none⟩)]) rfl rfl (fun X hX => by have c := HRc.out _ hX; clear hX; go_simp) hHeld ?_
  simp only [pt, List.set]
  refine tkH 1 7 (.slice (some ad) l.length c) rfl rfl (fun X hX => by have c := HLc.out _ hX; clear hX; go_simp) hHeld ?_
  simp only [pt, List.set]
  refine tkD 2 8 (.int .i64 i) rfl rfl hHeld ?_
  simp only [pt, List.set]
  refine tkD 3 9 (.pointer (some (ad.add (i * 2)))) rfl rfl hHeld ?_
  simp only [pt, List.set]
  refine tkH 4 10 (.agg #[txt y.x.n, .slice y.a y.x.ws.length y.c]) rfl rfl (fun X hX => by obtain ⟨e_0, e_1⟩ := Hrow.out _ hX; clear hX; go_simp) hHeld ?_
  simp only [pt, List.set]
  have Kd := hid HB.out
  obtain ⟨U, hU⟩ : ∃ U, w.drew = U := ⟨_, rfl⟩
  rw [hU] at Kd hHeld ⊢
  clear hU
  have he := HEc.out (.agg #[txt y.x.n, .slice y.a y.x.ws.length y.c]) (.pointer (some ⟨P, 0, none⟩)) U
  refine wpAnyH_ready (rs := [5]) (by kernel_rfl) (by simp) ?_
  refine AllReadyH.cons rfl (fun KK hK => ?_) AllReadyH.nil
  simp only [List.getElem_toArray, List.getElem_cons_succ, List.getElem_cons_zero]
  go_simp
  refine (HF.out _ Kd.out).mono ?_
  rintro e w1 ⟨rfl, b1⟩
  have K1 := hid (Kd.out.trans (b1.mono Kd.out.size))
  clear b1 he
  refine hK.out _ _ K1.out (fun hHeld => ?_)
  clear hK KK
  try simp only [pt, List.set]
  refine tkD 6 12 (.bool true) rfl rfl hHeld ?_
  simp only [pt, List.set]
  refine tkH 7 13 (.slice (some ad) l.length c) rfl rfl (fun X hX => by have c := HLc.out _ hX; clear hX; go_simp) hHeld ?_
  simp only [pt, List.set]
  refine tkD 8 14 (.int .i64 i) rfl rfl hHeld ?_
  simp only [pt, List.set]
  refine tkD 9 15 (.slice (some ad) i c) rfl rfl hHeld ?_
  simp only [pt, List.set]
  refine tkH 10 16 (.func (.func 113) #[] #[]) rfl rfl (fun X hX => by have c := HNc.out _ hX; clear hX; go_simp) hHeld ?_
  simp only [pt, List.set]
  refine tkH 11 17 (.func (.func 113) #[] #[]) rfl rfl (fun X hX => by have c := HNc.out _ hX; clear hX; go_simp) hHeld ?_
  simp only [pt, List.set]
  refine tkH 12 18 (.slice (some ad) l.length c) rfl rfl (fun X hX => by have c := HLc.out _ hX; clear hX; go_simp) hHeld ?_
  simp only [pt, List.set]
  refine tkD 13 19 (.int .i64 i) rfl rfl hHeld ?_
  simp only [pt, List.set]
  refine tkD 14 20 (.pointer (some (ad.add (i * 2)))) rfl rfl hHeld ?_
  simp only [pt, List.set]
  refine tkH 15 21 (.agg #[txt y.x.n, .slice y.a y.x.ws.length y.c]) rfl rfl (fun X hX => by obtain ⟨e_0, e_1⟩ := Hrow.out _ hX; clear hX; go_simp) hHeld ?_
  simp only [pt, List.set]
  refine wpAnyH_ready (rs := [16]) (by kernel_rfl) (by simp) ?_
  refine AllReadyH.cons rfl (fun KK hK => ?_) AllReadyH.nil
  simp only [List.getElem_toArray, List.getElem_cons_succ, List.getElem_cons_zero]
  go_simp
  refine (HN.out _).mono ?_
  rintro e w2 ⟨rfl, b2⟩
  have K2 := hid (K1.out.trans (b2.mono K1.out.size))
  clear b2
  refine hK.out _ _ K2.out (fun hHeld => ?_)
  clear hK KK
  try simp only [pt, List.set]
  refine wpAnyH_ready (rs := [17]) (by kernel_rfl) (by simp) ?_
  refine AllReadyH.cons rfl (fun KK hK => ?_) AllReadyH.nil
  simp only [List.getElem_toArray, List.getElem_cons_succ, List.getElem_cons_zero]
  go_simp
  refine (HI.out _ K2.out).mono ?_
  rintro e w3 ⟨rfl, b3⟩
  have K3 := hid (K2.out.trans (b3.mono K2.out.size))
  clear b3
  refine hK.out _ _ K3.out (fun hHeld => ?_)
  clear hK KK
  try simp only [pt, List.set]
  refine wpAnyH_ready (rs := [18]) (by kernel_rfl) (by simp) ?_
  refine AllReadyH.cons rfl (fun KK hK => ?_) AllReadyH.nil
  simp only [List.getElem_toArray, List.getElem_cons_succ, List.getElem_cons_zero]
  go_simp
  refine hK.out _ _ K3.out (fun hHeld => ?_)
  clear hK KK
  try simp only [pt, List.set]
  refine wpAnyH_ready (rs := [19]) (by kernel_rfl) (by simp) ?_
  refine AllReadyH.cons rfl (fun KK hK => ?_) AllReadyH.nil
  simp only [List.getElem_toArray, List.getElem_cons_succ, List.getElem_cons_zero]
  go_simp
  refine hK.out _ _ K3.out (fun hHeld => ?_)
  clear hK KK
  try simp only [pt, List.set]
  refine wpAnyH_ready (rs := [20]) (by kernel_rfl) (by simp) ?_
  refine AllReadyH.cons rfl (fun KK hK => ?_) AllReadyH.nil
  simp only [List.getElem_toArray, List.getElem_cons_succ, List.getElem_cons_zero]
  go_simp
  refine hK.out _ _ K3.out (fun hHeld => ?_)
  clear hK KK
  try simp only [pt, List.set]
  refine wpAnyH_done (by kernel_rfl) ?_ _
  clear hHeld
  go_wp2_with fail
  go_ret
  exact Did.mk (by first | rfl | (rw [Hres.out]; rfl)) K3.out
set_option maxRecDepth 20000 in
set_option maxHeartbeats 4000000 in
theorem wn_K (A : Option Addr) (c : Nat) (l : List CsA) (hm : l.length ≤ c ∧ c ≤ maxLen) (hs : l.length ≤ 1000000) (most : Int) (rt : CsA → Bool) (F P : Nat) (w : World) (h : Es enK w w.heap.size A l)
 (HE : ∀ a b X, Sem.run Tryz.prog (callFunc F #[a, b]) X = .ok (.enter F #[a, b]) X) (HP : ∀ y ∈ l, ∀ X, Below w.heap.size w X → Calls Tryz.prog F #[csv y.x y.a y.c, .pointer (some ⟨P, 0, none⟩)] X (Did (.bool (rt y)) X)) :
 Calls Tryz.prog 131 #[.slice A l.length c, .int .i64 most, .func (.func 113) #[] #[], .func (.func F) #[] #[.pointer (some ⟨P, 0, none⟩)]] w (Did (.int .i64 (fst17 (l.map fun y => y.x.n) (l.map rt) most)) w) := by
 obtain ⟨L, W, hL, hW, K, hb0⟩ := (Mem.nil w).one [.slice A l.length c] 28
 obtain ⟨N, V, hN, hV, K1, hb1⟩ := K.out.one [.func (.func 113) #[] #[]] 135
 obtain ⟨R, U, hR, hU, K2, hb2⟩ := K1.out.one [.func (.func F) #[] #[.pointer (some ⟨P, 0, none⟩)]] 150
 clear hb0 hb1 hb2 K K1
 have c0 := K2.out.cell (b := L) (cs := [.slice A l.length c]) (t := 28) (by simp) (k := 0) rfl
 have c1 := K2.out.cell (b := N) (cs := [.func (.func 113) #[] #[]]) (t := 135) (by simp) (k := 0) rfl
 have c2 := K2.out.cell (b := R) (cs := [.func (.func F) #[] #[.pointer (some ⟨P, 0, none⟩)]]) (t := 150) (by simp) (k := 0) rfl
 have H := hid (Es.next h K2.out.2)
 have HW := hid (p_wrong3 182 (.pointer (some ⟨R, 0, none⟩)) (.pointer (some ⟨L, 0, none⟩)) (.pointer (some ⟨N, 0, none⟩)) l.length hs most (nmB (l.map fun y => y.x.n) (l.map rt)) U (fun a X => by go_simp)
  (fun i hi X hb => wn1_K A c l hm rt F P R L N X (Es.next H.out hb) HE (fun y hy Z hz => HP y hy Z (K2.out.2.trans ((hb.trans (hz.mono hb.size)).mono K2.out.2.size)))
   ((hb.cell (p := ⟨R, 0, none⟩) (World.block_lt_of_cell? _ _ c2)).trans c2) ((hb.cell (p := ⟨L, 0, none⟩) (World.block_lt_of_cell? _ _ c0)).trans c0) ((hb.cell (p := ⟨N, 0, none⟩) (World.block_lt_of_cell? _ _ c1)).trans c1) i hi))
 have Hr := hid (show fwV l.length most (nmB (l.map fun y => y.x.n) (l.map rt)) = fst17 (l.map fun y => y.x.n) (l.map rt) most by
  rw [← fw_fst, List.length_map])
 generalize fwV l.length most (nmB (l.map fun y => y.x.n) (l.map rt)) = v at *
 clear h HE HP c1 c2
 go_enter Tryz.func131, Tryz.ntmps131
 go_wp2_with fail
 refine (HW.out).mono ?_
 rintro e w1 ⟨rfl, b1⟩
 have K3 := hid (K2.out.next b1)
 clear b1 c0
 go_wp2_with fail
 go_ret
 exact Did.mk (by rw [Hr.out]; rfl) K3.out.2
set_option maxRecDepth 20000 in
set_option maxHeartbeats 8000000 in
theorem wn1_S (A : Option Addr) (c : Nat) (l : List StA) (hm : l.length ≤ c ∧ c ≤ maxLen) (rt : StA → Bool) (F P R L N : Nat) (w : World) (h : Es enS w w.heap.size A l)
 (HE : ∀ a b X, Sem.run Tryz.prog (callFunc F #[a, b]) X = .ok (.enter F #[a, b]) X) (HP : ∀ y ∈ l, ∀ X, Below w.heap.size w X → Calls Tryz.prog F #[stv y.x y.a y.c, .pointer (some ⟨P, 0, none⟩)] X (Did (.bool (rt y)) X))
 (hR : w.cell? ⟨R, 0, none⟩ = some (.func (.func F) #[] #[.pointer (some ⟨P, 0, none⟩)])) (hL : w.cell? ⟨L, 0, none⟩ = some (.slice A l.length c)) (hN : w.cell? ⟨N, 0, none⟩ = some (.func (.func 135) #[] #[]))
 (i : Nat) (hi : i < l.length) :
 Calls Tryz.prog 185 #[.int .i64 (i : Int), .pointer (some ⟨R, 0, none⟩), .pointer (some ⟨L, 0, none⟩), .pointer (some ⟨N, 0, none⟩)] w (Did (.bool (nmB (l.map fun y => y.x.n) (l.map rt) i)) w) := by
 obtain ⟨ad, y, rfl, had, hy, hyl, _⟩ := Es.get enS_len (by decide) h (k := i) hi
 have hmm := hm
 unfold maxLen at hm
 have H := hid h
 have HF := hid (HP y hyl)
 have HN := hid (fun X => n_S y X)
 have HI := hid (fun X (hb : Below w.heap.size w X) => fd_S (some ad) i c (l.take i) (by rw [List.length_take]; omega) (by rw [List.length_take]; omega) y.x.n X (Es.next (es_take h i) hb))
 have HRc := hid (fun X (hb : Below w.heap.size w X) => (hb.cell (p := ⟨R, 0, none⟩) (World.block_lt_of_cell? _ _ hR)).trans hR)
 have HLc := hid (fun X (hb : Below w.heap.size w X) => (hb.cell (p := ⟨L, 0, none⟩) (World.block_lt_of_cell? _ _ hL)).trans hL)
 have HNc := hid (fun X (hb : Below w.heap.size w X) => (hb.cell (p := ⟨N, 0, none⟩) (World.block_lt_of_cell? _ _ hN)).trans hN)
 have Hres := hid (show nmB (l.map fun y => y.x.n) (l.map rt) i = (rt y && (fnd ((l.take i).map fun y => y.x.n) y.x.n == -1)) by
  unfold nmB
  rw [List.getD_eq_getElem?_getD, List.getElem?_map, hy.out, List.getD_eq_getElem?_getD, List.getElem?_map, hy.out, List.map_take]
  rfl)
 have HEc := hid HE
 have Hrow := hid (fun X (hb : Below w.heap.size w X) => (show X.cell? (ad.add (i * 2)) = some (txt y.x.n) ∧ X.cell? ⟨(ad.add (i * 2)).block, (ad.add (i * 2)).off + 1, none⟩ = some (.slice y.a y.x.l.length y.c) from by
  have hq := h.below hb (Nat.le_refl _)
  exact ⟨es_at enS_len hq hy.out 0 _ rfl, es_fld enS_len hq hy.out 1 (by decide) _ rfl⟩))
 have i1 : (0 : Int) ≤ (i : Int) := by omega
 have i2 : (i : Int) < (l.length : Int) := by omega
 have i3 : (i : Int) ≤ (c : Int) := by omega
 generalize nmB (l.map fun y => y.x.n) (l.map rt) i = rr at *
 generalize rt y = q at *
 generalize fnd ((l.take i).map fun y => y.x.n) y.x.n = z at *
 obtain ⟨W, hW⟩ : ∃ W, w = W := ⟨_, rfl⟩
 have HB := hid (show Below w.heap.size w w.drew from (Below.refl _ _).drew)
 clear h HE HP hR hL hN hW had hy hyl H hmm
 cases q with
 | false =>
  rw [Bool.false_and] at Hres
  go_enter Tryz.func185, Tryz.ntmps185
  go_upto_region 1 with fail
  refine wp_region_held_drew (S := fun X => Below w.heap.size w X) (by kernel_rfl) HB.out (fun hHeld => ?_)
  refine tkH 0 6 (.func (.func F) #[] #[.pointer (some ⟨P, 0, none⟩)]) rfl rfl (fun X hX => by have c := HRc.out _ hX; clear hX; go_simp) hHeld ?_
  simp only [pt, List.set]
  refine tkH 1 7 (.slice (some ad) l.length c) rfl rfl (fun X hX => by have c := HLc.out _ hX; clear hX; go_simp) hHeld ?_
  simp only [pt, List.set]
  refine tkD 2 8 (.int .i64 i) rfl rfl hHeld ?_
  simp only [pt, List.set]
  refine tkD 3 9 (.pointer (some (ad.add (i * 2)))) rfl rfl hHeld ?_
  simp only [pt, List.set]
  refine tkH 4 10 (.agg #[txt y.x.n, .slice y.a y.x.l.length y.c]) rfl rfl (fun X hX => by obtain ⟨e_0, e_1⟩ := Hrow.out _ hX; clear hX; go_simp) hHeld ?_
  simp only [pt, List.set]
  have Kd := hid HB.out
  obtain ⟨U, hU⟩ : ∃ U, w.drew = U := ⟨_, rfl⟩
  rw [hU] at Kd hHeld ⊢
  clear hU
  have he := HEc.out (.agg #[txt y.x.n, .slice y.a y.x.l.length y.c]) (.pointer (some ⟨P, 0, none⟩)) U
  refine wpAnyH_ready (rs := [5]) (by kernel_rfl) (by simp) ?_
  refine AllReadyH.cons rfl (fun KK hK => ?_) AllReadyH.nil
  simp only [List.getElem_toArray, List.getElem_cons_succ, List.getElem_cons_zero]
  go_simp
  refine (HF.out _ Kd.out).mono ?_
  rintro e w1 ⟨rfl, b1⟩
  have K1 := hid (Kd.out.trans (b1.mono Kd.out.size))
  clear b1 he
  refine hK.out _ _ K1.out (fun hHeld => ?_)
  clear hK KK
  try simp only [pt, List.set]
  refine tkD 6 12 (.bool false) rfl rfl hHeld ?_
  simp only [pt, List.set]
  refine skD 7 13 rfl rfl hHeld ?_
  simp only [pt, List.set]
  refine skD 8 14 rfl rfl hHeld ?_
  simp only [pt, List.set]
  refine skD 9 15 rfl rfl hHeld ?_
  simp only [pt, List.set]
  refine skD 10 16 rfl rfl hHeld ?_
  simp only [pt, List.set]
  refine skD 11 17 rfl rfl hHeld ?_
  simp only [pt, List.set]
  refine skD 12 18 rfl rfl hHeld ?_
  simp only [pt, List.set]
  refine skD 13 19 rfl rfl hHeld ?_
  simp only [pt, List.set]
  refine skD 14 20 rfl rfl hHeld ?_
  simp only [pt, List.set]
  refine skD 15 21 rfl rfl hHeld ?_
  simp only [pt, List.set]
  refine skD 16 22 rfl rfl hHeld ?_
  simp only [pt, List.set]
  refine skD 17 23 rfl rfl hHeld ?_
  simp only [pt, List.set]
  refine skD 18 24 rfl rfl hHeld ?_
  simp only [pt, List.set]
  refine tkD 19 25 (.bool false) rfl rfl hHeld ?_
  simp only [pt, List.set]
  refine tkD 20 5 (.bool false) rfl rfl hHeld ?_
  simp only [pt, List.set]
  refine wpAnyH_done (by kernel_rfl) ?_ _
  clear hHeld
  go_wp2_with fail
  go_ret
  exact Did.mk (by rw [Hres.out]; rfl) K1.out
 | true =>
  rw [Bool.true_and] at Hres
  go_enter Tryz.func185, Tryz.ntmps185
  go_upto_region 1 with fail
  refine wp_region_held_drew (S := fun X => Below w.heap.size w X) (by kernel_rfl) HB.out (fun hHeld => ?_)
  refine tkH 0 6 (.func (.func F) #[] #[.pointer (some ⟨P, 0, none⟩)]) rfl rfl (fun X hX => by have c := HRc.out _ hX; clear hX; go_simp) hHeld ?_
  simp only [pt, List.set]
  refine tkH 1 7 (.slice (some ad) l.length c) rfl rfl (fun X hX => by have c := HLc.out _ hX; clear hX; go_simp) hHeld ?_
  simp only [pt, List.set]
  refine tkD 2 8 (.int .i64 i) rfl rfl hHeld ?_
  simp only [pt, List.set]
  refine tkD 3 9 (.pointer (some (ad.add (i * 2)))) rfl rfl hHeld ?_
  simp only [pt, List.set]
  refine tkH 4 10 (.agg #[txt y.x.n, .slice y.a y.x.l.length y.c]) rfl rfl (fun X hX => by obtain ⟨e_0, e_1⟩ := Hrow.out _ hX; clear hX; go_simp) hHeld ?_
  simp only [pt, List.set]
  have Kd := hid HB.out
  obtain ⟨U, hU⟩ : ∃ U, w.drew = U := ⟨_, rfl⟩
  rw [hU] at Kd hHeld ⊢
  clear hU
  have he := HEc.out (.agg #[txt y.x.n, .slice y.a y.x.l.length y.c]) (.pointer (some ⟨P, 0, none⟩)) U
  refine wpAnyH_ready (rs := [5]) (by kernel_rfl) (by simp) ?_
  refine AllReadyH.cons rfl (fun KK hK => ?_) AllReadyH.nil
  simp only [List.getElem_toArray, List.getElem_cons_succ, List.getElem_cons_zero]
  go_simp
  refine (HF.out _ Kd.out).mono ?_
  rintro e w1 ⟨rfl, b1⟩
  have K1 := hid (Kd.out.trans (b1.mono Kd.out.size))
  clear b1 he
  refine hK.out _ _ K1.out (fun hHeld => ?_)
  clear hK KK
  try simp only [pt, List.set]
  refine tkD 6 12 (.bool true) rfl rfl hHeld ?_
  simp only [pt, List.set]
  refine tkH 7 13 (.slice (some ad) l.length c) rfl rfl (fun X hX => by have c := HLc.out _ hX; clear hX; go_simp) hHeld ?_
  simp only [pt, List.set]
  refine tkD 8 14 (.int .i64 i) rfl rfl hHeld ?_
  simp only [pt, List.set]
  refine tkD 9 15 (.slice (some ad) i c) rfl rfl hHeld ?_
  simp only [pt, List.set]
  refine tkH 10 16 (.func (.func 135) #[] #[]) rfl rfl (fun X hX => by have c := HNc.out _ hX; clear hX; go_simp) hHeld ?_
  simp only [pt, List.set]
  refine tkH 11 17 (.func (.func 135) #[] #[]) rfl rfl (fun X hX => by have c := HNc.out _ hX; clear hX; go_simp) hHeld ?_
  simp only [pt, List.set]
  refine tkH 12 18 (.slice (some ad) l.length c) rfl rfl (fun X hX => by have c := HLc.out _ hX; clear hX; go_simp) hHeld ?_
  simp only [pt, List.set]
  refine tkD 13 19 (.int .i64 i) rfl rfl hHeld ?_
  simp only [pt, List.set]
  refine tkD 14 20 (.pointer (some (ad.add (i * 2)))) rfl rfl hHeld ?_
  simp only [pt, List.set]
  refine tkH 15 21 (.agg #[txt y.x.n, .slice y.a y.x.l.length y.c]) rfl rfl (fun X hX => by obtain ⟨e_0, e_1⟩ := Hrow.out _ hX; clear hX; go_simp) hHeld ?_
  simp only [pt, List.set]
  refine wpAnyH_ready (rs := [16]) (by kernel_rfl) (by simp) ?_
  refine AllReadyH.cons rfl (fun KK hK => ?_) AllReadyH.nil
  simp only [List.getElem_toArray, List.getElem_cons_succ, List.getElem_cons_zero]
  go_simp
  refine (HN.out _).mono ?_
  rintro e w2 ⟨rfl, b2⟩
  have K2 := hid (K1.out.trans (b2.mono K1.out.size))
  clear b2
  refine hK.out _ _ K2.out (fun hHeld => ?_)
  clear hK KK
  try simp only [pt, List.set]
  refine wpAnyH_ready (rs := [17]) (by kernel_rfl) (by simp) ?_
  refine AllReadyH.cons rfl (fun KK hK => ?_) AllReadyH.nil
  simp only [List.getElem_toArray, List.getElem_cons_succ, List.getElem_cons_zero]
  go_simp
  refine (HI.out _ K2.out).mono ?_
  rintro e w3 ⟨rfl, b3⟩
  have K3 := hid (K2.out.trans (b3.mono K2.out.size))
  clear b3
  refine hK.out _ _ K3.out (fun hHeld => ?_)
  clear hK KK
  try simp only [pt, List.set]
  refine wpAnyH_ready (rs := [18]) (by kernel_rfl) (by simp) ?_
  refine AllReadyH.cons rfl (fun KK hK => ?_) AllReadyH.nil
  simp only [List.getElem_toArray, List.getElem_cons_succ, List.getElem_cons_zero]
  go_simp
  refine hK.out _ _ K3.out (fun hHeld => ?_)
  clear hK KK
  try simp only [pt, List.set]
  refine wpAnyH_ready (rs := [19]) (by kernel_rfl) (by simp) ?_
  refine AllReadyH.cons rfl (fun KK hK => ?_) AllReadyH.nil
  simp only [List.getElem_toArray, List.getElem_cons_succ, List.getElem_cons_zero]
  go_simp
  refine hK.out _ _ K3.out (fun hHeld => ?_)
  clear hK KK
  try simp only [pt, List.set]
  refine wpAnyH_ready (rs := [20]) (by kernel_rfl) (by simp) ?_
  refine AllReadyH.cons rfl (fun KK hK => ?_) AllReadyH.nil
  simp only [List.getElem_toArray, List.getElem_cons_succ, List.getElem_cons_zero]
  go_simp
  refine hK.out _ _ K3.out (fun hHeld => ?_)
  clear hK KK
  try simp only [pt, List.set]
  refine wpAnyH_done (by kernel_rfl) ?_ _
  clear hHeld
  go_wp2_with fail
  go_ret
  exact Did.mk (by first | rfl | (rw [Hres.out]; rfl)) K3.out
set_option maxRecDepth 20000 in
set_option maxHeartbeats 4000000 in
theorem wn_S (A : Option Addr) (c : Nat) (l : List StA) (hm : l.length ≤ c ∧ c ≤ maxLen) (hs : l.length ≤ 1000000) (most : Int) (rt : StA → Bool) (F P : Nat) (w : World) (h : Es enS w w.heap.size A l)
 (HE : ∀ a b X, Sem.run Tryz.prog (callFunc F #[a, b]) X = .ok (.enter F #[a, b]) X) (HP : ∀ y ∈ l, ∀ X, Below w.heap.size w X → Calls Tryz.prog F #[stv y.x y.a y.c, .pointer (some ⟨P, 0, none⟩)] X (Did (.bool (rt y)) X)) :
 Calls Tryz.prog 134 #[.slice A l.length c, .int .i64 most, .func (.func 135) #[] #[], .func (.func F) #[] #[.pointer (some ⟨P, 0, none⟩)]] w (Did (.int .i64 (fst17 (l.map fun y => y.x.n) (l.map rt) most)) w) := by
 obtain ⟨L, W, hL, hW, K, hb0⟩ := (Mem.nil w).one [.slice A l.length c] 29
 obtain ⟨N, V, hN, hV, K1, hb1⟩ := K.out.one [.func (.func 135) #[] #[]] 152
 obtain ⟨R, U, hR, hU, K2, hb2⟩ := K1.out.one [.func (.func F) #[] #[.pointer (some ⟨P, 0, none⟩)]] 154
 clear hb0 hb1 hb2 K K1
 have c0 := K2.out.cell (b := L) (cs := [.slice A l.length c]) (t := 29) (by simp) (k := 0) rfl
 have c1 := K2.out.cell (b := N) (cs := [.func (.func 135) #[] #[]]) (t := 152) (by simp) (k := 0) rfl
 have c2 := K2.out.cell (b := R) (cs := [.func (.func F) #[] #[.pointer (some ⟨P, 0, none⟩)]]) (t := 154) (by simp) (k := 0) rfl
 have H := hid (Es.next h K2.out.2)
 have HW := hid (p_wrong3 185 (.pointer (some ⟨R, 0, none⟩)) (.pointer (some ⟨L, 0, none⟩)) (.pointer (some ⟨N, 0, none⟩)) l.length hs most (nmB (l.map fun y => y.x.n) (l.map rt)) U (fun a X => by go_simp)
  (fun i hi X hb => wn1_S A c l hm rt F P R L N X (Es.next H.out hb) HE (fun y hy Z hz => HP y hy Z (K2.out.2.trans ((hb.trans (hz.mono hb.size)).mono K2.out.2.size)))
   ((hb.cell (p := ⟨R, 0, none⟩) (World.block_lt_of_cell? _ _ c2)).trans c2) ((hb.cell (p := ⟨L, 0, none⟩) (World.block_lt_of_cell? _ _ c0)).trans c0) ((hb.cell (p := ⟨N, 0, none⟩) (World.block_lt_of_cell? _ _ c1)).trans c1) i hi))
 have Hr := hid (show fwV l.length most (nmB (l.map fun y => y.x.n) (l.map rt)) = fst17 (l.map fun y => y.x.n) (l.map rt) most by
  rw [← fw_fst, List.length_map])
 generalize fwV l.length most (nmB (l.map fun y => y.x.n) (l.map rt)) = v at *
 clear h HE HP c1 c2
 go_enter Tryz.func134, Tryz.ntmps134
 go_wp2_with fail
 refine (HW.out).mono ?_
 rintro e w1 ⟨rfl, b1⟩
 have K3 := hid (K2.out.next b1)
 clear b1 c0
 go_wp2_with fail
 go_ret
 exact Did.mk (by rw [Hr.out]; rfl) K3.out.2
end Go.Proofs.YtgmgccepmalahaaGreat
