/- The document's own answers for layer 17 (problem): the first of each kind that is wrong. -/
import Derived.Test.YtgmgccepmalahaaGreatPqG
import Derived.Test.YtgmgccepmalahaaGreatPqB
namespace Go.Proofs.YtgmgccepmalahaaGreat
open Go.RowKit
open Whn (Gr Wh)

/-- a field of an element of a row that is read -/
theorem es_fld {α : Type} {en : α → List Value} {K : Nat} (hK : ∀ x, (en x).length = K) {w : World} {B : Nat} {ad : Addr} {l : List α} (h : Es en w B (some ad) l) {k : Nat} {x : α} (hx : l[k]? = some x) (j : Nat) (hj : 0 < j) (v : Value) (hv : (en x)[j]? = some v) :
    w.cell? ⟨(ad.add (k * K)).block, (ad.add (k * K)).off + j, none⟩ = some v := by
  have h1 := es_at hK h hx j v hv
  have e : ad.add (k * K + j) = ⟨(ad.add (k * K)).block, (ad.add (k * K)).off + j, none⟩ := by
    unfold Addr.add
    rw [if_neg (by omega)]
    by_cases h2 : k * K = 0
    · rw [if_pos h2, h2, Nat.zero_add]
    · rw [if_neg h2]
      show (⟨ad.block, ad.off + (k * K + j), none⟩ : Addr) = ⟨ad.block, ad.off + k * K + j, none⟩
      rw [Nat.add_assoc]
  rw [← e]; exact h1
theorem Clw.next2 {w w' : World} {x : Cl} {r : Cw} (h : Clw w w.heap.size x r) (hb : Below w.heap.size w w') : Clw w' w'.heap.size x r := h.next hb
theorem StIn.upto {w w' : World} {x : StA} (h : StIn w x) (hb : Below w.heap.size w w') : StIn w' x := h.next hb
/-- rows of the call's own whose elements are of two types lie apart -/
theorem own_typed {w : World} {b1 b2 e1 e2 s1 s2 n1 n2 : Nat} {v1 v2 : Value} {xs ys : List Value} (h1 : w.ownsRow b1 e1 s1 v1 n1 xs) (h2 : w.ownsRow b2 e2 s2 v2 n2 ys) (he : e1 ≠ e2) : v2.ownBlock = none ∨ v2.ownBlock ≠ v1.ownBlock := by
  rcases h2.2 with ⟨rfl, _⟩ | ⟨g2, c2, cur2, rfl, _, hg2, _⟩
  · exact .inl rfl
  · rcases h1.2 with ⟨rfl, _⟩ | ⟨g1, c1, cur1, rfl, _, hg1, _⟩
    · exact .inr (by intro h; cases h)
    · refine .inr (fun h => he ?_)
      have hg : g2 = g1 := Option.some.inj h
      subst hg
      rw [hg1] at hg2
      injection hg2 with hg2
      injection hg2
theorem Tryz.info_str : (Tryz.prog.info? 9).map (fun i => (i.zero, i.size, i.bytes)) = some (some (.string ⟨#[]⟩), 1, 16) := by kernel_rfl
theorem Tryz.info_bl : (Tryz.prog.info? 4).map (fun i => (i.zero, i.size, i.bytes)) = some (some (.bool false), 1, 1) := by kernel_rfl
theorem ob_one {X : World} {b : Nat} {v : Value} {t : TypeId} (h : Ob X b [v] t) : ∀ (j : Nat) (u : Value), [v][j]? = some u → X.cell? ((⟨b, 0, none⟩ : Addr).add j) = some u := fun j u hu => by
  have h := h.cell (k := j) (v := u) hu
  have e : (⟨b, 0, none⟩ : Addr).add j = ⟨b, j, none⟩ := by unfold Addr.add; split <;> simp_all
  rw [e]; exact h
theorem take_map {α β : Type} (f : α → β) {l : List α} {i : Nat} {y : α} (h : l[i]? = some y) : ((l.map f).take (i + 1)) = (l.map f).take i ++ [f y] := by
  rw [List.take_add_one, List.getElem?_map, h]; rfl
/-- a row of the call's own, of one-cell values, is one that is read -/
theorem own_rdV {w : World} {base e n : Nat} {v : Value} {vs : List Value} (hn : vs.length = n) (h : w.ownsRow base e 1 v n vs) : ∃ A c, v = .slice A n c ∧ Rd w w.heap.size A vs ∧ n ≤ c := by
  rcases h.2 with ⟨rfl, h0⟩ | ⟨g, cap, cur, rfl, hb', hg, hn', _⟩
  · subst h0
    exact ⟨none, 0, rfl, by rw [List.eq_nil_of_length_eq_zero hn]; exact Rd.none_ _ _ _, Nat.le_refl _⟩
  · exact ⟨some ⟨g, 0, none⟩, cap, rfl, fun _ => ⟨_, rfl, (Array.getElem?_eq_some_iff.1 hg).1, fun k u hk => h.cells rfl k u hk⟩, hn'⟩
set_option maxRecDepth 20000 in
set_option maxHeartbeats 8000000 in
theorem r17_rooms (x : PbA) (w : World) (h : PbIn w x) (hf : x.rm.length ≤ 1000) : Calls Tryz.prog 50 #[pbv x] w (Did (.int .i64 (fst17 (x.rm.map fun y => y.r.n) (x.rm.map fun y => rmRight x.g y.r) 24)) w) := by
  have HC := hid (fun (y : RmA) (hy : y ∈ x.rm) X (hb : Below w.heap.size w X) => show Calls Tryz.prog 140 #[gv x.g, rv y.r y.a y.c] X (Did (.bool (rmRight x.g y.r)) X) from by
    have hi := h.rmI y hy
    exact r_RightRoom x.g y.r y.a y.c hi.1 (by have := hi.2.2; omega) X ((hi.2.1.below hb (Nat.le_refl _)).more hb.size))
  have Hfin := hid (fun A A2 c c2 X h h2 => r17_first (x.rm.map fun y => y.r.n) (x.rm.map fun y => rmRight x.g y.r) 24 (by rw [List.length_map, List.length_map]) (by rw [List.length_map]; omega) A A2 c c2 X h h2)
  have Hnm := hid (fun i y (h : x.rm[i]? = some y) => take_map (fun y => y.r.n) h)
  have Hrt := hid (fun i y (h : x.rm[i]? = some y) => take_map (fun y => rmRight x.g y.r) h)
  have hln : (x.rm.map fun y => y.r.n).length = x.rm.length := List.length_map ..
  have hlr : (x.rm.map fun y => rmRight x.g y.r).length = x.rm.length := List.length_map ..
  have H := hid h.rm
  have HI := hid h
  generalize fst17 (x.rm.map fun y => y.r.n) (x.rm.map fun y => rmRight x.g y.r) 24 = rr at *
  generalize (x.rm.map fun y => y.r.n) = nm at *
  generalize (x.rm.map fun y => rmRight x.g y.r) = rt at *
  obtain ⟨N, hN⟩ : ∃ N, x.rm.length = N := ⟨_, rfl⟩
  rw [hN] at hln hlr hf
  obtain ⟨G, W, hG, hW, K, hb0⟩ := (Mem.nil w).one (pbc x) 34
  have HGw := hid (show w.heap.size ≤ G by omega)
  have HBw := hid (show ∀ X : World, Mem w X [(G, pbc x, 34)] → G + 1 ≤ X.heap.size from fun X h => (h.at_ (b := G) (cs := pbc x) (t := 34) (by simp)).lt)
  have Hcell := hid (fun X (h : Mem w X [(G, pbc x, 34)]) => h.pb (B := G) (x := x) (t := 34) (by simp))
  have HN := hid hN
  unfold pbc at hW
  rw [hN] at hW
  obtain ⟨i0, hi0, hz0, hz1, hz2⟩ := info_parts Tryz.info_str
  obtain ⟨j0, hj0, hy0, hy1, hy2⟩ := info_parts Tryz.info_bl
  clear h hb0
  go_enter Tryz.func50, Tryz.ntmps50
  go_wp2_with fail
  go_loopw [3, 4, 5] (fun nv rv iv wr => ∃ i : Nat, iv = .int .i64 i ∧ i ≤ N ∧ Hid (wr.ownsRow (G + 1) 9 1 nv i ((nm.take i).map txt)) ∧ Hid (wr.ownsRow (G + 1) 4 1 rv i ((rt.take i).map Value.bool)) ∧ Hid (Mem w wr [(G, pbc x, 34)])) (fun _ _ iv _ => N - (intOf iv).toNat)
  case atStart => exact ⟨0, rfl, Nat.zero_le _, hid (by rw [List.take_zero]; exact World.ownsRow_nil W (G + 1) 9 1), hid (by rw [List.take_zero]; exact World.ownsRow_nil W (G + 1) 4 1), K⟩
  case round =>
    clear K hW
    obtain ⟨i, rfl, hi, HO1, HO2, KM⟩ := hrel
    obtain ⟨p0, p1, p2, p3, p4, p5, p6, p7, p8, p9, p10, p11, p12, p13, p14⟩ := Hcell.out _ KM.out
    rw [hN] at p4
    by_cases hlt : i < N
    · obtain ⟨ad, y, e0, had, hy, hyl, _⟩ := Es.get enR_len (by decide) H.out (k := i) (by rw [hN]; exact hlt)
      have Hrow := hid (fun X (hb : Below w.heap.size w X) => (show X.cell? (ad.add (i * 4)) = some (txt y.r.n) ∧ X.cell? ⟨(ad.add (i * 4)).block, (ad.add (i * 4)).off + 1, none⟩ = some (.int .i64 y.r.s) ∧ X.cell? ⟨(ad.add (i * 4)).block, (ad.add (i * 4)).off + 2, none⟩ = some (.int .u16 (y.r.g : Int)) ∧ X.cell? ⟨(ad.add (i * 4)).block, (ad.add (i * 4)).off + 3, none⟩ = some (.slice y.a y.r.l.length y.c) from by
        have hq := H.out.below hb (Nat.le_refl _)
        rw [e0] at hq
        exact ⟨es_at enR_len hq hy.out 0 _ rfl, es_fld enR_len hq hy.out 1 (by decide) _ rfl, es_fld enR_len hq hy.out 2 (by decide) _ rfl, es_fld enR_len hq hy.out 3 (by decide) _ rfl⟩))
      rw [e0] at p4
      have i1 : (0 : Int) ≤ (i : Int) := by omega
      have i2 : (i : Int) < (N : Int) := by omega
      have HCy := hid (HC.out y hyl)
      have Hn1 := hid (Hnm.out i y hy.out)
      have Hr1 := hid (Hrt.out i y hy.out)
      obtain ⟨z, hz⟩ : ∃ z, y.r.n = z := ⟨_, rfl⟩
      obtain ⟨q, hq⟩ : ∃ q, rmRight x.g y.r = q := ⟨_, rfl⟩
      rw [hz] at Hn1
      rw [hq] at Hr1 HCy
      have Hzz := hid hz
      have h63 : i + 1 ≤ maxLen := by unfold maxLen; omega
      have hby1 : (i + 1) * 16 ≤ 140737488355328 := by omega
      have hby2 : (i + 1) * 1 ≤ 140737488355328 := by omega
      clear hz hq p0 p1 p2 p3 p4 p5 p6 p7 p8 p9 p10 p11 p12 p13 p14
      obtain ⟨p0, p1, p2, p3, p4, p5, p6, p7, p8, p9, p10, p11, p12, p13, p14⟩ := Hcell.out _ KM.out
      rw [hN] at p4
      go_upto_region 6 with fail
      refine wp_region_held_drew (S := fun X => Mem w X [(G, pbc x, 34)]) (by kernel_rfl) KM.out.drew (fun hHeld => ?_)
      refine takeH 0 13 u3 rfl rfl (by kernel_rfl) (by kernel_rfl) (by kernel_rfl) (fun _ _ _ h => h) (by kernel_rfl) (fun X hX => by clear hX; first | rfl | go_simp) hHeld ?_
      simp only [Act.put, List.setIfInBounds_toArray, List.set_cons_zero, List.set_cons_succ]
      refine takeH 1 14 (.pointer (some ⟨G, 4, none⟩)) rfl rfl (by kernel_rfl) (by kernel_rfl) (by kernel_rfl) (fun _ _ _ h => h) (by kernel_rfl) (fun X hX => by clear hX; first | rfl | go_simp) hHeld ?_
      simp only [Act.put, List.setIfInBounds_toArray, List.set_cons_zero, List.set_cons_succ]
      refine takeH 2 15 (.slice (some ad) N x.c0) rfl rfl (by kernel_rfl) (by kernel_rfl) (by kernel_rfl) (fun _ _ _ h => h) (by kernel_rfl) (fun X hX => by obtain ⟨p0, p1, p2, p3, p4, p5, p6, p7, p8, p9, p10, p11, p12, p13, p14⟩ := Hcell.out _ hX; rw [hN, e0] at p4; clear hX; go_simp) hHeld ?_
      simp only [Act.put, List.setIfInBounds_toArray, List.set_cons_zero, List.set_cons_succ]
      refine takeH 3 16 (.int .i64 i) rfl rfl (by kernel_rfl) (by kernel_rfl) (by kernel_rfl) (fun _ _ _ h => h) (by kernel_rfl) (fun X hX => by clear hX; first | rfl | go_simp) hHeld ?_
      simp only [Act.put, List.setIfInBounds_toArray, List.set_cons_zero, List.set_cons_succ]
      refine takeH 4 17 (.pointer (some (ad.add (i * 4)))) rfl rfl (by kernel_rfl) (by kernel_rfl) (by kernel_rfl) (fun _ _ _ h => h) (by kernel_rfl) (fun X hX => by clear hX; first | rfl | go_simp) hHeld ?_
      simp only [Act.put, List.setIfInBounds_toArray, List.set_cons_zero, List.set_cons_succ]
      refine takeH 5 18 (.pointer (some (ad.add (i * 4)))) rfl rfl (by kernel_rfl) (by kernel_rfl) (by kernel_rfl) (fun _ _ _ h => h) (by kernel_rfl) (fun X hX => by clear hX; first | rfl | go_simp) hHeld ?_
      simp only [Act.put, List.setIfInBounds_toArray, List.set_cons_zero, List.set_cons_succ]
      refine takeH 6 19 (txt z) rfl rfl (by kernel_rfl) (by kernel_rfl) (by kernel_rfl) (fun _ _ _ h => h) (by kernel_rfl) (fun X hX => by obtain ⟨e_0, e_1, e_2, e_3⟩ := Hrow.out _ hX.2; clear hX; rw [Hzz.out] at e_0; go_simp) hHeld ?_
      simp only [Act.put, List.setIfInBounds_toArray, List.set_cons_zero, List.set_cons_succ]
      refine takeH 9 22 u4 rfl rfl (by kernel_rfl) (by kernel_rfl) (by kernel_rfl) (fun _ _ _ h => h) (by kernel_rfl) (fun X hX => by clear hX; first | rfl | go_simp) hHeld ?_
      simp only [Act.put, List.setIfInBounds_toArray, List.set_cons_zero, List.set_cons_succ]
      refine takeH 10 23 (.pointer (some ⟨G, 1, none⟩)) rfl rfl (by kernel_rfl) (by kernel_rfl) (by kernel_rfl) (fun _ _ _ h => h) (by kernel_rfl) (fun X hX => by clear hX; first | rfl | go_simp) hHeld ?_
      simp only [Act.put, List.setIfInBounds_toArray, List.set_cons_zero, List.set_cons_succ]
      refine takeH 11 24 (.agg #[.int .i64 x.g.w, .int .i64 x.g.d, .int .i64 x.g.s]) rfl rfl (by kernel_rfl) (by kernel_rfl) (by kernel_rfl) (fun _ _ _ h => h) (by kernel_rfl) (fun X hX => by obtain ⟨p0, p1, p2, p3, p4, p5, p6, p7, p8, p9, p10, p11, p12, p13, p14⟩ := Hcell.out _ hX; clear hX; go_simp) hHeld ?_
      simp only [Act.put, List.setIfInBounds_toArray, List.set_cons_zero, List.set_cons_succ]
      refine takeH 12 25 (.pointer (some ⟨G, 4, none⟩)) rfl rfl (by kernel_rfl) (by kernel_rfl) (by kernel_rfl) (fun _ _ _ h => h) (by kernel_rfl) (fun X hX => by clear hX; first | rfl | go_simp) hHeld ?_
      simp only [Act.put, List.setIfInBounds_toArray, List.set_cons_zero, List.set_cons_succ]
      refine takeH 13 26 (.slice (some ad) N x.c0) rfl rfl (by kernel_rfl) (by kernel_rfl) (by kernel_rfl) (fun _ _ _ h => h) (by kernel_rfl) (fun X hX => by obtain ⟨p0, p1, p2, p3, p4, p5, p6, p7, p8, p9, p10, p11, p12, p13, p14⟩ := Hcell.out _ hX; rw [hN, e0] at p4; clear hX; go_simp) hHeld ?_
      simp only [Act.put, List.setIfInBounds_toArray, List.set_cons_zero, List.set_cons_succ]
      refine takeH 14 27 (.int .i64 i) rfl rfl (by kernel_rfl) (by kernel_rfl) (by kernel_rfl) (fun _ _ _ h => h) (by kernel_rfl) (fun X hX => by clear hX; first | rfl | go_simp) hHeld ?_
      simp only [Act.put, List.setIfInBounds_toArray, List.set_cons_zero, List.set_cons_succ]
      refine takeH 15 28 (.pointer (some (ad.add (i * 4)))) rfl rfl (by kernel_rfl) (by kernel_rfl) (by kernel_rfl) (fun _ _ _ h => h) (by kernel_rfl) (fun X hX => by clear hX; first | rfl | go_simp) hHeld ?_
      simp only [Act.put, List.setIfInBounds_toArray, List.set_cons_zero, List.set_cons_succ]
      refine takeH 16 29 (.agg #[txt y.r.n, .int .i64 y.r.s, .int .u16 (y.r.g : Int), .slice y.a y.r.l.length y.c]) rfl rfl (by kernel_rfl) (by kernel_rfl) (by kernel_rfl) (fun _ _ _ h => h) (by kernel_rfl) (fun X hX => by obtain ⟨e_0, e_1, e_2, e_3⟩ := Hrow.out _ hX.2; clear hX; go_simp) hHeld ?_
      simp only [Act.put, List.setIfInBounds_toArray, List.set_cons_zero, List.set_cons_succ]
      obtain ⟨D, U0, hD, hU0, K1, hb1⟩ := KM.out.one [txt z] 9
      have KD := hid K1.out.drew
      have O1 := hid ((own_below HO1.out hb1).drew)
      have O2 := hid ((own_below HO2.out hb1).drew)
      have hsz := HBw.out _ KM.out
      refine wpAnyH_ready (rs := [7]) (by kernel_rfl) (by simp) ?_
      refine AllReadyH.cons rfl (fun KK hK => ?_) AllReadyH.nil
      simp only [List.getElem_toArray, List.getElem_cons_succ, List.getElem_cons_zero]
      go_simp
      have KS := hid (KD.out.sub (l' := [(G, pbc x, 34)]) (by simp))
      refine hK.out _ _ KS.out (fun hHeld => ?_)
      clear hK KK
      try simp only [Act.put, List.setIfInBounds_toArray, List.set_cons_zero, List.set_cons_succ]
      have hOD := KD.out.at_ (b := D) (cs := [txt z]) (t := 9) (by simp)
      obtain ⟨U, hU⟩ : ∃ U, U0.drew = U := ⟨_, rfl⟩
      rw [hU] at hHeld KS O1 O2 hOD ⊢
      have hB1 := HBw.out _ KS.out
      clear hU hU0 KD K1 hb1 HO1 HO2
      refine wpAnyH_ready (rs := [8]) (by kernel_rfl) (by simp) ?_
      refine AllReadyH.cons rfl (fun KK hK => ?_) AllReadyH.nil
      refine step_append_own rfl (.tmp 13) (.tmp 20) 158 rfl (G + 1) 9 i0 (.string ⟨#[]⟩) 1 16 Tryz.underlying158 hi0 hz0 hz1 hz2 rfl (by decide) u3 _ _ (by rfl) O1.out ⟨D, 0, none⟩ 1 1 [txt z] (by rfl) rfl (ob_one hOD) (by simp [txt, Value.oneCell']) h63 hby1 hB1 ?_
      intro v3 W3 hown3 hgr3
      have bb3 := (Below.refl (G + 1) U).grown hgr3 hB1 (fun k hk => (O1.out.lt k hk).1)
      have O2b := hid (O2.out.kept hgr3 (own_typed O1.out O2.out (by decide)))
      have O1b : Hid (W3.ownsRow (G + 1) 9 1 v3 (i + 1) ((nm.take (i + 1)).map txt)) := hid (by rw [Hn1.out, List.map_append]; exact hown3)
      have K3 : Hid (Mem w W3 [(G, pbc x, 34)]) := hid ⟨fun p hp => (KS.out.1 p hp).below bb3 (by simp only [List.mem_cons, List.not_mem_nil, or_false] at hp; rcases hp with rfl; show G < G + 1; omega), KS.out.2.trans (bb3.mono (by have := HGw.out; omega))⟩
      clear hown3 hgr3 bb3 O1 O2 KS hOD
      refine hK.out _ _ K3.out (fun hHeld => ?_)
      clear hK KK
      try simp only [Act.put, List.setIfInBounds_toArray]
      refine wpAnyH_ready (rs := [17]) (by kernel_rfl) (by simp) ?_
      refine AllReadyH.cons rfl (fun KK hK => ?_) AllReadyH.nil
      simp only [List.getElem_toArray, List.getElem_cons_succ, List.getElem_cons_zero]
      go_simp
      refine (HCy.out _ K3.out.2).mono ?_
      rintro e Y ⟨rfl, bz⟩
      have K4 := hid (K3.out.next bz)
      have O1c := hid (own_below O1b.out bz)
      have O2c := hid (own_below O2b.out bz)
      clear bz O1b O2b K3
      refine hK.out _ _ K4.out (fun hHeld => ?_)
      clear hK KK
      try simp only [Act.put, List.setIfInBounds_toArray, List.set_cons_zero, List.set_cons_succ]
      obtain ⟨E, V0, hE, hV0, K5, hb5⟩ := K4.out.one [.bool q] 4
      have O1d := hid (own_below O1c.out hb5)
      have O2d := hid (own_below O2c.out hb5)
      refine wpAnyH_ready (rs := [18]) (by kernel_rfl) (by simp) ?_
      refine AllReadyH.cons rfl (fun KK hK => ?_) AllReadyH.nil
      simp only [List.getElem_toArray, List.getElem_cons_succ, List.getElem_cons_zero]
      go_simp
      have KS5 := hid (K5.out.sub (l' := [(G, pbc x, 34)]) (by simp))
      refine hK.out _ _ KS5.out (fun hHeld => ?_)
      clear hK KK
      try simp only [Act.put, List.setIfInBounds_toArray, List.set_cons_zero, List.set_cons_succ]
      have hOE := K5.out.at_ (b := E) (cs := [.bool q]) (t := 4) (by simp)
      have hB5 := HBw.out _ KS5.out
      clear hV0 K5 hb5 O1c O2c K4
      refine wpAnyH_ready (rs := [19]) (by kernel_rfl) (by simp) ?_
      refine AllReadyH.cons rfl (fun KK hK => ?_) AllReadyH.nil
      refine step_append_own rfl (.tmp 22) (.tmp 31) 159 rfl (G + 1) 4 j0 (.bool false) 1 1 Tryz.underlying159 hj0 hy0 hy1 hy2 rfl (by decide) u4 _ _ (by rfl) O2d.out ⟨E, 0, none⟩ 1 1 [.bool q] (by rfl) rfl (ob_one hOE) (by simp [Value.oneCell']) h63 hby2 hB5 ?_
      intro v4 W4 hown4 hgr4
      have bb4 := (Below.refl (G + 1) V0).grown hgr4 hB5 (fun k hk => (O2d.out.lt k hk).1)
      have O1e := hid (O1d.out.kept hgr4 (own_typed O2d.out O1d.out (by decide)))
      have O2e : Hid (W4.ownsRow (G + 1) 4 1 v4 (i + 1) ((rt.take (i + 1)).map Value.bool)) := hid (by rw [Hr1.out, List.map_append]; exact hown4)
      have K6 : Hid (Mem w W4 [(G, pbc x, 34)]) := hid ⟨fun p hp => (KS5.out.1 p hp).below bb4 (by simp only [List.mem_cons, List.not_mem_nil, or_false] at hp; rcases hp with rfl; show G < G + 1; omega), KS5.out.2.trans (bb4.mono (by have := HGw.out; omega))⟩
      clear hown4 hgr4 bb4 O1d O2d KS5 hOE
      refine hK.out _ _ K6.out (fun hHeld => ?_)
      clear hK KK
      try simp only [Act.put, List.setIfInBounds_toArray]
      refine wpAnyH_ready (rs := [20]) (by kernel_rfl) (by simp) ?_
      refine AllReadyH.cons rfl (fun KK hK => ?_) AllReadyH.nil
      simp only [List.getElem_toArray, List.getElem_cons_succ, List.getElem_cons_zero]
      go_simp
      refine hK.out _ _ K6.out (fun hHeld => ?_)
      clear hK KK
      try simp only [Act.put, List.setIfInBounds_toArray, List.set_cons_zero, List.set_cons_succ]
      refine wpAnyH_ready (rs := [21]) (by kernel_rfl) (by simp) ?_
      refine AllReadyH.cons rfl (fun KK hK => ?_) AllReadyH.nil
      simp only [List.getElem_toArray, List.getElem_cons_succ, List.getElem_cons_zero]
      go_simp
      refine hK.out _ _ K6.out (fun hHeld => ?_)
      clear hK KK
      try simp only [Act.put, List.setIfInBounds_toArray, List.set_cons_zero, List.set_cons_succ]
      refine wpAnyH_done (by kernel_rfl) ?_ _
      clear hHeld
      go_wp2_with fail
      exact ⟨⟨i + 1, by go_num, by omega, O1e, O2e, K6⟩, by simp [intOf]; omega⟩
    · obtain rfl : i = N := by omega
      have i2 : ¬ (i : Int) < (i : Int) := by omega
      rw [List.take_of_length_le (by omega)] at HO1 HO2
      obtain ⟨An, cn, rfl, hrn, _⟩ := own_rdV (by rw [List.length_map, hln]) HO1.out
      obtain ⟨Ar, cr, rfl, hrr, _⟩ := own_rdV (by rw [List.length_map, hlr]) HO2.out
      have Hf1 := hid (fun h h2 => Hfin.out An Ar cn cr wr h h2)
      rw [hln, hlr] at Hf1
      have Hrn := hid hrn
      have Hrr := hid hrr
      clear hrn hrr HO1 HO2
      go_wp2_with fail
      refine (Hf1.out Hrn.out Hrr.out).mono ?_
      rintro e Y ⟨rfl, bz⟩
      have K6 := hid (KM.out.next bz)
      go_wp2_with fail
      go_ret
      exact Did.mk rfl K6.out.2
set_option maxRecDepth 20000 in
set_option maxHeartbeats 8000000 in
theorem r17_persons (x : PbA) (w : World) (h : PbIn w x) (hf : x.ps.length ≤ 1000) : Calls Tryz.prog 52 #[pbv x] w (Did (.int .i64 (fst17 (x.ps.map fun y => y.r.n) (x.ps.map fun y => rmRight x.g (rmOf y.r)) 24)) w) := by
  have HC := hid (fun (y : PsA) (hy : y ∈ x.ps) X (hb : Below w.heap.size w X) => show Calls Tryz.prog 142 #[gv x.g, pv y.r y.a y.c] X (Did (.bool (rmRight x.g (rmOf y.r))) X) from by
    have hi := h.psI y hy
    exact r_RightP x.g y.r y.a y.c hi.1 (by have := hi.2.2; omega) X ((hi.2.1.below hb (Nat.le_refl _)).more hb.size))
  have Hfin := hid (fun A A2 c c2 X h h2 => r17_first (x.ps.map fun y => y.r.n) (x.ps.map fun y => rmRight x.g (rmOf y.r)) 24 (by rw [List.length_map, List.length_map]) (by rw [List.length_map]; omega) A A2 c c2 X h h2)
  have Hnm := hid (fun i y (h : x.ps[i]? = some y) => take_map (fun y => y.r.n) h)
  have Hrt := hid (fun i y (h : x.ps[i]? = some y) => take_map (fun y => rmRight x.g (rmOf y.r)) h)
  have hln : (x.ps.map fun y => y.r.n).length = x.ps.length := List.length_map ..
  have hlr : (x.ps.map fun y => rmRight x.g (rmOf y.r)).length = x.ps.length := List.length_map ..
  have H := hid h.ps
  have HI := hid h
  generalize fst17 (x.ps.map fun y => y.r.n) (x.ps.map fun y => rmRight x.g (rmOf y.r)) 24 = rr at *
  generalize (x.ps.map fun y => y.r.n) = nm at *
  generalize (x.ps.map fun y => rmRight x.g (rmOf y.r)) = rt at *
  obtain ⟨N, hN⟩ : ∃ N, x.ps.length = N := ⟨_, rfl⟩
  rw [hN] at hln hlr hf
  obtain ⟨G, W, hG, hW, K, hb0⟩ := (Mem.nil w).one (pbc x) 34
  have HGw := hid (show w.heap.size ≤ G by omega)
  have HBw := hid (show ∀ X : World, Mem w X [(G, pbc x, 34)] → G + 1 ≤ X.heap.size from fun X h => (h.at_ (b := G) (cs := pbc x) (t := 34) (by simp)).lt)
  have Hcell := hid (fun X (h : Mem w X [(G, pbc x, 34)]) => h.pb (B := G) (x := x) (t := 34) (by simp))
  have HN := hid hN
  unfold pbc at hW
  rw [hN] at hW
  obtain ⟨i0, hi0, hz0, hz1, hz2⟩ := info_parts Tryz.info_str
  obtain ⟨j0, hj0, hy0, hy1, hy2⟩ := info_parts Tryz.info_bl
  clear h hb0
  go_enter Tryz.func52, Tryz.ntmps52
  go_wp2_with fail
  go_loopw [3, 4, 5] (fun nv rv iv wr => ∃ i : Nat, iv = .int .i64 i ∧ i ≤ N ∧ Hid (wr.ownsRow (G + 1) 9 1 nv i ((nm.take i).map txt)) ∧ Hid (wr.ownsRow (G + 1) 4 1 rv i ((rt.take i).map Value.bool)) ∧ Hid (Mem w wr [(G, pbc x, 34)])) (fun _ _ iv _ => N - (intOf iv).toNat)
  case atStart => exact ⟨0, rfl, Nat.zero_le _, hid (by rw [List.take_zero]; exact World.ownsRow_nil W (G + 1) 9 1), hid (by rw [List.take_zero]; exact World.ownsRow_nil W (G + 1) 4 1), K⟩
  case round =>
    clear K hW
    obtain ⟨i, rfl, hi, HO1, HO2, KM⟩ := hrel
    obtain ⟨p0, p1, p2, p3, p4, p5, p6, p7, p8, p9, p10, p11, p12, p13, p14⟩ := Hcell.out _ KM.out
    rw [hN] at p6
    by_cases hlt : i < N
    · obtain ⟨ad, y, e0, had, hy, hyl, _⟩ := Es.get enQ_len (by decide) H.out (k := i) (by rw [hN]; exact hlt)
      have Hrow := hid (fun X (hb : Below w.heap.size w X) => (show X.cell? (ad.add (i * 2)) = some (txt y.r.n) ∧ X.cell? ⟨(ad.add (i * 2)).block, (ad.add (i * 2)).off + 1, none⟩ = some (.slice y.a y.r.l.length y.c) from by
        have hq := H.out.below hb (Nat.le_refl _)
        rw [e0] at hq
        exact ⟨es_at enQ_len hq hy.out 0 _ rfl, es_fld enQ_len hq hy.out 1 (by decide) _ rfl⟩))
      rw [e0] at p6
      have i1 : (0 : Int) ≤ (i : Int) := by omega
      have i2 : (i : Int) < (N : Int) := by omega
      have HCy := hid (HC.out y hyl)
      have Hn1 := hid (Hnm.out i y hy.out)
      have Hr1 := hid (Hrt.out i y hy.out)
      obtain ⟨z, hz⟩ : ∃ z, y.r.n = z := ⟨_, rfl⟩
      obtain ⟨q, hq⟩ : ∃ q, rmRight x.g (rmOf y.r) = q := ⟨_, rfl⟩
      rw [hz] at Hn1
      rw [hq] at Hr1 HCy
      have Hzz := hid hz
      have h63 : i + 1 ≤ maxLen := by unfold maxLen; omega
      have hby1 : (i + 1) * 16 ≤ 140737488355328 := by omega
      have hby2 : (i + 1) * 1 ≤ 140737488355328 := by omega
      clear hz hq p0 p1 p2 p3 p4 p5 p6 p7 p8 p9 p10 p11 p12 p13 p14
      obtain ⟨p0, p1, p2, p3, p4, p5, p6, p7, p8, p9, p10, p11, p12, p13, p14⟩ := Hcell.out _ KM.out
      rw [hN] at p6
      go_upto_region 6 with fail
      refine wp_region_held_drew (S := fun X => Mem w X [(G, pbc x, 34)]) (by kernel_rfl) KM.out.drew (fun hHeld => ?_)
      refine takeH 0 13 u3 rfl rfl (by kernel_rfl) (by kernel_rfl) (by kernel_rfl) (fun _ _ _ h => h) (by kernel_rfl) (fun X hX => by clear hX; first | rfl | go_simp) hHeld ?_
      simp only [Act.put, List.setIfInBounds_toArray, List.set_cons_zero, List.set_cons_succ]
      refine takeH 1 14 (.pointer (some ⟨G, 6, none⟩)) rfl rfl (by kernel_rfl) (by kernel_rfl) (by kernel_rfl) (fun _ _ _ h => h) (by kernel_rfl) (fun X hX => by clear hX; first | rfl | go_simp) hHeld ?_
      simp only [Act.put, List.setIfInBounds_toArray, List.set_cons_zero, List.set_cons_succ]
      refine takeH 2 15 (.slice (some ad) N x.c2) rfl rfl (by kernel_rfl) (by kernel_rfl) (by kernel_rfl) (fun _ _ _ h => h) (by kernel_rfl) (fun X hX => by obtain ⟨p0, p1, p2, p3, p4, p5, p6, p7, p8, p9, p10, p11, p12, p13, p14⟩ := Hcell.out _ hX; rw [hN, e0] at p6; clear hX; go_simp) hHeld ?_
      simp only [Act.put, List.setIfInBounds_toArray, List.set_cons_zero, List.set_cons_succ]
      refine takeH 3 16 (.int .i64 i) rfl rfl (by kernel_rfl) (by kernel_rfl) (by kernel_rfl) (fun _ _ _ h => h) (by kernel_rfl) (fun X hX => by clear hX; first | rfl | go_simp) hHeld ?_
      simp only [Act.put, List.setIfInBounds_toArray, List.set_cons_zero, List.set_cons_succ]
      refine takeH 4 17 (.pointer (some (ad.add (i * 2)))) rfl rfl (by kernel_rfl) (by kernel_rfl) (by kernel_rfl) (fun _ _ _ h => h) (by kernel_rfl) (fun X hX => by clear hX; first | rfl | go_simp) hHeld ?_
      simp only [Act.put, List.setIfInBounds_toArray, List.set_cons_zero, List.set_cons_succ]
      refine takeH 5 18 (.pointer (some (ad.add (i * 2)))) rfl rfl (by kernel_rfl) (by kernel_rfl) (by kernel_rfl) (fun _ _ _ h => h) (by kernel_rfl) (fun X hX => by clear hX; first | rfl | go_simp) hHeld ?_
      simp only [Act.put, List.setIfInBounds_toArray, List.set_cons_zero, List.set_cons_succ]
      refine takeH 6 19 (txt z) rfl rfl (by kernel_rfl) (by kernel_rfl) (by kernel_rfl) (fun _ _ _ h => h) (by kernel_rfl) (fun X hX => by obtain ⟨e_0, e_1⟩ := Hrow.out _ hX.2; clear hX; rw [Hzz.out] at e_0; go_simp) hHeld ?_
      simp only [Act.put, List.setIfInBounds_toArray, List.set_cons_zero, List.set_cons_succ]
      refine takeH 9 22 u4 rfl rfl (by kernel_rfl) (by kernel_rfl) (by kernel_rfl) (fun _ _ _ h => h) (by kernel_rfl) (fun X hX => by clear hX; first | rfl | go_simp) hHeld ?_
      simp only [Act.put, List.setIfInBounds_toArray, List.set_cons_zero, List.set_cons_succ]
      refine takeH 10 23 (.pointer (some ⟨G, 1, none⟩)) rfl rfl (by kernel_rfl) (by kernel_rfl) (by kernel_rfl) (fun _ _ _ h => h) (by kernel_rfl) (fun X hX => by clear hX; first | rfl | go_simp) hHeld ?_
      simp only [Act.put, List.setIfInBounds_toArray, List.set_cons_zero, List.set_cons_succ]
      refine takeH 11 24 (.agg #[.int .i64 x.g.w, .int .i64 x.g.d, .int .i64 x.g.s]) rfl rfl (by kernel_rfl) (by kernel_rfl) (by kernel_rfl) (fun _ _ _ h => h) (by kernel_rfl) (fun X hX => by obtain ⟨p0, p1, p2, p3, p4, p5, p6, p7, p8, p9, p10, p11, p12, p13, p14⟩ := Hcell.out _ hX; clear hX; go_simp) hHeld ?_
      simp only [Act.put, List.setIfInBounds_toArray, List.set_cons_zero, List.set_cons_succ]
      refine takeH 12 25 (.pointer (some ⟨G, 6, none⟩)) rfl rfl (by kernel_rfl) (by kernel_rfl) (by kernel_rfl) (fun _ _ _ h => h) (by kernel_rfl) (fun X hX => by clear hX; first | rfl | go_simp) hHeld ?_
      simp only [Act.put, List.setIfInBounds_toArray, List.set_cons_zero, List.set_cons_succ]
      refine takeH 13 26 (.slice (some ad) N x.c2) rfl rfl (by kernel_rfl) (by kernel_rfl) (by kernel_rfl) (fun _ _ _ h => h) (by kernel_rfl) (fun X hX => by obtain ⟨p0, p1, p2, p3, p4, p5, p6, p7, p8, p9, p10, p11, p12, p13, p14⟩ := Hcell.out _ hX; rw [hN, e0] at p6; clear hX; go_simp) hHeld ?_
      simp only [Act.put, List.setIfInBounds_toArray, List.set_cons_zero, List.set_cons_succ]
      refine takeH 14 27 (.int .i64 i) rfl rfl (by kernel_rfl) (by kernel_rfl) (by kernel_rfl) (fun _ _ _ h => h) (by kernel_rfl) (fun X hX => by clear hX; first | rfl | go_simp) hHeld ?_
      simp only [Act.put, List.setIfInBounds_toArray, List.set_cons_zero, List.set_cons_succ]
      refine takeH 15 28 (.pointer (some (ad.add (i * 2)))) rfl rfl (by kernel_rfl) (by kernel_rfl) (by kernel_rfl) (fun _ _ _ h => h) (by kernel_rfl) (fun X hX => by clear hX; first | rfl | go_simp) hHeld ?_
      simp only [Act.put, List.setIfInBounds_toArray, List.set_cons_zero, List.set_cons_succ]
      refine takeH 16 29 (.agg #[txt y.r.n, .slice y.a y.r.l.length y.c]) rfl rfl (by kernel_rfl) (by kernel_rfl) (by kernel_rfl) (fun _ _ _ h => h) (by kernel_rfl) (fun X hX => by obtain ⟨e_0, e_1⟩ := Hrow.out _ hX.2; clear hX; go_simp) hHeld ?_
      simp only [Act.put, List.setIfInBounds_toArray, List.set_cons_zero, List.set_cons_succ]
      obtain ⟨D, U0, hD, hU0, K1, hb1⟩ := KM.out.one [txt z] 9
      have KD := hid K1.out.drew
      have O1 := hid ((own_below HO1.out hb1).drew)
      have O2 := hid ((own_below HO2.out hb1).drew)
      have hsz := HBw.out _ KM.out
      refine wpAnyH_ready (rs := [7]) (by kernel_rfl) (by simp) ?_
      refine AllReadyH.cons rfl (fun KK hK => ?_) AllReadyH.nil
      simp only [List.getElem_toArray, List.getElem_cons_succ, List.getElem_cons_zero]
      go_simp
      have KS := hid (KD.out.sub (l' := [(G, pbc x, 34)]) (by simp))
      refine hK.out _ _ KS.out (fun hHeld => ?_)
      clear hK KK
      try simp only [Act.put, List.setIfInBounds_toArray, List.set_cons_zero, List.set_cons_succ]
      have hOD := KD.out.at_ (b := D) (cs := [txt z]) (t := 9) (by simp)
      obtain ⟨U, hU⟩ : ∃ U, U0.drew = U := ⟨_, rfl⟩
      rw [hU] at hHeld KS O1 O2 hOD ⊢
      have hB1 := HBw.out _ KS.out
      clear hU hU0 KD K1 hb1 HO1 HO2
      refine wpAnyH_ready (rs := [8]) (by kernel_rfl) (by simp) ?_
      refine AllReadyH.cons rfl (fun KK hK => ?_) AllReadyH.nil
      refine step_append_own rfl (.tmp 13) (.tmp 20) 158 rfl (G + 1) 9 i0 (.string ⟨#[]⟩) 1 16 Tryz.underlying158 hi0 hz0 hz1 hz2 rfl (by decide) u3 _ _ (by rfl) O1.out ⟨D, 0, none⟩ 1 1 [txt z] (by rfl) rfl (ob_one hOD) (by simp [txt, Value.oneCell']) h63 hby1 hB1 ?_
      intro v3 W3 hown3 hgr3
      have bb3 := (Below.refl (G + 1) U).grown hgr3 hB1 (fun k hk => (O1.out.lt k hk).1)
      have O2b := hid (O2.out.kept hgr3 (own_typed O1.out O2.out (by decide)))
      have O1b : Hid (W3.ownsRow (G + 1) 9 1 v3 (i + 1) ((nm.take (i + 1)).map txt)) := hid (by rw [Hn1.out, List.map_append]; exact hown3)
      have K3 : Hid (Mem w W3 [(G, pbc x, 34)]) := hid ⟨fun p hp => (KS.out.1 p hp).below bb3 (by simp only [List.mem_cons, List.not_mem_nil, or_false] at hp; rcases hp with rfl; show G < G + 1; omega), KS.out.2.trans (bb3.mono (by have := HGw.out; omega))⟩
      clear hown3 hgr3 bb3 O1 O2 KS hOD
      refine hK.out _ _ K3.out (fun hHeld => ?_)
      clear hK KK
      try simp only [Act.put, List.setIfInBounds_toArray]
      refine wpAnyH_ready (rs := [17]) (by kernel_rfl) (by simp) ?_
      refine AllReadyH.cons rfl (fun KK hK => ?_) AllReadyH.nil
      simp only [List.getElem_toArray, List.getElem_cons_succ, List.getElem_cons_zero]
      go_simp
      refine (HCy.out _ K3.out.2).mono ?_
      rintro e Y ⟨rfl, bz⟩
      have K4 := hid (K3.out.next bz)
      have O1c := hid (own_below O1b.out bz)
      have O2c := hid (own_below O2b.out bz)
      clear bz O1b O2b K3
      refine hK.out _ _ K4.out (fun hHeld => ?_)
      clear hK KK
      try simp only [Act.put, List.setIfInBounds_toArray, List.set_cons_zero, List.set_cons_succ]
      obtain ⟨E, V0, hE, hV0, K5, hb5⟩ := K4.out.one [.bool q] 4
      have O1d := hid (own_below O1c.out hb5)
      have O2d := hid (own_below O2c.out hb5)
      refine wpAnyH_ready (rs := [18]) (by kernel_rfl) (by simp) ?_
      refine AllReadyH.cons rfl (fun KK hK => ?_) AllReadyH.nil
      simp only [List.getElem_toArray, List.getElem_cons_succ, List.getElem_cons_zero]
      go_simp
      have KS5 := hid (K5.out.sub (l' := [(G, pbc x, 34)]) (by simp))
      refine hK.out _ _ KS5.out (fun hHeld => ?_)
      clear hK KK
      try simp only [Act.put, List.setIfInBounds_toArray, List.set_cons_zero, List.set_cons_succ]
      have hOE := K5.out.at_ (b := E) (cs := [.bool q]) (t := 4) (by simp)
      have hB5 := HBw.out _ KS5.out
      clear hV0 K5 hb5 O1c O2c K4
      refine wpAnyH_ready (rs := [19]) (by kernel_rfl) (by simp) ?_
      refine AllReadyH.cons rfl (fun KK hK => ?_) AllReadyH.nil
      refine step_append_own rfl (.tmp 22) (.tmp 31) 159 rfl (G + 1) 4 j0 (.bool false) 1 1 Tryz.underlying159 hj0 hy0 hy1 hy2 rfl (by decide) u4 _ _ (by rfl) O2d.out ⟨E, 0, none⟩ 1 1 [.bool q] (by rfl) rfl (ob_one hOE) (by simp [Value.oneCell']) h63 hby2 hB5 ?_
      intro v4 W4 hown4 hgr4
      have bb4 := (Below.refl (G + 1) V0).grown hgr4 hB5 (fun k hk => (O2d.out.lt k hk).1)
      have O1e := hid (O1d.out.kept hgr4 (own_typed O2d.out O1d.out (by decide)))
      have O2e : Hid (W4.ownsRow (G + 1) 4 1 v4 (i + 1) ((rt.take (i + 1)).map Value.bool)) := hid (by rw [Hr1.out, List.map_append]; exact hown4)
      have K6 : Hid (Mem w W4 [(G, pbc x, 34)]) := hid ⟨fun p hp => (KS5.out.1 p hp).below bb4 (by simp only [List.mem_cons, List.not_mem_nil, or_false] at hp; rcases hp with rfl; show G < G + 1; omega), KS5.out.2.trans (bb4.mono (by have := HGw.out; omega))⟩
      clear hown4 hgr4 bb4 O1d O2d KS5 hOE
      refine hK.out _ _ K6.out (fun hHeld => ?_)
      clear hK KK
      try simp only [Act.put, List.setIfInBounds_toArray]
      refine wpAnyH_ready (rs := [20]) (by kernel_rfl) (by simp) ?_
      refine AllReadyH.cons rfl (fun KK hK => ?_) AllReadyH.nil
      simp only [List.getElem_toArray, List.getElem_cons_succ, List.getElem_cons_zero]
      go_simp
      refine hK.out _ _ K6.out (fun hHeld => ?_)
      clear hK KK
      try simp only [Act.put, List.setIfInBounds_toArray, List.set_cons_zero, List.set_cons_succ]
      refine wpAnyH_ready (rs := [21]) (by kernel_rfl) (by simp) ?_
      refine AllReadyH.cons rfl (fun KK hK => ?_) AllReadyH.nil
      simp only [List.getElem_toArray, List.getElem_cons_succ, List.getElem_cons_zero]
      go_simp
      refine hK.out _ _ K6.out (fun hHeld => ?_)
      clear hK KK
      try simp only [Act.put, List.setIfInBounds_toArray, List.set_cons_zero, List.set_cons_succ]
      refine wpAnyH_done (by kernel_rfl) ?_ _
      clear hHeld
      go_wp2_with fail
      exact ⟨⟨i + 1, by go_num, by omega, O1e, O2e, K6⟩, by simp [intOf]; omega⟩
    · obtain rfl : i = N := by omega
      have i2 : ¬ (i : Int) < (i : Int) := by omega
      rw [List.take_of_length_le (by omega)] at HO1 HO2
      obtain ⟨An, cn, rfl, hrn, _⟩ := own_rdV (by rw [List.length_map, hln]) HO1.out
      obtain ⟨Ar, cr, rfl, hrr, _⟩ := own_rdV (by rw [List.length_map, hlr]) HO2.out
      have Hf1 := hid (fun h h2 => Hfin.out An Ar cn cr wr h h2)
      rw [hln, hlr] at Hf1
      have Hrn := hid hrn
      have Hrr := hid hrr
      clear hrn hrr HO1 HO2
      go_wp2_with fail
      refine (Hf1.out Hrn.out Hrr.out).mono ?_
      rintro e Y ⟨rfl, bz⟩
      have K6 := hid (KM.out.next bz)
      go_wp2_with fail
      go_ret
      exact Did.mk rfl K6.out.2
set_option maxRecDepth 20000 in
set_option maxHeartbeats 8000000 in
theorem r17_classes (x : PbA) (w : World) (h : PbIn w x) (hf : x.cl.length ≤ 1000) : Calls Tryz.prog 53 #[pbv x] w (Did (.int .i64 (fst17 (x.cl.map fun y => y.x.n) (x.cl.map fun y => clRight x.g (x.rm.length : Nat) (x.ps.length : Nat) (x.cl.length : Nat) y.x) 40)) w) := by
  have HC := hid (fun (y : ClA) (hy : y ∈ x.cl) X (hb : Below w.heap.size w X) => show Calls Tryz.prog 143 #[gv x.g, .int .i64 (x.rm.length : Nat), .int .i64 (x.ps.length : Nat), .int .i64 (x.cl.length : Nat), cv y.x y.r] X (Did (.bool (clRight x.g (x.rm.length : Nat) (x.ps.length : Nat) (x.cl.length : Nat) y.x)) X) from by
    have hi := h.clI y hy
    exact r_RightC x.g _ _ _ y.x y.r hi.1 hi.2.2 X (hi.2.1.next2 hb))
  have Hfin := hid (fun A A2 c c2 X h h2 => r17_first (x.cl.map fun y => y.x.n) (x.cl.map fun y => clRight x.g (x.rm.length : Nat) (x.ps.length : Nat) (x.cl.length : Nat) y.x) 40 (by rw [List.length_map, List.length_map]) (by rw [List.length_map]; omega) A A2 c c2 X h h2)
  have Hnm := hid (fun i y (h : x.cl[i]? = some y) => take_map (fun y => y.x.n) h)
  have Hrt := hid (fun i y (h : x.cl[i]? = some y) => take_map (fun y => clRight x.g (x.rm.length : Nat) (x.ps.length : Nat) (x.cl.length : Nat) y.x) h)
  have hln : (x.cl.map fun y => y.x.n).length = x.cl.length := List.length_map ..
  have hlr : (x.cl.map fun y => clRight x.g (x.rm.length : Nat) (x.ps.length : Nat) (x.cl.length : Nat) y.x).length = x.cl.length := List.length_map ..
  have H := hid h.cl
  have HI := hid h
  generalize fst17 (x.cl.map fun y => y.x.n) (x.cl.map fun y => clRight x.g (x.rm.length : Nat) (x.ps.length : Nat) (x.cl.length : Nat) y.x) 40 = rr at *
  generalize (x.cl.map fun y => y.x.n) = nm at *
  generalize (x.cl.map fun y => clRight x.g (x.rm.length : Nat) (x.ps.length : Nat) (x.cl.length : Nat) y.x) = rt at *
  obtain ⟨N, hN⟩ : ∃ N, x.cl.length = N := ⟨_, rfl⟩
  rw [hN] at hln hlr hf
  obtain ⟨G, W, hG, hW, K, hb0⟩ := (Mem.nil w).one (pbc x) 34
  have HGw := hid (show w.heap.size ≤ G by omega)
  have HBw := hid (show ∀ X : World, Mem w X [(G, pbc x, 34)] → G + 1 ≤ X.heap.size from fun X h => (h.at_ (b := G) (cs := pbc x) (t := 34) (by simp)).lt)
  have Hcell := hid (fun X (h : Mem w X [(G, pbc x, 34)]) => h.pb (B := G) (x := x) (t := 34) (by simp))
  have HN := hid hN
  unfold pbc at hW
  rw [hN] at hW
  obtain ⟨i0, hi0, hz0, hz1, hz2⟩ := info_parts Tryz.info_str
  obtain ⟨j0, hj0, hy0, hy1, hy2⟩ := info_parts Tryz.info_bl
  clear h hb0
  go_enter Tryz.func53, Tryz.ntmps53
  go_wp2_with fail
  go_loopw [3, 4, 5] (fun nv rv iv wr => ∃ i : Nat, iv = .int .i64 i ∧ i ≤ N ∧ Hid (wr.ownsRow (G + 1) 9 1 nv i ((nm.take i).map txt)) ∧ Hid (wr.ownsRow (G + 1) 4 1 rv i ((rt.take i).map Value.bool)) ∧ Hid (Mem w wr [(G, pbc x, 34)])) (fun _ _ iv _ => N - (intOf iv).toNat)
  case atStart => exact ⟨0, rfl, Nat.zero_le _, hid (by rw [List.take_zero]; exact World.ownsRow_nil W (G + 1) 9 1), hid (by rw [List.take_zero]; exact World.ownsRow_nil W (G + 1) 4 1), K⟩
  case round =>
    clear K hW
    obtain ⟨i, rfl, hi, HO1, HO2, KM⟩ := hrel
    obtain ⟨p0, p1, p2, p3, p4, p5, p6, p7, p8, p9, p10, p11, p12, p13, p14⟩ := Hcell.out _ KM.out
    rw [hN] at p7
    by_cases hlt : i < N
    · obtain ⟨ad, y, e0, had, hy, hyl, _⟩ := Es.get enC_len (by decide) H.out (k := i) (by rw [hN]; exact hlt)
      have Hrow := hid (fun X (hb : Below w.heap.size w X) => (show X.cell? (ad.add (i * 7)) = some (txt y.x.n) ∧ X.cell? ⟨(ad.add (i * 7)).block, (ad.add (i * 7)).off + 1, none⟩ = some (.int .i64 y.x.s) ∧ X.cell? ⟨(ad.add (i * 7)).block, (ad.add (i * 7)).off + 2, none⟩ = some (.int .u16 (y.x.g : Int)) ∧ X.cell? ⟨(ad.add (i * 7)).block, (ad.add (i * 7)).off + 3, none⟩ = some (.slice y.r.a y.x.p.length y.r.ac) ∧ X.cell? ⟨(ad.add (i * 7)).block, (ad.add (i * 7)).off + 4, none⟩ = some (.slice y.r.b y.x.t.length y.r.bc) ∧ X.cell? ⟨(ad.add (i * 7)).block, (ad.add (i * 7)).off + 5, none⟩ = some (.slice y.r.c y.x.l.length y.r.cc) ∧ X.cell? ⟨(ad.add (i * 7)).block, (ad.add (i * 7)).off + 6, none⟩ = some (.int .i64 y.x.o) from by
        have hq := H.out.below hb (Nat.le_refl _)
        rw [e0] at hq
        exact ⟨es_at enC_len hq hy.out 0 _ rfl, es_fld enC_len hq hy.out 1 (by decide) _ rfl, es_fld enC_len hq hy.out 2 (by decide) _ rfl, es_fld enC_len hq hy.out 3 (by decide) _ rfl, es_fld enC_len hq hy.out 4 (by decide) _ rfl, es_fld enC_len hq hy.out 5 (by decide) _ rfl, es_fld enC_len hq hy.out 6 (by decide) _ rfl⟩))
      rw [e0] at p7
      have i1 : (0 : Int) ≤ (i : Int) := by omega
      have i2 : (i : Int) < (N : Int) := by omega
      have HCy := hid (HC.out y hyl)
      have Hn1 := hid (Hnm.out i y hy.out)
      have Hr1 := hid (Hrt.out i y hy.out)
      obtain ⟨z, hz⟩ : ∃ z, y.x.n = z := ⟨_, rfl⟩
      obtain ⟨q, hq⟩ : ∃ q, clRight x.g (x.rm.length : Nat) (x.ps.length : Nat) (x.cl.length : Nat) y.x = q := ⟨_, rfl⟩
      rw [hz] at Hn1
      rw [hq] at Hr1 HCy
      rw [hN] at HCy
      have Hzz := hid hz
      have h63 : i + 1 ≤ maxLen := by unfold maxLen; omega
      have hby1 : (i + 1) * 16 ≤ 140737488355328 := by omega
      have hby2 : (i + 1) * 1 ≤ 140737488355328 := by omega
      clear hz hq p0 p1 p2 p3 p4 p5 p6 p7 p8 p9 p10 p11 p12 p13 p14
      obtain ⟨p0, p1, p2, p3, p4, p5, p6, p7, p8, p9, p10, p11, p12, p13, p14⟩ := Hcell.out _ KM.out
      rw [hN] at p7
      go_upto_region 6 with fail
      refine wp_region_held_drew (S := fun X => Mem w X [(G, pbc x, 34)]) (by kernel_rfl) KM.out.drew (fun hHeld => ?_)
      refine takeH 0 13 u3 rfl rfl (by kernel_rfl) (by kernel_rfl) (by kernel_rfl) (fun _ _ _ h => h) (by kernel_rfl) (fun X hX => by clear hX; first | rfl | go_simp) hHeld ?_
      simp only [Act.put, List.setIfInBounds_toArray, List.set_cons_zero, List.set_cons_succ]
      refine takeH 1 14 (.pointer (some ⟨G, 7, none⟩)) rfl rfl (by kernel_rfl) (by kernel_rfl) (by kernel_rfl) (fun _ _ _ h => h) (by kernel_rfl) (fun X hX => by clear hX; first | rfl | go_simp) hHeld ?_
      simp only [Act.put, List.setIfInBounds_toArray, List.set_cons_zero, List.set_cons_succ]
      refine takeH 2 15 (.slice (some ad) N x.c3) rfl rfl (by kernel_rfl) (by kernel_rfl) (by kernel_rfl) (fun _ _ _ h => h) (by kernel_rfl) (fun X hX => by obtain ⟨p0, p1, p2, p3, p4, p5, p6, p7, p8, p9, p10, p11, p12, p13, p14⟩ := Hcell.out _ hX; rw [hN, e0] at p7; clear hX; go_simp) hHeld ?_
      simp only [Act.put, List.setIfInBounds_toArray, List.set_cons_zero, List.set_cons_succ]
      refine takeH 3 16 (.int .i64 i) rfl rfl (by kernel_rfl) (by kernel_rfl) (by kernel_rfl) (fun _ _ _ h => h) (by kernel_rfl) (fun X hX => by clear hX; first | rfl | go_simp) hHeld ?_
      simp only [Act.put, List.setIfInBounds_toArray, List.set_cons_zero, List.set_cons_succ]
      refine takeH 4 17 (.pointer (some (ad.add (i * 7)))) rfl rfl (by kernel_rfl) (by kernel_rfl) (by kernel_rfl) (fun _ _ _ h => h) (by kernel_rfl) (fun X hX => by clear hX; first | rfl | go_simp) hHeld ?_
      simp only [Act.put, List.setIfInBounds_toArray, List.set_cons_zero, List.set_cons_succ]
      refine takeH 5 18 (.pointer (some (ad.add (i * 7)))) rfl rfl (by kernel_rfl) (by kernel_rfl) (by kernel_rfl) (fun _ _ _ h => h) (by kernel_rfl) (fun X hX => by clear hX; first | rfl | go_simp) hHeld ?_
      simp only [Act.put, List.setIfInBounds_toArray, List.set_cons_zero, List.set_cons_succ]
      refine takeH 6 19 (txt z) rfl rfl (by kernel_rfl) (by kernel_rfl) (by kernel_rfl) (fun _ _ _ h => h) (by kernel_rfl) (fun X hX => by obtain ⟨e_0, e_1, e_2, e_3, e_4, e_5, e_6⟩ := Hrow.out _ hX.2; clear hX; rw [Hzz.out] at e_0; go_simp) hHeld ?_
      simp only [Act.put, List.setIfInBounds_toArray, List.set_cons_zero, List.set_cons_succ]
      refine takeH 9 22 u4 rfl rfl (by kernel_rfl) (by kernel_rfl) (by kernel_rfl) (fun _ _ _ h => h) (by kernel_rfl) (fun X hX => by clear hX; first | rfl | go_simp) hHeld ?_
      simp only [Act.put, List.setIfInBounds_toArray, List.set_cons_zero, List.set_cons_succ]
      refine takeH 10 23 (.pointer (some ⟨G, 1, none⟩)) rfl rfl (by kernel_rfl) (by kernel_rfl) (by kernel_rfl) (fun _ _ _ h => h) (by kernel_rfl) (fun X hX => by clear hX; first | rfl | go_simp) hHeld ?_
      simp only [Act.put, List.setIfInBounds_toArray, List.set_cons_zero, List.set_cons_succ]
      refine takeH 11 24 (.agg #[.int .i64 x.g.w, .int .i64 x.g.d, .int .i64 x.g.s]) rfl rfl (by kernel_rfl) (by kernel_rfl) (by kernel_rfl) (fun _ _ _ h => h) (by kernel_rfl) (fun X hX => by obtain ⟨p0, p1, p2, p3, p4, p5, p6, p7, p8, p9, p10, p11, p12, p13, p14⟩ := Hcell.out _ hX; clear hX; go_simp) hHeld ?_
      simp only [Act.put, List.setIfInBounds_toArray, List.set_cons_zero, List.set_cons_succ]
      refine takeH 12 25 (.pointer (some ⟨G, 4, none⟩)) rfl rfl (by kernel_rfl) (by kernel_rfl) (by kernel_rfl) (fun _ _ _ h => h) (by kernel_rfl) (fun X hX => by clear hX; first | rfl | go_simp) hHeld ?_
      simp only [Act.put, List.setIfInBounds_toArray, List.set_cons_zero, List.set_cons_succ]
      refine takeH 13 26 (.slice x.r0 x.rm.length x.c0) rfl rfl (by kernel_rfl) (by kernel_rfl) (by kernel_rfl) (fun _ _ _ h => h) (by kernel_rfl) (fun X hX => by obtain ⟨p0, p1, p2, p3, p4, p5, p6, p7, p8, p9, p10, p11, p12, p13, p14⟩ := Hcell.out _ hX; clear hX; go_simp) hHeld ?_
      simp only [Act.put, List.setIfInBounds_toArray, List.set_cons_zero, List.set_cons_succ]
      refine takeH 14 27 (.int .i64 (x.rm.length : Nat)) rfl rfl (by kernel_rfl) (by kernel_rfl) (by kernel_rfl) (fun _ _ _ h => h) (by kernel_rfl) (fun X hX => by clear hX; first | rfl | go_simp) hHeld ?_
      simp only [Act.put, List.setIfInBounds_toArray, List.set_cons_zero, List.set_cons_succ]
      refine takeH 15 28 (.pointer (some ⟨G, 6, none⟩)) rfl rfl (by kernel_rfl) (by kernel_rfl) (by kernel_rfl) (fun _ _ _ h => h) (by kernel_rfl) (fun X hX => by clear hX; first | rfl | go_simp) hHeld ?_
      simp only [Act.put, List.setIfInBounds_toArray, List.set_cons_zero, List.set_cons_succ]
      refine takeH 16 29 (.slice x.r2 x.ps.length x.c2) rfl rfl (by kernel_rfl) (by kernel_rfl) (by kernel_rfl) (fun _ _ _ h => h) (by kernel_rfl) (fun X hX => by obtain ⟨p0, p1, p2, p3, p4, p5, p6, p7, p8, p9, p10, p11, p12, p13, p14⟩ := Hcell.out _ hX; clear hX; go_simp) hHeld ?_
      simp only [Act.put, List.setIfInBounds_toArray, List.set_cons_zero, List.set_cons_succ]
      refine takeH 17 30 (.int .i64 (x.ps.length : Nat)) rfl rfl (by kernel_rfl) (by kernel_rfl) (by kernel_rfl) (fun _ _ _ h => h) (by kernel_rfl) (fun X hX => by clear hX; first | rfl | go_simp) hHeld ?_
      simp only [Act.put, List.setIfInBounds_toArray, List.set_cons_zero, List.set_cons_succ]
      refine takeH 18 31 (.pointer (some ⟨G, 7, none⟩)) rfl rfl (by kernel_rfl) (by kernel_rfl) (by kernel_rfl) (fun _ _ _ h => h) (by kernel_rfl) (fun X hX => by clear hX; first | rfl | go_simp) hHeld ?_
      simp only [Act.put, List.setIfInBounds_toArray, List.set_cons_zero, List.set_cons_succ]
      refine takeH 19 32 (.slice (some ad) N x.c3) rfl rfl (by kernel_rfl) (by kernel_rfl) (by kernel_rfl) (fun _ _ _ h => h) (by kernel_rfl) (fun X hX => by obtain ⟨p0, p1, p2, p3, p4, p5, p6, p7, p8, p9, p10, p11, p12, p13, p14⟩ := Hcell.out _ hX; rw [hN, e0] at p7; clear hX; go_simp) hHeld ?_
      simp only [Act.put, List.setIfInBounds_toArray, List.set_cons_zero, List.set_cons_succ]
      refine takeH 20 33 (.int .i64 N) rfl rfl (by kernel_rfl) (by kernel_rfl) (by kernel_rfl) (fun _ _ _ h => h) (by kernel_rfl) (fun X hX => by clear hX; first | rfl | go_simp) hHeld ?_
      simp only [Act.put, List.setIfInBounds_toArray, List.set_cons_zero, List.set_cons_succ]
      refine takeH 21 34 (.pointer (some ⟨G, 7, none⟩)) rfl rfl (by kernel_rfl) (by kernel_rfl) (by kernel_rfl) (fun _ _ _ h => h) (by kernel_rfl) (fun X hX => by clear hX; first | rfl | go_simp) hHeld ?_
      simp only [Act.put, List.setIfInBounds_toArray, List.set_cons_zero, List.set_cons_succ]
      refine takeH 22 35 (.slice (some ad) N x.c3) rfl rfl (by kernel_rfl) (by kernel_rfl) (by kernel_rfl) (fun _ _ _ h => h) (by kernel_rfl) (fun X hX => by obtain ⟨p0, p1, p2, p3, p4, p5, p6, p7, p8, p9, p10, p11, p12, p13, p14⟩ := Hcell.out _ hX; rw [hN, e0] at p7; clear hX; go_simp) hHeld ?_
      simp only [Act.put, List.setIfInBounds_toArray, List.set_cons_zero, List.set_cons_succ]
      refine takeH 23 36 (.int .i64 i) rfl rfl (by kernel_rfl) (by kernel_rfl) (by kernel_rfl) (fun _ _ _ h => h) (by kernel_rfl) (fun X hX => by clear hX; first | rfl | go_simp) hHeld ?_
      simp only [Act.put, List.setIfInBounds_toArray, List.set_cons_zero, List.set_cons_succ]
      refine takeH 24 37 (.pointer (some (ad.add (i * 7)))) rfl rfl (by kernel_rfl) (by kernel_rfl) (by kernel_rfl) (fun _ _ _ h => h) (by kernel_rfl) (fun X hX => by clear hX; first | rfl | go_simp) hHeld ?_
      simp only [Act.put, List.setIfInBounds_toArray, List.set_cons_zero, List.set_cons_succ]
      refine takeH 25 38 (.agg #[txt y.x.n, .int .i64 y.x.s, .int .u16 (y.x.g : Int), .slice y.r.a y.x.p.length y.r.ac, .slice y.r.b y.x.t.length y.r.bc, .slice y.r.c y.x.l.length y.r.cc, .int .i64 y.x.o]) rfl rfl (by kernel_rfl) (by kernel_rfl) (by kernel_rfl) (fun _ _ _ h => h) (by kernel_rfl) (fun X hX => by obtain ⟨e_0, e_1, e_2, e_3, e_4, e_5, e_6⟩ := Hrow.out _ hX.2; clear hX; go_simp) hHeld ?_
      simp only [Act.put, List.setIfInBounds_toArray, List.set_cons_zero, List.set_cons_succ]
      obtain ⟨D, U0, hD, hU0, K1, hb1⟩ := KM.out.one [txt z] 9
      have KD := hid K1.out.drew
      have O1 := hid ((own_below HO1.out hb1).drew)
      have O2 := hid ((own_below HO2.out hb1).drew)
      have hsz := HBw.out _ KM.out
      refine wpAnyH_ready (rs := [7]) (by kernel_rfl) (by simp) ?_
      refine AllReadyH.cons rfl (fun KK hK => ?_) AllReadyH.nil
      simp only [List.getElem_toArray, List.getElem_cons_succ, List.getElem_cons_zero]
      go_simp
      have KS := hid (KD.out.sub (l' := [(G, pbc x, 34)]) (by simp))
      refine hK.out _ _ KS.out (fun hHeld => ?_)
      clear hK KK
      try simp only [Act.put, List.setIfInBounds_toArray, List.set_cons_zero, List.set_cons_succ]
      have hOD := KD.out.at_ (b := D) (cs := [txt z]) (t := 9) (by simp)
      obtain ⟨U, hU⟩ : ∃ U, U0.drew = U := ⟨_, rfl⟩
      rw [hU] at hHeld KS O1 O2 hOD ⊢
      have hB1 := HBw.out _ KS.out
      clear hU hU0 KD K1 hb1 HO1 HO2
      refine wpAnyH_ready (rs := [8]) (by kernel_rfl) (by simp) ?_
      refine AllReadyH.cons rfl (fun KK hK => ?_) AllReadyH.nil
      refine step_append_own rfl (.tmp 13) (.tmp 20) 158 rfl (G + 1) 9 i0 (.string ⟨#[]⟩) 1 16 Tryz.underlying158 hi0 hz0 hz1 hz2 rfl (by decide) u3 _ _ (by rfl) O1.out ⟨D, 0, none⟩ 1 1 [txt z] (by rfl) rfl (ob_one hOD) (by simp [txt, Value.oneCell']) h63 hby1 hB1 ?_
      intro v3 W3 hown3 hgr3
      have bb3 := (Below.refl (G + 1) U).grown hgr3 hB1 (fun k hk => (O1.out.lt k hk).1)
      have O2b := hid (O2.out.kept hgr3 (own_typed O1.out O2.out (by decide)))
      have O1b : Hid (W3.ownsRow (G + 1) 9 1 v3 (i + 1) ((nm.take (i + 1)).map txt)) := hid (by rw [Hn1.out, List.map_append]; exact hown3)
      have K3 : Hid (Mem w W3 [(G, pbc x, 34)]) := hid ⟨fun p hp => (KS.out.1 p hp).below bb3 (by simp only [List.mem_cons, List.not_mem_nil, or_false] at hp; rcases hp with rfl; show G < G + 1; omega), KS.out.2.trans (bb3.mono (by have := HGw.out; omega))⟩
      clear hown3 hgr3 bb3 O1 O2 KS hOD
      refine hK.out _ _ K3.out (fun hHeld => ?_)
      clear hK KK
      try simp only [Act.put, List.setIfInBounds_toArray]
      refine wpAnyH_ready (rs := [26]) (by kernel_rfl) (by simp) ?_
      refine AllReadyH.cons rfl (fun KK hK => ?_) AllReadyH.nil
      simp only [List.getElem_toArray, List.getElem_cons_succ, List.getElem_cons_zero]
      go_simp
      refine (HCy.out _ K3.out.2).mono ?_
      rintro e Y ⟨rfl, bz⟩
      have K4 := hid (K3.out.next bz)
      have O1c := hid (own_below O1b.out bz)
      have O2c := hid (own_below O2b.out bz)
      clear bz O1b O2b K3
      refine hK.out _ _ K4.out (fun hHeld => ?_)
      clear hK KK
      try simp only [Act.put, List.setIfInBounds_toArray, List.set_cons_zero, List.set_cons_succ]
      obtain ⟨E, V0, hE, hV0, K5, hb5⟩ := K4.out.one [.bool q] 4
      have O1d := hid (own_below O1c.out hb5)
      have O2d := hid (own_below O2c.out hb5)
      refine wpAnyH_ready (rs := [27]) (by kernel_rfl) (by simp) ?_
      refine AllReadyH.cons rfl (fun KK hK => ?_) AllReadyH.nil
      simp only [List.getElem_toArray, List.getElem_cons_succ, List.getElem_cons_zero]
      go_simp
      have KS5 := hid (K5.out.sub (l' := [(G, pbc x, 34)]) (by simp))
      refine hK.out _ _ KS5.out (fun hHeld => ?_)
      clear hK KK
      try simp only [Act.put, List.setIfInBounds_toArray, List.set_cons_zero, List.set_cons_succ]
      have hOE := K5.out.at_ (b := E) (cs := [.bool q]) (t := 4) (by simp)
      have hB5 := HBw.out _ KS5.out
      clear hV0 K5 hb5 O1c O2c K4
      refine wpAnyH_ready (rs := [28]) (by kernel_rfl) (by simp) ?_
      refine AllReadyH.cons rfl (fun KK hK => ?_) AllReadyH.nil
      refine step_append_own rfl (.tmp 22) (.tmp 40) 159 rfl (G + 1) 4 j0 (.bool false) 1 1 Tryz.underlying159 hj0 hy0 hy1 hy2 rfl (by decide) u4 _ _ (by rfl) O2d.out ⟨E, 0, none⟩ 1 1 [.bool q] (by rfl) rfl (ob_one hOE) (by simp [Value.oneCell']) h63 hby2 hB5 ?_
      intro v4 W4 hown4 hgr4
      have bb4 := (Below.refl (G + 1) V0).grown hgr4 hB5 (fun k hk => (O2d.out.lt k hk).1)
      have O1e := hid (O1d.out.kept hgr4 (own_typed O2d.out O1d.out (by decide)))
      have O2e : Hid (W4.ownsRow (G + 1) 4 1 v4 (i + 1) ((rt.take (i + 1)).map Value.bool)) := hid (by rw [Hr1.out, List.map_append]; exact hown4)
      have K6 : Hid (Mem w W4 [(G, pbc x, 34)]) := hid ⟨fun p hp => (KS5.out.1 p hp).below bb4 (by simp only [List.mem_cons, List.not_mem_nil, or_false] at hp; rcases hp with rfl; show G < G + 1; omega), KS5.out.2.trans (bb4.mono (by have := HGw.out; omega))⟩
      clear hown4 hgr4 bb4 O1d O2d KS5 hOE
      refine hK.out _ _ K6.out (fun hHeld => ?_)
      clear hK KK
      try simp only [Act.put, List.setIfInBounds_toArray]
      refine wpAnyH_ready (rs := [29]) (by kernel_rfl) (by simp) ?_
      refine AllReadyH.cons rfl (fun KK hK => ?_) AllReadyH.nil
      simp only [List.getElem_toArray, List.getElem_cons_succ, List.getElem_cons_zero]
      go_simp
      refine hK.out _ _ K6.out (fun hHeld => ?_)
      clear hK KK
      try simp only [Act.put, List.setIfInBounds_toArray, List.set_cons_zero, List.set_cons_succ]
      refine wpAnyH_ready (rs := [30]) (by kernel_rfl) (by simp) ?_
      refine AllReadyH.cons rfl (fun KK hK => ?_) AllReadyH.nil
      simp only [List.getElem_toArray, List.getElem_cons_succ, List.getElem_cons_zero]
      go_simp
      refine hK.out _ _ K6.out (fun hHeld => ?_)
      clear hK KK
      try simp only [Act.put, List.setIfInBounds_toArray, List.set_cons_zero, List.set_cons_succ]
      refine wpAnyH_done (by kernel_rfl) ?_ _
      clear hHeld
      go_wp2_with fail
      exact ⟨⟨i + 1, by go_num, by omega, O1e, O2e, K6⟩, by simp [intOf]; omega⟩
    · obtain rfl : i = N := by omega
      have i2 : ¬ (i : Int) < (i : Int) := by omega
      rw [List.take_of_length_le (by omega)] at HO1 HO2
      obtain ⟨An, cn, rfl, hrn, _⟩ := own_rdV (by rw [List.length_map, hln]) HO1.out
      obtain ⟨Ar, cr, rfl, hrr, _⟩ := own_rdV (by rw [List.length_map, hlr]) HO2.out
      have Hf1 := hid (fun h h2 => Hfin.out An Ar cn cr wr h h2)
      rw [hln, hlr] at Hf1
      have Hrn := hid hrn
      have Hrr := hid hrr
      clear hrn hrr HO1 HO2
      go_wp2_with fail
      refine (Hf1.out Hrn.out Hrr.out).mono ?_
      rintro e Y ⟨rfl, bz⟩
      have K6 := hid (KM.out.next bz)
      go_wp2_with fail
      go_ret
      exact Did.mk rfl K6.out.2
set_option maxRecDepth 20000 in
set_option maxHeartbeats 8000000 in
theorem r17_courses (x : PbA) (w : World) (h : PbIn w x) (hf : x.cs.length ≤ 1000) : Calls Tryz.prog 54 #[pbv x] w (Did (.int .i64 (fst17 (x.cs.map fun y => y.x.n) (x.cs.map fun y => csRight (x.cl.length : Nat) y.x) 16)) w) := by
  have HC := hid (fun (y : CsA) (hy : y ∈ x.cs) X (hb : Below w.heap.size w X) => show Calls Tryz.prog 144 #[.int .i64 (x.cl.length : Nat), csv y.x y.a y.c] X (Did (.bool (csRight (x.cl.length : Nat) y.x)) X) from by
    have hi := h.csI y hy
    exact r_RightCs _ y.x y.a y.c hi.2.2.2 X ((hi.2.1.below hb (Nat.le_refl _)).more hb.size))
  have Hfin := hid (fun A A2 c c2 X h h2 => r17_first (x.cs.map fun y => y.x.n) (x.cs.map fun y => csRight (x.cl.length : Nat) y.x) 16 (by rw [List.length_map, List.length_map]) (by rw [List.length_map]; omega) A A2 c c2 X h h2)
  have Hnm := hid (fun i y (h : x.cs[i]? = some y) => take_map (fun y => y.x.n) h)
  have Hrt := hid (fun i y (h : x.cs[i]? = some y) => take_map (fun y => csRight (x.cl.length : Nat) y.x) h)
  have hln : (x.cs.map fun y => y.x.n).length = x.cs.length := List.length_map ..
  have hlr : (x.cs.map fun y => csRight (x.cl.length : Nat) y.x).length = x.cs.length := List.length_map ..
  have H := hid h.cs
  have HI := hid h
  generalize fst17 (x.cs.map fun y => y.x.n) (x.cs.map fun y => csRight (x.cl.length : Nat) y.x) 16 = rr at *
  generalize (x.cs.map fun y => y.x.n) = nm at *
  generalize (x.cs.map fun y => csRight (x.cl.length : Nat) y.x) = rt at *
  obtain ⟨N, hN⟩ : ∃ N, x.cs.length = N := ⟨_, rfl⟩
  rw [hN] at hln hlr hf
  obtain ⟨G, W, hG, hW, K, hb0⟩ := (Mem.nil w).one (pbc x) 34
  have HGw := hid (show w.heap.size ≤ G by omega)
  have HBw := hid (show ∀ X : World, Mem w X [(G, pbc x, 34)] → G + 1 ≤ X.heap.size from fun X h => (h.at_ (b := G) (cs := pbc x) (t := 34) (by simp)).lt)
  have Hcell := hid (fun X (h : Mem w X [(G, pbc x, 34)]) => h.pb (B := G) (x := x) (t := 34) (by simp))
  have HN := hid hN
  unfold pbc at hW
  rw [hN] at hW
  obtain ⟨i0, hi0, hz0, hz1, hz2⟩ := info_parts Tryz.info_str
  obtain ⟨j0, hj0, hy0, hy1, hy2⟩ := info_parts Tryz.info_bl
  clear h hb0
  go_enter Tryz.func54, Tryz.ntmps54
  go_wp2_with fail
  go_loopw [3, 4, 5] (fun nv rv iv wr => ∃ i : Nat, iv = .int .i64 i ∧ i ≤ N ∧ Hid (wr.ownsRow (G + 1) 9 1 nv i ((nm.take i).map txt)) ∧ Hid (wr.ownsRow (G + 1) 4 1 rv i ((rt.take i).map Value.bool)) ∧ Hid (Mem w wr [(G, pbc x, 34)])) (fun _ _ iv _ => N - (intOf iv).toNat)
  case atStart => exact ⟨0, rfl, Nat.zero_le _, hid (by rw [List.take_zero]; exact World.ownsRow_nil W (G + 1) 9 1), hid (by rw [List.take_zero]; exact World.ownsRow_nil W (G + 1) 4 1), K⟩
  case round =>
    clear K hW
    obtain ⟨i, rfl, hi, HO1, HO2, KM⟩ := hrel
    obtain ⟨p0, p1, p2, p3, p4, p5, p6, p7, p8, p9, p10, p11, p12, p13, p14⟩ := Hcell.out _ KM.out
    rw [hN] at p8
    by_cases hlt : i < N
    · obtain ⟨ad, y, e0, had, hy, hyl, _⟩ := Es.get enK_len (by decide) H.out (k := i) (by rw [hN]; exact hlt)
      have Hrow := hid (fun X (hb : Below w.heap.size w X) => (show X.cell? (ad.add (i * 2)) = some (txt y.x.n) ∧ X.cell? ⟨(ad.add (i * 2)).block, (ad.add (i * 2)).off + 1, none⟩ = some (.slice y.a y.x.ws.length y.c) from by
        have hq := H.out.below hb (Nat.le_refl _)
        rw [e0] at hq
        exact ⟨es_at enK_len hq hy.out 0 _ rfl, es_fld enK_len hq hy.out 1 (by decide) _ rfl⟩))
      rw [e0] at p8
      have i1 : (0 : Int) ≤ (i : Int) := by omega
      have i2 : (i : Int) < (N : Int) := by omega
      have HCy := hid (HC.out y hyl)
      have Hn1 := hid (Hnm.out i y hy.out)
      have Hr1 := hid (Hrt.out i y hy.out)
      obtain ⟨z, hz⟩ : ∃ z, y.x.n = z := ⟨_, rfl⟩
      obtain ⟨q, hq⟩ : ∃ q, csRight (x.cl.length : Nat) y.x = q := ⟨_, rfl⟩
      rw [hz] at Hn1
      rw [hq] at Hr1 HCy
      have Hzz := hid hz
      have h63 : i + 1 ≤ maxLen := by unfold maxLen; omega
      have hby1 : (i + 1) * 16 ≤ 140737488355328 := by omega
      have hby2 : (i + 1) * 1 ≤ 140737488355328 := by omega
      clear hz hq p0 p1 p2 p3 p4 p5 p6 p7 p8 p9 p10 p11 p12 p13 p14
      obtain ⟨p0, p1, p2, p3, p4, p5, p6, p7, p8, p9, p10, p11, p12, p13, p14⟩ := Hcell.out _ KM.out
      rw [hN] at p8
      go_upto_region 6 with fail
      refine wp_region_held_drew (S := fun X => Mem w X [(G, pbc x, 34)]) (by kernel_rfl) KM.out.drew (fun hHeld => ?_)
      refine takeH 0 13 u3 rfl rfl (by kernel_rfl) (by kernel_rfl) (by kernel_rfl) (fun _ _ _ h => h) (by kernel_rfl) (fun X hX => by clear hX; first | rfl | go_simp) hHeld ?_
      simp only [Act.put, List.setIfInBounds_toArray, List.set_cons_zero, List.set_cons_succ]
      refine takeH 1 14 (.pointer (some ⟨G, 8, none⟩)) rfl rfl (by kernel_rfl) (by kernel_rfl) (by kernel_rfl) (fun _ _ _ h => h) (by kernel_rfl) (fun X hX => by clear hX; first | rfl | go_simp) hHeld ?_
      simp only [Act.put, List.setIfInBounds_toArray, List.set_cons_zero, List.set_cons_succ]
      refine takeH 2 15 (.slice (some ad) N x.c4) rfl rfl (by kernel_rfl) (by kernel_rfl) (by kernel_rfl) (fun _ _ _ h => h) (by kernel_rfl) (fun X hX => by obtain ⟨p0, p1, p2, p3, p4, p5, p6, p7, p8, p9, p10, p11, p12, p13, p14⟩ := Hcell.out _ hX; rw [hN, e0] at p8; clear hX; go_simp) hHeld ?_
      simp only [Act.put, List.setIfInBounds_toArray, List.set_cons_zero, List.set_cons_succ]
      refine takeH 3 16 (.int .i64 i) rfl rfl (by kernel_rfl) (by kernel_rfl) (by kernel_rfl) (fun _ _ _ h => h) (by kernel_rfl) (fun X hX => by clear hX; first | rfl | go_simp) hHeld ?_
      simp only [Act.put, List.setIfInBounds_toArray, List.set_cons_zero, List.set_cons_succ]
      refine takeH 4 17 (.pointer (some (ad.add (i * 2)))) rfl rfl (by kernel_rfl) (by kernel_rfl) (by kernel_rfl) (fun _ _ _ h => h) (by kernel_rfl) (fun X hX => by clear hX; first | rfl | go_simp) hHeld ?_
      simp only [Act.put, List.setIfInBounds_toArray, List.set_cons_zero, List.set_cons_succ]
      refine takeH 5 18 (.pointer (some (ad.add (i * 2)))) rfl rfl (by kernel_rfl) (by kernel_rfl) (by kernel_rfl) (fun _ _ _ h => h) (by kernel_rfl) (fun X hX => by clear hX; first | rfl | go_simp) hHeld ?_
      simp only [Act.put, List.setIfInBounds_toArray, List.set_cons_zero, List.set_cons_succ]
      refine takeH 6 19 (txt z) rfl rfl (by kernel_rfl) (by kernel_rfl) (by kernel_rfl) (fun _ _ _ h => h) (by kernel_rfl) (fun X hX => by obtain ⟨e_0, e_1⟩ := Hrow.out _ hX.2; clear hX; rw [Hzz.out] at e_0; go_simp) hHeld ?_
      simp only [Act.put, List.setIfInBounds_toArray, List.set_cons_zero, List.set_cons_succ]
      refine takeH 9 22 u4 rfl rfl (by kernel_rfl) (by kernel_rfl) (by kernel_rfl) (fun _ _ _ h => h) (by kernel_rfl) (fun X hX => by clear hX; first | rfl | go_simp) hHeld ?_
      simp only [Act.put, List.setIfInBounds_toArray, List.set_cons_zero, List.set_cons_succ]
      refine takeH 10 23 (.pointer (some ⟨G, 7, none⟩)) rfl rfl (by kernel_rfl) (by kernel_rfl) (by kernel_rfl) (fun _ _ _ h => h) (by kernel_rfl) (fun X hX => by clear hX; first | rfl | go_simp) hHeld ?_
      simp only [Act.put, List.setIfInBounds_toArray, List.set_cons_zero, List.set_cons_succ]
      refine takeH 11 24 (.slice x.r3 x.cl.length x.c3) rfl rfl (by kernel_rfl) (by kernel_rfl) (by kernel_rfl) (fun _ _ _ h => h) (by kernel_rfl) (fun X hX => by obtain ⟨p0, p1, p2, p3, p4, p5, p6, p7, p8, p9, p10, p11, p12, p13, p14⟩ := Hcell.out _ hX; clear hX; go_simp) hHeld ?_
      simp only [Act.put, List.setIfInBounds_toArray, List.set_cons_zero, List.set_cons_succ]
      refine takeH 12 25 (.int .i64 (x.cl.length : Nat)) rfl rfl (by kernel_rfl) (by kernel_rfl) (by kernel_rfl) (fun _ _ _ h => h) (by kernel_rfl) (fun X hX => by clear hX; first | rfl | go_simp) hHeld ?_
      simp only [Act.put, List.setIfInBounds_toArray, List.set_cons_zero, List.set_cons_succ]
      refine takeH 13 26 (.pointer (some ⟨G, 8, none⟩)) rfl rfl (by kernel_rfl) (by kernel_rfl) (by kernel_rfl) (fun _ _ _ h => h) (by kernel_rfl) (fun X hX => by clear hX; first | rfl | go_simp) hHeld ?_
      simp only [Act.put, List.setIfInBounds_toArray, List.set_cons_zero, List.set_cons_succ]
      refine takeH 14 27 (.slice (some ad) N x.c4) rfl rfl (by kernel_rfl) (by kernel_rfl) (by kernel_rfl) (fun _ _ _ h => h) (by kernel_rfl) (fun X hX => by obtain ⟨p0, p1, p2, p3, p4, p5, p6, p7, p8, p9, p10, p11, p12, p13, p14⟩ := Hcell.out _ hX; rw [hN, e0] at p8; clear hX; go_simp) hHeld ?_
      simp only [Act.put, List.setIfInBounds_toArray, List.set_cons_zero, List.set_cons_succ]
      refine takeH 15 28 (.int .i64 i) rfl rfl (by kernel_rfl) (by kernel_rfl) (by kernel_rfl) (fun _ _ _ h => h) (by kernel_rfl) (fun X hX => by clear hX; first | rfl | go_simp) hHeld ?_
      simp only [Act.put, List.setIfInBounds_toArray, List.set_cons_zero, List.set_cons_succ]
      refine takeH 16 29 (.pointer (some (ad.add (i * 2)))) rfl rfl (by kernel_rfl) (by kernel_rfl) (by kernel_rfl) (fun _ _ _ h => h) (by kernel_rfl) (fun X hX => by clear hX; first | rfl | go_simp) hHeld ?_
      simp only [Act.put, List.setIfInBounds_toArray, List.set_cons_zero, List.set_cons_succ]
      refine takeH 17 30 (.agg #[txt y.x.n, .slice y.a y.x.ws.length y.c]) rfl rfl (by kernel_rfl) (by kernel_rfl) (by kernel_rfl) (fun _ _ _ h => h) (by kernel_rfl) (fun X hX => by obtain ⟨e_0, e_1⟩ := Hrow.out _ hX.2; clear hX; go_simp) hHeld ?_
      simp only [Act.put, List.setIfInBounds_toArray, List.set_cons_zero, List.set_cons_succ]
      obtain ⟨D, U0, hD, hU0, K1, hb1⟩ := KM.out.one [txt z] 9
      have KD := hid K1.out.drew
      have O1 := hid ((own_below HO1.out hb1).drew)
      have O2 := hid ((own_below HO2.out hb1).drew)
      have hsz := HBw.out _ KM.out
      refine wpAnyH_ready (rs := [7]) (by kernel_rfl) (by simp) ?_
      refine AllReadyH.cons rfl (fun KK hK => ?_) AllReadyH.nil
      simp only [List.getElem_toArray, List.getElem_cons_succ, List.getElem_cons_zero]
      go_simp
      have KS := hid (KD.out.sub (l' := [(G, pbc x, 34)]) (by simp))
      refine hK.out _ _ KS.out (fun hHeld => ?_)
      clear hK KK
      try simp only [Act.put, List.setIfInBounds_toArray, List.set_cons_zero, List.set_cons_succ]
      have hOD := KD.out.at_ (b := D) (cs := [txt z]) (t := 9) (by simp)
      obtain ⟨U, hU⟩ : ∃ U, U0.drew = U := ⟨_, rfl⟩
      rw [hU] at hHeld KS O1 O2 hOD ⊢
      have hB1 := HBw.out _ KS.out
      clear hU hU0 KD K1 hb1 HO1 HO2
      refine wpAnyH_ready (rs := [8]) (by kernel_rfl) (by simp) ?_
      refine AllReadyH.cons rfl (fun KK hK => ?_) AllReadyH.nil
      refine step_append_own rfl (.tmp 13) (.tmp 20) 158 rfl (G + 1) 9 i0 (.string ⟨#[]⟩) 1 16 Tryz.underlying158 hi0 hz0 hz1 hz2 rfl (by decide) u3 _ _ (by rfl) O1.out ⟨D, 0, none⟩ 1 1 [txt z] (by rfl) rfl (ob_one hOD) (by simp [txt, Value.oneCell']) h63 hby1 hB1 ?_
      intro v3 W3 hown3 hgr3
      have bb3 := (Below.refl (G + 1) U).grown hgr3 hB1 (fun k hk => (O1.out.lt k hk).1)
      have O2b := hid (O2.out.kept hgr3 (own_typed O1.out O2.out (by decide)))
      have O1b : Hid (W3.ownsRow (G + 1) 9 1 v3 (i + 1) ((nm.take (i + 1)).map txt)) := hid (by rw [Hn1.out, List.map_append]; exact hown3)
      have K3 : Hid (Mem w W3 [(G, pbc x, 34)]) := hid ⟨fun p hp => (KS.out.1 p hp).below bb3 (by simp only [List.mem_cons, List.not_mem_nil, or_false] at hp; rcases hp with rfl; show G < G + 1; omega), KS.out.2.trans (bb3.mono (by have := HGw.out; omega))⟩
      clear hown3 hgr3 bb3 O1 O2 KS hOD
      refine hK.out _ _ K3.out (fun hHeld => ?_)
      clear hK KK
      try simp only [Act.put, List.setIfInBounds_toArray]
      refine wpAnyH_ready (rs := [18]) (by kernel_rfl) (by simp) ?_
      refine AllReadyH.cons rfl (fun KK hK => ?_) AllReadyH.nil
      simp only [List.getElem_toArray, List.getElem_cons_succ, List.getElem_cons_zero]
      go_simp
      refine (HCy.out _ K3.out.2).mono ?_
      rintro e Y ⟨rfl, bz⟩
      have K4 := hid (K3.out.next bz)
      have O1c := hid (own_below O1b.out bz)
      have O2c := hid (own_below O2b.out bz)
      clear bz O1b O2b K3
      refine hK.out _ _ K4.out (fun hHeld => ?_)
      clear hK KK
      try simp only [Act.put, List.setIfInBounds_toArray, List.set_cons_zero, List.set_cons_succ]
      obtain ⟨E, V0, hE, hV0, K5, hb5⟩ := K4.out.one [.bool q] 4
      have O1d := hid (own_below O1c.out hb5)
      have O2d := hid (own_below O2c.out hb5)
      refine wpAnyH_ready (rs := [19]) (by kernel_rfl) (by simp) ?_
      refine AllReadyH.cons rfl (fun KK hK => ?_) AllReadyH.nil
      simp only [List.getElem_toArray, List.getElem_cons_succ, List.getElem_cons_zero]
      go_simp
      have KS5 := hid (K5.out.sub (l' := [(G, pbc x, 34)]) (by simp))
      refine hK.out _ _ KS5.out (fun hHeld => ?_)
      clear hK KK
      try simp only [Act.put, List.setIfInBounds_toArray, List.set_cons_zero, List.set_cons_succ]
      have hOE := K5.out.at_ (b := E) (cs := [.bool q]) (t := 4) (by simp)
      have hB5 := HBw.out _ KS5.out
      clear hV0 K5 hb5 O1c O2c K4
      refine wpAnyH_ready (rs := [20]) (by kernel_rfl) (by simp) ?_
      refine AllReadyH.cons rfl (fun KK hK => ?_) AllReadyH.nil
      refine step_append_own rfl (.tmp 22) (.tmp 32) 159 rfl (G + 1) 4 j0 (.bool false) 1 1 Tryz.underlying159 hj0 hy0 hy1 hy2 rfl (by decide) u4 _ _ (by rfl) O2d.out ⟨E, 0, none⟩ 1 1 [.bool q] (by rfl) rfl (ob_one hOE) (by simp [Value.oneCell']) h63 hby2 hB5 ?_
      intro v4 W4 hown4 hgr4
      have bb4 := (Below.refl (G + 1) V0).grown hgr4 hB5 (fun k hk => (O2d.out.lt k hk).1)
      have O1e := hid (O1d.out.kept hgr4 (own_typed O2d.out O1d.out (by decide)))
      have O2e : Hid (W4.ownsRow (G + 1) 4 1 v4 (i + 1) ((rt.take (i + 1)).map Value.bool)) := hid (by rw [Hr1.out, List.map_append]; exact hown4)
      have K6 : Hid (Mem w W4 [(G, pbc x, 34)]) := hid ⟨fun p hp => (KS5.out.1 p hp).below bb4 (by simp only [List.mem_cons, List.not_mem_nil, or_false] at hp; rcases hp with rfl; show G < G + 1; omega), KS5.out.2.trans (bb4.mono (by have := HGw.out; omega))⟩
      clear hown4 hgr4 bb4 O1d O2d KS5 hOE
      refine hK.out _ _ K6.out (fun hHeld => ?_)
      clear hK KK
      try simp only [Act.put, List.setIfInBounds_toArray]
      refine wpAnyH_ready (rs := [21]) (by kernel_rfl) (by simp) ?_
      refine AllReadyH.cons rfl (fun KK hK => ?_) AllReadyH.nil
      simp only [List.getElem_toArray, List.getElem_cons_succ, List.getElem_cons_zero]
      go_simp
      refine hK.out _ _ K6.out (fun hHeld => ?_)
      clear hK KK
      try simp only [Act.put, List.setIfInBounds_toArray, List.set_cons_zero, List.set_cons_succ]
      refine wpAnyH_ready (rs := [22]) (by kernel_rfl) (by simp) ?_
      refine AllReadyH.cons rfl (fun KK hK => ?_) AllReadyH.nil
      simp only [List.getElem_toArray, List.getElem_cons_succ, List.getElem_cons_zero]
      go_simp
      refine hK.out _ _ K6.out (fun hHeld => ?_)
      clear hK KK
      try simp only [Act.put, List.setIfInBounds_toArray, List.set_cons_zero, List.set_cons_succ]
      refine wpAnyH_done (by kernel_rfl) ?_ _
      clear hHeld
      go_wp2_with fail
      exact ⟨⟨i + 1, by go_num, by omega, O1e, O2e, K6⟩, by simp [intOf]; omega⟩
    · obtain rfl : i = N := by omega
      have i2 : ¬ (i : Int) < (i : Int) := by omega
      rw [List.take_of_length_le (by omega)] at HO1 HO2
      obtain ⟨An, cn, rfl, hrn, _⟩ := own_rdV (by rw [List.length_map, hln]) HO1.out
      obtain ⟨Ar, cr, rfl, hrr, _⟩ := own_rdV (by rw [List.length_map, hlr]) HO2.out
      have Hf1 := hid (fun h h2 => Hfin.out An Ar cn cr wr h h2)
      rw [hln, hlr] at Hf1
      have Hrn := hid hrn
      have Hrr := hid hrr
      clear hrn hrr HO1 HO2
      go_wp2_with fail
      refine (Hf1.out Hrn.out Hrr.out).mono ?_
      rintro e Y ⟨rfl, bz⟩
      have K6 := hid (KM.out.next bz)
      go_wp2_with fail
      go_ret
      exact Did.mk rfl K6.out.2
set_option maxRecDepth 20000 in
set_option maxHeartbeats 8000000 in
theorem r17_students (x : PbA) (w : World) (h : PbIn w x) (hf : x.st.length ≤ 1000) : Calls Tryz.prog 55 #[pbv x] w (Did (.int .i64 (fst17 (x.st.map fun y => y.x.n) (x.st.map fun y => stB (x.cs.length : Nat) y.x) 200)) w) := by
  have HC := hid (fun (y : StA) (hy : y ∈ x.st) X (hb : Below w.heap.size w X) => show Calls Tryz.prog 145 #[.int .i64 (x.cs.length : Nat), stv y.x y.a y.c] X (Did (.bool (stB (x.cs.length : Nat) y.x)) X) from by
    exact r17_student _ y X ((h.stI y hy).upto hb))
  have Hfin := hid (fun A A2 c c2 X h h2 => r17_first (x.st.map fun y => y.x.n) (x.st.map fun y => stB (x.cs.length : Nat) y.x) 200 (by rw [List.length_map, List.length_map]) (by rw [List.length_map]; omega) A A2 c c2 X h h2)
  have Hnm := hid (fun i y (h : x.st[i]? = some y) => take_map (fun y => y.x.n) h)
  have Hrt := hid (fun i y (h : x.st[i]? = some y) => take_map (fun y => stB (x.cs.length : Nat) y.x) h)
  have hln : (x.st.map fun y => y.x.n).length = x.st.length := List.length_map ..
  have hlr : (x.st.map fun y => stB (x.cs.length : Nat) y.x).length = x.st.length := List.length_map ..
  have H := hid h.st
  have HI := hid h
  generalize fst17 (x.st.map fun y => y.x.n) (x.st.map fun y => stB (x.cs.length : Nat) y.x) 200 = rr at *
  generalize (x.st.map fun y => y.x.n) = nm at *
  generalize (x.st.map fun y => stB (x.cs.length : Nat) y.x) = rt at *
  obtain ⟨N, hN⟩ : ∃ N, x.st.length = N := ⟨_, rfl⟩
  rw [hN] at hln hlr hf
  obtain ⟨G, W, hG, hW, K, hb0⟩ := (Mem.nil w).one (pbc x) 34
  have HGw := hid (show w.heap.size ≤ G by omega)
  have HBw := hid (show ∀ X : World, Mem w X [(G, pbc x, 34)] → G + 1 ≤ X.heap.size from fun X h => (h.at_ (b := G) (cs := pbc x) (t := 34) (by simp)).lt)
  have Hcell := hid (fun X (h : Mem w X [(G, pbc x, 34)]) => h.pb (B := G) (x := x) (t := 34) (by simp))
  have HN := hid hN
  unfold pbc at hW
  rw [hN] at hW
  obtain ⟨i0, hi0, hz0, hz1, hz2⟩ := info_parts Tryz.info_str
  obtain ⟨j0, hj0, hy0, hy1, hy2⟩ := info_parts Tryz.info_bl
  clear h hb0
  go_enter Tryz.func55, Tryz.ntmps55
  go_wp2_with fail
  go_loopw [3, 4, 5] (fun nv rv iv wr => ∃ i : Nat, iv = .int .i64 i ∧ i ≤ N ∧ Hid (wr.ownsRow (G + 1) 9 1 nv i ((nm.take i).map txt)) ∧ Hid (wr.ownsRow (G + 1) 4 1 rv i ((rt.take i).map Value.bool)) ∧ Hid (Mem w wr [(G, pbc x, 34)])) (fun _ _ iv _ => N - (intOf iv).toNat)
  case atStart => exact ⟨0, rfl, Nat.zero_le _, hid (by rw [List.take_zero]; exact World.ownsRow_nil W (G + 1) 9 1), hid (by rw [List.take_zero]; exact World.ownsRow_nil W (G + 1) 4 1), K⟩
  case round =>
    clear K hW
    obtain ⟨i, rfl, hi, HO1, HO2, KM⟩ := hrel
    obtain ⟨p0, p1, p2, p3, p4, p5, p6, p7, p8, p9, p10, p11, p12, p13, p14⟩ := Hcell.out _ KM.out
    rw [hN] at p9
    by_cases hlt : i < N
    · obtain ⟨ad, y, e0, had, hy, hyl, _⟩ := Es.get enS_len (by decide) H.out (k := i) (by rw [hN]; exact hlt)
      have Hrow := hid (fun X (hb : Below w.heap.size w X) => (show X.cell? (ad.add (i * 2)) = some (txt y.x.n) ∧ X.cell? ⟨(ad.add (i * 2)).block, (ad.add (i * 2)).off + 1, none⟩ = some (.slice y.a y.x.l.length y.c) from by
        have hq := H.out.below hb (Nat.le_refl _)
        rw [e0] at hq
        exact ⟨es_at enS_len hq hy.out 0 _ rfl, es_fld enS_len hq hy.out 1 (by decide) _ rfl⟩))
      rw [e0] at p9
      have i1 : (0 : Int) ≤ (i : Int) := by omega
      have i2 : (i : Int) < (N : Int) := by omega
      have HCy := hid (HC.out y hyl)
      have Hn1 := hid (Hnm.out i y hy.out)
      have Hr1 := hid (Hrt.out i y hy.out)
      obtain ⟨z, hz⟩ : ∃ z, y.x.n = z := ⟨_, rfl⟩
      obtain ⟨q, hq⟩ : ∃ q, stB (x.cs.length : Nat) y.x = q := ⟨_, rfl⟩
      rw [hz] at Hn1
      rw [hq] at Hr1 HCy
      have Hzz := hid hz
      have h63 : i + 1 ≤ maxLen := by unfold maxLen; omega
      have hby1 : (i + 1) * 16 ≤ 140737488355328 := by omega
      have hby2 : (i + 1) * 1 ≤ 140737488355328 := by omega
      clear hz hq p0 p1 p2 p3 p4 p5 p6 p7 p8 p9 p10 p11 p12 p13 p14
      obtain ⟨p0, p1, p2, p3, p4, p5, p6, p7, p8, p9, p10, p11, p12, p13, p14⟩ := Hcell.out _ KM.out
      rw [hN] at p9
      go_upto_region 6 with fail
      refine wp_region_held_drew (S := fun X => Mem w X [(G, pbc x, 34)]) (by kernel_rfl) KM.out.drew (fun hHeld => ?_)
      refine takeH 0 13 u3 rfl rfl (by kernel_rfl) (by kernel_rfl) (by kernel_rfl) (fun _ _ _ h => h) (by kernel_rfl) (fun X hX => by clear hX; first | rfl | go_simp) hHeld ?_
      simp only [Act.put, List.setIfInBounds_toArray, List.set_cons_zero, List.set_cons_succ]
      refine takeH 1 14 (.pointer (some ⟨G, 9, none⟩)) rfl rfl (by kernel_rfl) (by kernel_rfl) (by kernel_rfl) (fun _ _ _ h => h) (by kernel_rfl) (fun X hX => by clear hX; first | rfl | go_simp) hHeld ?_
      simp only [Act.put, List.setIfInBounds_toArray, List.set_cons_zero, List.set_cons_succ]
      refine takeH 2 15 (.slice (some ad) N x.c5) rfl rfl (by kernel_rfl) (by kernel_rfl) (by kernel_rfl) (fun _ _ _ h => h) (by kernel_rfl) (fun X hX => by obtain ⟨p0, p1, p2, p3, p4, p5, p6, p7, p8, p9, p10, p11, p12, p13, p14⟩ := Hcell.out _ hX; rw [hN, e0] at p9; clear hX; go_simp) hHeld ?_
      simp only [Act.put, List.setIfInBounds_toArray, List.set_cons_zero, List.set_cons_succ]
      refine takeH 3 16 (.int .i64 i) rfl rfl (by kernel_rfl) (by kernel_rfl) (by kernel_rfl) (fun _ _ _ h => h) (by kernel_rfl) (fun X hX => by clear hX; first | rfl | go_simp) hHeld ?_
      simp only [Act.put, List.setIfInBounds_toArray, List.set_cons_zero, List.set_cons_succ]
      refine takeH 4 17 (.pointer (some (ad.add (i * 2)))) rfl rfl (by kernel_rfl) (by kernel_rfl) (by kernel_rfl) (fun _ _ _ h => h) (by kernel_rfl) (fun X hX => by clear hX; first | rfl | go_simp) hHeld ?_
      simp only [Act.put, List.setIfInBounds_toArray, List.set_cons_zero, List.set_cons_succ]
      refine takeH 5 18 (.pointer (some (ad.add (i * 2)))) rfl rfl (by kernel_rfl) (by kernel_rfl) (by kernel_rfl) (fun _ _ _ h => h) (by kernel_rfl) (fun X hX => by clear hX; first | rfl | go_simp) hHeld ?_
      simp only [Act.put, List.setIfInBounds_toArray, List.set_cons_zero, List.set_cons_succ]
      refine takeH 6 19 (txt z) rfl rfl (by kernel_rfl) (by kernel_rfl) (by kernel_rfl) (fun _ _ _ h => h) (by kernel_rfl) (fun X hX => by obtain ⟨e_0, e_1⟩ := Hrow.out _ hX.2; clear hX; rw [Hzz.out] at e_0; go_simp) hHeld ?_
      simp only [Act.put, List.setIfInBounds_toArray, List.set_cons_zero, List.set_cons_succ]
      refine takeH 9 22 u4 rfl rfl (by kernel_rfl) (by kernel_rfl) (by kernel_rfl) (fun _ _ _ h => h) (by kernel_rfl) (fun X hX => by clear hX; first | rfl | go_simp) hHeld ?_
      simp only [Act.put, List.setIfInBounds_toArray, List.set_cons_zero, List.set_cons_succ]
      refine takeH 10 23 (.pointer (some ⟨G, 8, none⟩)) rfl rfl (by kernel_rfl) (by kernel_rfl) (by kernel_rfl) (fun _ _ _ h => h) (by kernel_rfl) (fun X hX => by clear hX; first | rfl | go_simp) hHeld ?_
      simp only [Act.put, List.setIfInBounds_toArray, List.set_cons_zero, List.set_cons_succ]
      refine takeH 11 24 (.slice x.r4 x.cs.length x.c4) rfl rfl (by kernel_rfl) (by kernel_rfl) (by kernel_rfl) (fun _ _ _ h => h) (by kernel_rfl) (fun X hX => by obtain ⟨p0, p1, p2, p3, p4, p5, p6, p7, p8, p9, p10, p11, p12, p13, p14⟩ := Hcell.out _ hX; clear hX; go_simp) hHeld ?_
      simp only [Act.put, List.setIfInBounds_toArray, List.set_cons_zero, List.set_cons_succ]
      refine takeH 12 25 (.int .i64 (x.cs.length : Nat)) rfl rfl (by kernel_rfl) (by kernel_rfl) (by kernel_rfl) (fun _ _ _ h => h) (by kernel_rfl) (fun X hX => by clear hX; first | rfl | go_simp) hHeld ?_
      simp only [Act.put, List.setIfInBounds_toArray, List.set_cons_zero, List.set_cons_succ]
      refine takeH 13 26 (.pointer (some ⟨G, 9, none⟩)) rfl rfl (by kernel_rfl) (by kernel_rfl) (by kernel_rfl) (fun _ _ _ h => h) (by kernel_rfl) (fun X hX => by clear hX; first | rfl | go_simp) hHeld ?_
      simp only [Act.put, List.setIfInBounds_toArray, List.set_cons_zero, List.set_cons_succ]
      refine takeH 14 27 (.slice (some ad) N x.c5) rfl rfl (by kernel_rfl) (by kernel_rfl) (by kernel_rfl) (fun _ _ _ h => h) (by kernel_rfl) (fun X hX => by obtain ⟨p0, p1, p2, p3, p4, p5, p6, p7, p8, p9, p10, p11, p12, p13, p14⟩ := Hcell.out _ hX; rw [hN, e0] at p9; clear hX; go_simp) hHeld ?_
      simp only [Act.put, List.setIfInBounds_toArray, List.set_cons_zero, List.set_cons_succ]
      refine takeH 15 28 (.int .i64 i) rfl rfl (by kernel_rfl) (by kernel_rfl) (by kernel_rfl) (fun _ _ _ h => h) (by kernel_rfl) (fun X hX => by clear hX; first | rfl | go_simp) hHeld ?_
      simp only [Act.put, List.setIfInBounds_toArray, List.set_cons_zero, List.set_cons_succ]
      refine takeH 16 29 (.pointer (some (ad.add (i * 2)))) rfl rfl (by kernel_rfl) (by kernel_rfl) (by kernel_rfl) (fun _ _ _ h => h) (by kernel_rfl) (fun X hX => by clear hX; first | rfl | go_simp) hHeld ?_
      simp only [Act.put, List.setIfInBounds_toArray, List.set_cons_zero, List.set_cons_succ]
      refine takeH 17 30 (.agg #[txt y.x.n, .slice y.a y.x.l.length y.c]) rfl rfl (by kernel_rfl) (by kernel_rfl) (by kernel_rfl) (fun _ _ _ h => h) (by kernel_rfl) (fun X hX => by obtain ⟨e_0, e_1⟩ := Hrow.out _ hX.2; clear hX; go_simp) hHeld ?_
      simp only [Act.put, List.setIfInBounds_toArray, List.set_cons_zero, List.set_cons_succ]
      obtain ⟨D, U0, hD, hU0, K1, hb1⟩ := KM.out.one [txt z] 9
      have KD := hid K1.out.drew
      have O1 := hid ((own_below HO1.out hb1).drew)
      have O2 := hid ((own_below HO2.out hb1).drew)
      have hsz := HBw.out _ KM.out
      refine wpAnyH_ready (rs := [7]) (by kernel_rfl) (by simp) ?_
      refine AllReadyH.cons rfl (fun KK hK => ?_) AllReadyH.nil
      simp only [List.getElem_toArray, List.getElem_cons_succ, List.getElem_cons_zero]
      go_simp
      have KS := hid (KD.out.sub (l' := [(G, pbc x, 34)]) (by simp))
      refine hK.out _ _ KS.out (fun hHeld => ?_)
      clear hK KK
      try simp only [Act.put, List.setIfInBounds_toArray, List.set_cons_zero, List.set_cons_succ]
      have hOD := KD.out.at_ (b := D) (cs := [txt z]) (t := 9) (by simp)
      obtain ⟨U, hU⟩ : ∃ U, U0.drew = U := ⟨_, rfl⟩
      rw [hU] at hHeld KS O1 O2 hOD ⊢
      have hB1 := HBw.out _ KS.out
      clear hU hU0 KD K1 hb1 HO1 HO2
      refine wpAnyH_ready (rs := [8]) (by kernel_rfl) (by simp) ?_
      refine AllReadyH.cons rfl (fun KK hK => ?_) AllReadyH.nil
      refine step_append_own rfl (.tmp 13) (.tmp 20) 158 rfl (G + 1) 9 i0 (.string ⟨#[]⟩) 1 16 Tryz.underlying158 hi0 hz0 hz1 hz2 rfl (by decide) u3 _ _ (by rfl) O1.out ⟨D, 0, none⟩ 1 1 [txt z] (by rfl) rfl (ob_one hOD) (by simp [txt, Value.oneCell']) h63 hby1 hB1 ?_
      intro v3 W3 hown3 hgr3
      have bb3 := (Below.refl (G + 1) U).grown hgr3 hB1 (fun k hk => (O1.out.lt k hk).1)
      have O2b := hid (O2.out.kept hgr3 (own_typed O1.out O2.out (by decide)))
      have O1b : Hid (W3.ownsRow (G + 1) 9 1 v3 (i + 1) ((nm.take (i + 1)).map txt)) := hid (by rw [Hn1.out, List.map_append]; exact hown3)
      have K3 : Hid (Mem w W3 [(G, pbc x, 34)]) := hid ⟨fun p hp => (KS.out.1 p hp).below bb3 (by simp only [List.mem_cons, List.not_mem_nil, or_false] at hp; rcases hp with rfl; show G < G + 1; omega), KS.out.2.trans (bb3.mono (by have := HGw.out; omega))⟩
      clear hown3 hgr3 bb3 O1 O2 KS hOD
      refine hK.out _ _ K3.out (fun hHeld => ?_)
      clear hK KK
      try simp only [Act.put, List.setIfInBounds_toArray]
      refine wpAnyH_ready (rs := [18]) (by kernel_rfl) (by simp) ?_
      refine AllReadyH.cons rfl (fun KK hK => ?_) AllReadyH.nil
      simp only [List.getElem_toArray, List.getElem_cons_succ, List.getElem_cons_zero]
      go_simp
      refine (HCy.out _ K3.out.2).mono ?_
      rintro e Y ⟨rfl, bz⟩
      have K4 := hid (K3.out.next bz)
      have O1c := hid (own_below O1b.out bz)
      have O2c := hid (own_below O2b.out bz)
      clear bz O1b O2b K3
      refine hK.out _ _ K4.out (fun hHeld => ?_)
      clear hK KK
      try simp only [Act.put, List.setIfInBounds_toArray, List.set_cons_zero, List.set_cons_succ]
      obtain ⟨E, V0, hE, hV0, K5, hb5⟩ := K4.out.one [.bool q] 4
      have O1d := hid (own_below O1c.out hb5)
      have O2d := hid (own_below O2c.out hb5)
      refine wpAnyH_ready (rs := [19]) (by kernel_rfl) (by simp) ?_
      refine AllReadyH.cons rfl (fun KK hK => ?_) AllReadyH.nil
      simp only [List.getElem_toArray, List.getElem_cons_succ, List.getElem_cons_zero]
      go_simp
      have KS5 := hid (K5.out.sub (l' := [(G, pbc x, 34)]) (by simp))
      refine hK.out _ _ KS5.out (fun hHeld => ?_)
      clear hK KK
      try simp only [Act.put, List.setIfInBounds_toArray, List.set_cons_zero, List.set_cons_succ]
      have hOE := K5.out.at_ (b := E) (cs := [.bool q]) (t := 4) (by simp)
      have hB5 := HBw.out _ KS5.out
      clear hV0 K5 hb5 O1c O2c K4
      refine wpAnyH_ready (rs := [20]) (by kernel_rfl) (by simp) ?_
      refine AllReadyH.cons rfl (fun KK hK => ?_) AllReadyH.nil
      refine step_append_own rfl (.tmp 22) (.tmp 32) 159 rfl (G + 1) 4 j0 (.bool false) 1 1 Tryz.underlying159 hj0 hy0 hy1 hy2 rfl (by decide) u4 _ _ (by rfl) O2d.out ⟨E, 0, none⟩ 1 1 [.bool q] (by rfl) rfl (ob_one hOE) (by simp [Value.oneCell']) h63 hby2 hB5 ?_
      intro v4 W4 hown4 hgr4
      have bb4 := (Below.refl (G + 1) V0).grown hgr4 hB5 (fun k hk => (O2d.out.lt k hk).1)
      have O1e := hid (O1d.out.kept hgr4 (own_typed O2d.out O1d.out (by decide)))
      have O2e : Hid (W4.ownsRow (G + 1) 4 1 v4 (i + 1) ((rt.take (i + 1)).map Value.bool)) := hid (by rw [Hr1.out, List.map_append]; exact hown4)
      have K6 : Hid (Mem w W4 [(G, pbc x, 34)]) := hid ⟨fun p hp => (KS5.out.1 p hp).below bb4 (by simp only [List.mem_cons, List.not_mem_nil, or_false] at hp; rcases hp with rfl; show G < G + 1; omega), KS5.out.2.trans (bb4.mono (by have := HGw.out; omega))⟩
      clear hown4 hgr4 bb4 O1d O2d KS5 hOE
      refine hK.out _ _ K6.out (fun hHeld => ?_)
      clear hK KK
      try simp only [Act.put, List.setIfInBounds_toArray]
      refine wpAnyH_ready (rs := [21]) (by kernel_rfl) (by simp) ?_
      refine AllReadyH.cons rfl (fun KK hK => ?_) AllReadyH.nil
      simp only [List.getElem_toArray, List.getElem_cons_succ, List.getElem_cons_zero]
      go_simp
      refine hK.out _ _ K6.out (fun hHeld => ?_)
      clear hK KK
      try simp only [Act.put, List.setIfInBounds_toArray, List.set_cons_zero, List.set_cons_succ]
      refine wpAnyH_ready (rs := [22]) (by kernel_rfl) (by simp) ?_
      refine AllReadyH.cons rfl (fun KK hK => ?_) AllReadyH.nil
      simp only [List.getElem_toArray, List.getElem_cons_succ, List.getElem_cons_zero]
      go_simp
      refine hK.out _ _ K6.out (fun hHeld => ?_)
      clear hK KK
      try simp only [Act.put, List.setIfInBounds_toArray, List.set_cons_zero, List.set_cons_succ]
      refine wpAnyH_done (by kernel_rfl) ?_ _
      clear hHeld
      go_wp2_with fail
      exact ⟨⟨i + 1, by go_num, by omega, O1e, O2e, K6⟩, by simp [intOf]; omega⟩
    · obtain rfl : i = N := by omega
      have i2 : ¬ (i : Int) < (i : Int) := by omega
      rw [List.take_of_length_le (by omega)] at HO1 HO2
      obtain ⟨An, cn, rfl, hrn, _⟩ := own_rdV (by rw [List.length_map, hln]) HO1.out
      obtain ⟨Ar, cr, rfl, hrr, _⟩ := own_rdV (by rw [List.length_map, hlr]) HO2.out
      have Hf1 := hid (fun h h2 => Hfin.out An Ar cn cr wr h h2)
      rw [hln, hlr] at Hf1
      have Hrn := hid hrn
      have Hrr := hid hrr
      clear hrn hrr HO1 HO2
      go_wp2_with fail
      refine (Hf1.out Hrn.out Hrr.out).mono ?_
      rintro e Y ⟨rfl, bz⟩
      have K6 := hid (KM.out.next bz)
      go_wp2_with fail
      go_ret
      exact Did.mk rfl K6.out.2
end Go.Proofs.YtgmgccepmalahaaGreat
