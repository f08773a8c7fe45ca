/- Layer 6's code: fork, leanLeft, leanRight, balance. -/
import Derived.Test.YtbkabjnklipmjaaTrA
namespace Go.Proofs.Ytbkabjnklipmjaa
open Go.RowKit Go.Shelf
open Tbm (Kv Tr)

/-- hands out a node over this tree -/
def FkRet (G : Nat → Prop) (T : Tr) (w : World) (e : Ending) (w' : World) : Prop := ∃ b, e = .returned (ptr b) ∧ IsTr G w' (some ⟨b, 0, none⟩) T ∧ Below w.heap.size w w'
theorem FkRet.mk {G : Nat → Prop} {w W : World} {pl pr : Option Addr} {l r : Tr} {k v : List UInt8} {z : Int} (hG : ∀ b, w.heap.size ≤ b → G b) (hl : IsTr G w pl l) (hr : IsTr G w pr r) (hz : z = ((l.flat.length + 1 + r.flat.length : Nat) : Int)) (hW : W = (w.alloc (.cells #[txt k, txt v, .int .i64 z, .pointer pl, .pointer pr] 59)).drew) :
    FkRet G (.node l k v r) w (.returned (ptr w.heap.size)) W := by
  subst hz
  subst hW
  have hb := ((Below.refl w.heap.size w).alloc (Nat.le_refl _) (.cells #[txt k, txt v, .int .i64 ((l.flat.length + 1 + r.flat.length : Nat) : Int), .pointer pl, .pointer pr] 59)).drew
  exact ⟨_, rfl, ⟨_, pl, pr, rfl, hG _ (Nat.le_refl _), World.alloc_heap_new w _, hl.below hb, hr.below hb⟩, hb⟩
theorem wrap_small {z : Int} (h1 : -9223372036854775808 ≤ z) (h2 : z < 9223372036854775808) : IntKind.i64.wrap z = z := by rw [IntKind.wrap_i64]; omega
set_option maxRecDepth 20000 in
set_option maxHeartbeats 2000000 in
theorem p_fork {G : Nat → Prop} {w : World} {q pl pr : Option Addr} {k v : List UInt8} {l r : Tr} (hG : ∀ b, w.heap.size ≤ b → G b) (hn : NdAt w q k v) (hl : IsTr G w pl l) (hr : IsTr G w pr r) (hs : l.flat.length + r.flat.length ≤ 1000000) :
    Calls Try.prog 37 #[.pointer q, .pointer pl, .pointer pr] w (FkRet G (.node l k v r) w) := by
  have Hl := hid hl
  have Hr := hid hr
  have HG := hid hG
  obtain ⟨b, rfl, hlt, c0, c1⟩ := hn
  have SL := hid (p_size (hl.below (Below.refl w.heap.size w).drew))
  have SR := hid (p_size (hr.below (Below.refl w.heap.size w).drew))
  unfold SzRet at SL SR
  have d0 : w.drew.cell? ⟨b, 0, none⟩ = some (txt k) := c0
  have d1 : w.drew.cell? ⟨b, 1, none⟩ = some (txt v) := c1
  have hS2 := And.intro d0 d1
  obtain ⟨nl, hnl⟩ : ∃ n, l.flat.length = n := ⟨_, rfl⟩
  obtain ⟨nr, hnr⟩ : ∃ n, r.flat.length = n := ⟨_, rfl⟩
  have Hnl := hid hnl
  have Hnr := hid hnr
  rw [hnl, hnr] at hs
  rw [hnl] at SL
  rw [hnr] at SR
  clear hl hr hG hnl hnr
  go_enter Try.func37, Try.ntmps37
  go_wp2_with fail
  go_region_held3 (fun X => X.cell? ⟨b, 0, none⟩ = some (txt k) ∧ X.cell? ⟨b, 1, none⟩ = some (txt v)) (first | exact hS2 | go_keep) (first
    | (go_at_call 29; with_reducible refine (SL.out).mono ?_; rintro e w' ⟨rfl, rfl⟩)
    | (go_at_call 29; with_reducible refine (SR.out).mono ?_; rintro e w' ⟨rfl, rfl⟩))
  all_goals
    go_wp2_with fail
    go_ret
    exact FkRet.mk HG.out Hl.out Hr.out (by rw [Hnl.out, Hnr.out, wrap_small, wrap_small] <;> (try rw [wrap_small]) <;> omega) rfl

/-- hands out a tree over these pairs -/
def BalRet (G : Nat → Prop) (m : List Kv) (w : World) (e : Ending) (w' : World) : Prop := ∃ b T, e = .returned (ptr b) ∧ T.flat = m ∧ IsTr G w' (some ⟨b, 0, none⟩) T ∧ Below w.heap.size w w'
theorem below_dr (w : World) : Below w.heap.size w w.drew := (Below.refl _ w).drew
theorem cell_lt {w : World} {b o : Nat} {v : Value} (h : w.cell? ⟨b, o, none⟩ = some v) : b < w.heap.size := World.block_lt_of_cell? _ _ h
theorem keep2 {X X' : World} {b o b' o' : Nat} {u u' : Value} (h : X.cell? ⟨b, o, none⟩ = some u ∧ X.cell? ⟨b', o', none⟩ = some u') (hb : Below X.heap.size X X') : X'.cell? ⟨b, o, none⟩ = some u ∧ X'.cell? ⟨b', o', none⟩ = some u' :=
  ⟨(hb.cell (p := ⟨b, o, none⟩) (cell_lt h.1)).trans h.1, (hb.cell (p := ⟨b', o', none⟩) (cell_lt h.2)).trans h.2⟩
set_option maxRecDepth 20000 in
set_option maxHeartbeats 4000000 in
theorem p_leanLeft {G : Nat → Prop} {w : World} {q pl pr : Option Addr} {k v : List UInt8} {l r : Tr} (hG : ∀ b, w.heap.size ≤ b → G b) (hn : NdAt w q k v) (hl : IsTr G w pl l) (hr : IsTr G w pr r) (hs : l.flat.length + r.flat.length ≤ 900000) (hne : r.flat ≠ []) :
    Calls Try.prog 35 #[.pointer q, .pointer pl, .pointer pr] w (BalRet G (l.flat ++ (k, v) :: r.flat) w) := by
  obtain ⟨rl, rk, rv, rr, br, pi, po, rfl, rfl, hGr, hbr, hi, ho⟩ := hr.node_of hne
  obtain ⟨c0, c1, _, c3, c4⟩ := nd_cells hbr
  have hnr : NdAt w (some ⟨br, 0, none⟩) rk rv := ⟨br, rfl, lt_of_heap hbr, c0, c1⟩
  rw [Tbm.Tr.len_node] at hs
  have Hn := hid hn
  have Hl := hid hl
  have Hi := hid hi
  have Ho := hid ho
  have Hnr := hid hnr
  have HG := hid hG
  have Hs := hid hs
  obtain ⟨ni, hni⟩ : ∃ n, rl.flat.length = n := ⟨_, rfl⟩
  obtain ⟨no, hno⟩ : ∃ n, rr.flat.length = n := ⟨_, rfl⟩
  have Hni := hid hni
  have Hno := hid hno
  rw [hni, hno] at hs
  have hsb : ni ≤ 900000 ∧ no ≤ 900000 := by omega
  obtain ⟨s1, s2⟩ := hsb
  clear hn hl hr hG hi ho hnr hbr hs hni hno hne
  go_enter Try.func35, Try.ntmps35
  go_wp2_with fail
  go_quiet (fail)
  have B1 := hid (below_drewN (Below.refl w.heap.size w) nq)
  generalize w.drewN nq = w1 at *
  have WI := hid (p_weight (Hi.out.below B1.out) (by rw [Hni.out]; omega))
  have WO := hid (p_weight (Ho.out.below B1.out) (by rw [Hno.out]; omega))
  unfold SzRet at WI WO
  rw [Hni.out] at WI
  rw [Hno.out] at WO
  have HG1 := hid (fun b (h : w1.heap.size ≤ b) => HG.out b (Nat.le_trans B1.out.size h))
  clear c0 c1 c3 c4
  by_cases hc : ni + 1 < 2 * (no + 1)
  · have hc1 : ((ni : Int) + 1) < 2 * ((no : Int) + 1) := by omega
    have F1 := hid (p_fork HG1.out (Hn.out.below B1.out) (Hl.out.below B1.out) (Hi.out.below B1.out) (by have := Hs.out; omega))
    unfold FkRet at F1
    clear hc
    go_wp2_with (first
      | (go_at_call 34; with_reducible refine (WI.out).mono ?_; rintro e w' ⟨rfl, rfl⟩)
      | (go_at_call 34; with_reducible refine (WO.out).mono ?_; rintro e w' ⟨rfl, rfl⟩))
    refine (F1.out).mono ?_
    rintro e w2 ⟨b2, rfl, t2, hb2⟩
    have B2 := hid (below2 B1.out hb2)
    have F2 := hid (p_fork (G := G) (fun b (h : w2.heap.size ≤ b) => HG.out b (Nat.le_trans B2.out.size h)) (Hnr.out.below B2.out) t2 (Ho.out.below B2.out) (by have := Hs.out; rw [Tbm.Tr.len_node]; omega))
    unfold FkRet at F2
    clear F1 WI WO
    go_wp2_with fail
    refine (F2.out).mono ?_
    rintro e w3 ⟨b3, rfl, t3, hb3⟩
    go_wp2_with fail
    go_ret
    exact ⟨b3, _, rfl, by simp [Tbm.Tr.flat, List.append_assoc], t3, below2 B2.out hb3⟩
  · have hc1 : 2 * ((no : Int) + 1) ≤ (ni : Int) + 1 := by omega
    have hne : rl.flat ≠ [] := by intro e; have := Hni.out; rw [e] at this; simp at this; omega
    obtain ⟨il, ik, iv, ir, bi, pil, pir, Hrl, rfl, _, hbi, hil, hir⟩ := (Hi.out.below B1.out).node_of hne
    subst Hrl
    obtain ⟨d0, d1, _, d3, d4⟩ := nd_cells hbi
    have hni : NdAt w1 (some ⟨bi, 0, none⟩) ik iv := ⟨bi, rfl, lt_of_heap hbi, d0, d1⟩
    have Hni2 := hid hni
    have Hil := hid hil
    have Hir := hid hir
    have hS2 := And.intro (show w1.drew.cell? ⟨bi, 3, none⟩ = some (.pointer pil) from d3) (show w1.drew.cell? ⟨bi, 4, none⟩ = some (.pointer pir) from d4)
    have bd := hid (below_dr w1)
    have hlen := hid (Tbm.Tr.len_node il ir ik iv)
    clear hc hne hbi hni hil hir d0 d1 d3 d4
    go_wp2_with (first
      | (go_at_call 34; with_reducible refine (WI.out).mono ?_; rintro e w' ⟨rfl, rfl⟩)
      | (go_at_call 34; with_reducible refine (WO.out).mono ?_; rintro e w' ⟨rfl, rfl⟩))
    have F1 := hid (p_fork (G := G) (w := w1.drew) (fun b h => HG1.out b h) ((Hn.out.below B1.out).below bd.out) ((Hl.out.below B1.out).below bd.out) (Hil.out.below bd.out) (by have := Hs.out; have := hlen.out; omega))
    unfold FkRet at F1
    go_region_held3 (fun X => X.cell? ⟨bi, 3, none⟩ = some (.pointer pil) ∧ X.cell? ⟨bi, 4, none⟩ = some (.pointer pir)) (first | exact hS2 | go_keep) (first
      | (go_at_call 37; with_reducible refine (F1.out).mono ?_; rintro e w2 ⟨b2, rfl, t2, hb2⟩; have hS2 := keep2 hS2 hb2; have B2 := below2 bd.out hb2
         have F2 := hid (p_fork (G := G) (w := w2) (fun b h => HG1.out b (Nat.le_trans B2.size h)) ((Hnr.out.below B1.out).below B2) (Hir.out.below B2) ((Ho.out.below B1.out).below B2) (by have := Hs.out; have := hlen.out; omega)); unfold FkRet at F2; clear F1)
      | (go_at_call 37; with_reducible refine (F2.out).mono ?_; rintro e w3 ⟨b3, rfl, t3, hb3⟩; have hS2 := keep2 hS2 hb3; have B3 := below2 B2 hb3
         have F3 := hid (p_fork (G := G) (w := w3) (fun b h => HG1.out b (Nat.le_trans B3.size h)) (Hni2.out.below B3) (t2.below hb3) t3 (by have := Hs.out; have := hlen.out; rw [Tbm.Tr.len_node, Tbm.Tr.len_node]; omega)); unfold FkRet at F3; clear F2)
      | (go_at_call 37; with_reducible refine (F3.out).mono ?_; rintro e w4 ⟨b4, rfl, t4, hb4⟩; have hS2 := keep2 hS2 hb4; clear F3))
    go_wp2_with fail
    go_ret
    exact ⟨b4, _, rfl, by simp [Tbm.Tr.flat, List.append_assoc], t4, below3 B1.out B3 hb4⟩
set_option maxRecDepth 20000 in
set_option maxHeartbeats 4000000 in
theorem p_leanRight {G : Nat → Prop} {w : World} {q pl pr : Option Addr} {k v : List UInt8} {l r : Tr} (hG : ∀ b, w.heap.size ≤ b → G b) (hn : NdAt w q k v) (hl : IsTr G w pl l) (hr : IsTr G w pr r) (hs : l.flat.length + r.flat.length ≤ 900000) (hne : l.flat ≠ []) :
    Calls Try.prog 36 #[.pointer q, .pointer pl, .pointer pr] w (BalRet G (l.flat ++ (k, v) :: r.flat) w) := by
  obtain ⟨rr, rk, rv, rl, br, po, pi, rfl, rfl, hGr, hbr, ho, hi⟩ := hl.node_of hne
  obtain ⟨c0, c1, _, c3, c4⟩ := nd_cells hbr
  have hnr : NdAt w (some ⟨br, 0, none⟩) rk rv := ⟨br, rfl, lt_of_heap hbr, c0, c1⟩
  rw [Tbm.Tr.len_node] at hs
  have Hn := hid hn
  have Hl := hid hr
  have Hi := hid hi
  have Ho := hid ho
  have Hnr := hid hnr
  have HG := hid hG
  have Hs := hid hs
  obtain ⟨ni, hni⟩ : ∃ n, rl.flat.length = n := ⟨_, rfl⟩
  obtain ⟨no, hno⟩ : ∃ n, rr.flat.length = n := ⟨_, rfl⟩
  have Hni := hid hni
  have Hno := hid hno
  rw [hni, hno] at hs
  have hsb : ni ≤ 900000 ∧ no ≤ 900000 := by omega
  obtain ⟨s1, s2⟩ := hsb
  clear hn hl hr hG hi ho hnr hbr hs hni hno hne
  go_enter Try.func36, Try.ntmps36
  go_wp2_with fail
  go_quiet (fail)
  have B1 := hid (below_drewN (Below.refl w.heap.size w) nq)
  generalize w.drewN nq = w1 at *
  have WI := hid (p_weight (Hi.out.below B1.out) (by rw [Hni.out]; omega))
  have WO := hid (p_weight (Ho.out.below B1.out) (by rw [Hno.out]; omega))
  unfold SzRet at WI WO
  rw [Hni.out] at WI
  rw [Hno.out] at WO
  have HG1 := hid (fun b (h : w1.heap.size ≤ b) => HG.out b (Nat.le_trans B1.out.size h))
  clear c0 c1 c3 c4
  by_cases hc : ni + 1 < 2 * (no + 1)
  · have hc1 : ((ni : Int) + 1) < 2 * ((no : Int) + 1) := by omega
    have F1 := hid (p_fork HG1.out (Hn.out.below B1.out) (Hi.out.below B1.out) (Hl.out.below B1.out) (by have := Hs.out; omega))
    unfold FkRet at F1
    clear hc
    go_wp2_with (first
      | (go_at_call 34; with_reducible refine (WI.out).mono ?_; rintro e w' ⟨rfl, rfl⟩)
      | (go_at_call 34; with_reducible refine (WO.out).mono ?_; rintro e w' ⟨rfl, rfl⟩))
    refine (F1.out).mono ?_
    rintro e w2 ⟨b2, rfl, t2, hb2⟩
    have B2 := hid (below2 B1.out hb2)
    have F2 := hid (p_fork (G := G) (fun b (h : w2.heap.size ≤ b) => HG.out b (Nat.le_trans B2.out.size h)) (Hnr.out.below B2.out) (Ho.out.below B2.out) t2 (by have := Hs.out; rw [Tbm.Tr.len_node]; omega))
    unfold FkRet at F2
    clear F1 WI WO
    go_wp2_with fail
    refine (F2.out).mono ?_
    rintro e w3 ⟨b3, rfl, t3, hb3⟩
    go_wp2_with fail
    go_ret
    exact ⟨b3, _, rfl, by simp [Tbm.Tr.flat, List.append_assoc], t3, below2 B2.out hb3⟩
  · have hc1 : 2 * ((no : Int) + 1) ≤ (ni : Int) + 1 := by omega
    have hne : rl.flat ≠ [] := by intro e; have := Hni.out; rw [e] at this; simp at this; omega
    obtain ⟨il, ik, iv, ir, bi, pil, pir, Hrl, rfl, _, hbi, hil, hir⟩ := (Hi.out.below B1.out).node_of hne
    subst Hrl
    obtain ⟨d0, d1, _, d3, d4⟩ := nd_cells hbi
    have hni : NdAt w1 (some ⟨bi, 0, none⟩) ik iv := ⟨bi, rfl, lt_of_heap hbi, d0, d1⟩
    have Hni2 := hid hni
    have Hil := hid hil
    have Hir := hid hir
    have hS2 := And.intro (show w1.drew.cell? ⟨bi, 3, none⟩ = some (.pointer pil) from d3) (show w1.drew.cell? ⟨bi, 4, none⟩ = some (.pointer pir) from d4)
    have bd := hid (below_dr w1)
    have hlen := hid (Tbm.Tr.len_node il ir ik iv)
    clear hc hne hbi hni hil hir d0 d1 d3 d4
    go_wp2_with (first
      | (go_at_call 34; with_reducible refine (WI.out).mono ?_; rintro e w' ⟨rfl, rfl⟩)
      | (go_at_call 34; with_reducible refine (WO.out).mono ?_; rintro e w' ⟨rfl, rfl⟩))
    have F1 := hid (p_fork (G := G) (w := w1.drew) (fun b h => HG1.out b h) ((Hnr.out.below B1.out).below bd.out) ((Ho.out.below B1.out).below bd.out) (Hil.out.below bd.out) (by have := Hs.out; have := hlen.out; omega))
    unfold FkRet at F1
    go_region_held3 (fun X => X.cell? ⟨bi, 3, none⟩ = some (.pointer pil) ∧ X.cell? ⟨bi, 4, none⟩ = some (.pointer pir)) (first | exact hS2 | go_keep) (first
      | (go_at_call 37; with_reducible refine (F1.out).mono ?_; rintro e w2 ⟨b2, rfl, t2, hb2⟩; have hS2 := keep2 hS2 hb2; have B2 := below2 bd.out hb2
         have F2 := hid (p_fork (G := G) (w := w2) (fun b h => HG1.out b (Nat.le_trans B2.size h)) ((Hn.out.below B1.out).below B2) (Hir.out.below B2) ((Hl.out.below B1.out).below B2) (by have := Hs.out; have := hlen.out; omega)); unfold FkRet at F2; clear F1)
      | (go_at_call 37; with_reducible refine (F2.out).mono ?_; rintro e w3 ⟨b3, rfl, t3, hb3⟩; have hS2 := keep2 hS2 hb3; have B3 := below2 B2 hb3
         have F3 := hid (p_fork (G := G) (w := w3) (fun b h => HG1.out b (Nat.le_trans B3.size h)) (Hni2.out.below B3) (t2.below hb3) t3 (by have := Hs.out; have := hlen.out; rw [Tbm.Tr.len_node, Tbm.Tr.len_node]; omega)); unfold FkRet at F3; clear F2)
      | (go_at_call 37; with_reducible refine (F3.out).mono ?_; rintro e w4 ⟨b4, rfl, t4, hb4⟩; have hS2 := keep2 hS2 hb4; clear F3))
    go_wp2_with fail
    go_ret
    exact ⟨b4, _, rfl, by simp [Tbm.Tr.flat, List.append_assoc], t4, below3 B1.out B3 hb4⟩
set_option maxRecDepth 20000 in
set_option maxHeartbeats 4000000 in
theorem p_balance {G : Nat → Prop} {w : World} {q pl pr : Option Addr} {k v : List UInt8} {l r : Tr} (hG : ∀ b, w.heap.size ≤ b → G b) (hn : NdAt w q k v) (hl : IsTr G w pl l) (hr : IsTr G w pr r) (hs : l.flat.length + r.flat.length ≤ 900000) :
    Calls Try.prog 33 #[.pointer q, .pointer pl, .pointer pr] w (BalRet G (l.flat ++ (k, v) :: r.flat) w) := by
  have WL := hid (p_weight hl (by omega))
  have WR := hid (p_weight hr (by omega))
  unfold SzRet at WL WR
  have F := hid (p_fork hG hn hl hr (by omega))
  have LL := hid (fun h => p_leanLeft hG hn hl hr hs h)
  have LR := hid (fun h => p_leanRight hG hn hl hr hs h)
  unfold BalRet at LL LR
  unfold FkRet at F
  have HL : Hid (l.flat ≠ [] ↔ l.flat.length ≠ 0) := hid (by simp)
  have HR : Hid (r.flat ≠ [] ↔ r.flat.length ≠ 0) := hid (by simp)
  have Hm : Hid ((Tr.node l k v r).flat = l.flat ++ (k, v) :: r.flat) := hid rfl
  generalize l.flat ++ (k, v) :: r.flat = m at *
  generalize l.flat.length = n1 at *
  generalize r.flat.length = n2 at *
  clear hG hn hl hr
  by_cases h1 : 3 * (n1 + 1) < n2 + 1
  · have c1 : 3 * ((n1 : Int) + 1) < (n2 : Int) + 1 := by omega
    have LL' := hid (LL.out (HR.out.2 (by omega)))
    clear LL LR F h1 HL HR Hm
    go_enter Try.func33, Try.ntmps33
    go_wp2_with (first
      | (go_at_call 34; with_reducible refine (WL.out).mono ?_; rintro e w' ⟨rfl, rfl⟩)
      | (go_at_call 34; with_reducible refine (WR.out).mono ?_; rintro e w' ⟨rfl, rfl⟩))
    refine (LL'.out).mono ?_
    rintro e w2 ⟨b2, T2, rfl, e2, t2, hb2⟩
    have X := hid (And.intro e2 (And.intro t2 hb2))
    clear e2 t2 hb2
    go_wp2_with fail
    go_ret
    exact ⟨b2, T2, rfl, X.out⟩
  · have c1 : (n2 : Int) + 1 ≤ 3 * ((n1 : Int) + 1) := by omega
    by_cases h2 : 3 * (n2 + 1) < n1 + 1
    · have c2 : 3 * ((n2 : Int) + 1) < (n1 : Int) + 1 := by omega
      have LR' := hid (LR.out (HL.out.2 (by omega)))
      clear LL LR F h1 h2 HL HR Hm
      go_enter Try.func33, Try.ntmps33
      go_wp2_with (first
        | (go_at_call 34; with_reducible refine (WL.out).mono ?_; rintro e w' ⟨rfl, rfl⟩)
        | (go_at_call 34; with_reducible refine (WR.out).mono ?_; rintro e w' ⟨rfl, rfl⟩))
      refine (LR'.out).mono ?_
      rintro e w2 ⟨b2, T2, rfl, e2, t2, hb2⟩
      have X := hid (And.intro e2 (And.intro t2 hb2))
      clear e2 t2 hb2
      go_wp2_with fail
      go_ret
      exact ⟨b2, T2, rfl, X.out⟩
    · have c2 : (n1 : Int) + 1 ≤ 3 * ((n2 : Int) + 1) := by omega
      clear LL LR h1 h2 HL HR
      go_enter Try.func33, Try.ntmps33
      go_wp2_with (first
        | (go_at_call 34; with_reducible refine (WL.out).mono ?_; rintro e w' ⟨rfl, rfl⟩)
        | (go_at_call 34; with_reducible refine (WR.out).mono ?_; rintro e w' ⟨rfl, rfl⟩))
      refine (F.out).mono ?_
      rintro e w2 ⟨b2, rfl, t2, hb2⟩
      have X := hid (And.intro t2 hb2)
      clear t2 hb2
      go_wp2_with fail
      go_ret
      exact ⟨b2, _, rfl, Hm.out, X.out⟩
end Go.Proofs.Ytbkabjnklipmjaa
