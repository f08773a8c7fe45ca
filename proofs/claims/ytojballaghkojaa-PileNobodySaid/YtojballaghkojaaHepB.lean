/- Swap (layer 7). -/
import Derived.Test.YtojballaghkojaaHepA
import Derived.BigRegion
namespace Go.Proofs.Ytojballaghkojaa
open Go.RowKit Go.Shelf
open Pil (It)

set_option maxRecDepth 20000 in
set_option maxHeartbeats 8000000 in
theorem h_swap {w : World} {p g c bm : Nat} {l : List It} (h : St w p g c bm l) {i j : Nat} (hi : i < l.length) (hj : j < l.length) :
    Calls Try.prog 50 #[ptr p, .int .i64 (i : Int), .int .i64 (j : Int)] w fun e w' => e = .returned (.tuple #[]) ∧ St w' p g c bm (Hep.sw l i j) ∧ Kept (fun k => k = g ∨ k = bm) w w' := by
  obtain ⟨c0, c1⟩ := h.cells
  obtain ⟨x0, x1⟩ := h.at_ hi
  obtain ⟨y0, y1⟩ := h.at_ hj
  have hlen := h.len
  have i1 : (0 : Int) ≤ (i : Int) := by omega
  have i2 : (i : Int) < (l.length : Int) := by omega
  have j1 : (0 : Int) ≤ (j : Int) := by omega
  have j2 : (j : Int) < (l.length : Int) := by omega
  have H := hid h
  have f0 := h.row.frozenAt (i * 2)
  have f1 := h.row.frozenAt (i * 2 + 1)
  have f2 := h.row.frozenAt (j * 2)
  have f3 := h.row.frozenAt (j * 2 + 1)
  generalize hx : Hep.g l i = x at *
  generalize hy : Hep.g l j = y at *
  obtain ⟨xk, xr⟩ := x
  obtain ⟨yk, yr⟩ := y
  simp only at x0 x1 y0 y1
  have r0 := h.row
  have hil : (icells l).length = l.length * 2 := icells_len l
  have r1 := (World.ownsRow.stored r0 (i * 2) (.int .i64 yk)).1
  have r2 := (World.ownsRow.stored r1 (i * 2 + 1) (.int .i64 yr)).1
  have r3 := (World.ownsRow.stored r2 (j * 2) (.int .i64 xk)).1
  have ex : ∀ (W : World) (xs : List Value) (q : Nat), W.ownsRow 0 50 2 (.slice (some ⟨g, 0, none⟩) l.length c) l.length xs → q < l.length * 2 → ∃ v, W.cell? ⟨g, q, none⟩ = some v := fun W xs q hr hq => by
    rw [hr.cellAt q hq]
    exact ⟨_, List.getElem?_eq_getElem (by have := hr.1; omega)⟩
  obtain ⟨v1, s1⟩ := ex _ _ (j * 2) r1 (by omega)
  obtain ⟨v2, s2⟩ := ex _ _ (j * 2) r2 (by omega)
  obtain ⟨v3, s3⟩ := ex _ _ (j * 2 + 1) r2 (by omega)
  obtain ⟨v4, s4⟩ := ex _ _ (j * 2 + 1) r3 (by omega)
  obtain ⟨v5, s5⟩ := ex _ _ (i * 2 + 1) r1 (by omega)
  obtain ⟨v6, s6⟩ := ex _ _ (j * 2 + 1) r1 (by omega)
  have t1 := r1.frozenAt (j * 2)
  have t2 := r2.frozenAt (j * 2)
  have t3 := r2.frozenAt (j * 2 + 1)
  have t4 := r3.frozenAt (j * 2 + 1)
  have t5 := r1.frozenAt (i * 2 + 1)
  have R4 := hid (World.ownsRow.stored r3 (j * 2 + 1) (.int .i64 xr)).1
  clear r0 r1 r2 r3 ex hil
  have Hx := hid hx
  have Hy := hid hy
  have hpg := h.pg
  clear h hx hy
  go_enter Try.func50, Try.ntmps50
  go_wp2_with fail
  go_region
  have hkb : Kept (fun k => k = g ∨ k = bm) w ((((w.setCell ⟨g, i * 2, none⟩ (.int .i64 yk)).setCell ⟨g, i * 2 + 1, none⟩ (.int .i64 yr)).setCell ⟨g, j * 2, none⟩ (.int .i64 xk)).setCell ⟨g, j * 2 + 1, none⟩ (.int .i64 xr)).drew := ⟨rfl, rfl, rfl, by simp [World.drew], fun k hk hn => by
    have hg : k ≠ g := fun e => hn (.inl e)
    show ((((w.setCell ⟨g, i * 2, none⟩ (.int .i64 yk)).setCell ⟨g, i * 2 + 1, none⟩ (.int .i64 yr)).setCell ⟨g, j * 2, none⟩ (.int .i64 xk)).setCell ⟨g, j * 2 + 1, none⟩ (.int .i64 xr)).heap[k]? = _
    rw [Below.heap_setCell _ _ _ k hg, Below.heap_setCell _ _ _ k hg, Below.heap_setCell _ _ _ k hg, Below.heap_setCell _ _ _ k hg]⟩
  have R5 : Hid ((((((w.setCell ⟨g, i * 2, none⟩ (.int .i64 yk)).setCell ⟨g, i * 2 + 1, none⟩ (.int .i64 yr)).setCell ⟨g, j * 2, none⟩ (.int .i64 xk)).setCell ⟨g, j * 2 + 1, none⟩ (.int .i64 xr)).drew).ownsRow 0 50 2 (.slice (some ⟨g, 0, none⟩) l.length c) l.length (icells (Hep.sw l i j))) := hid (by
    have := R4.out
    rw [icells_set l i (yk, yr) hi, icells_set (l.set i (yk, yr)) j (xk, xr) (by rw [List.length_set]; exact hj)] at this
    rw [show Hep.sw l i j = (l.set i (yk, yr)).set j (xk, xr) from by unfold Hep.sw; rw [Hx.out, Hy.out]]
    exact this)
  have hmap0 : Hid (IM Try.prog 3 3 ((((w.setCell ⟨g, i * 2, none⟩ (.int .i64 yk)).setCell ⟨g, i * 2 + 1, none⟩ (.int .i64 yr)).setCell ⟨g, j * 2, none⟩ (.int .i64 xk)).setCell ⟨g, j * 2 + 1, none⟩ (.int .i64 xr)).drew bm l.length (posf l)) := hid (H.out.map.keep (by
    have hg : bm ≠ g := fun e => H.out.gb e.symm
    show ((((w.setCell ⟨g, i * 2, none⟩ (.int .i64 yk)).setCell ⟨g, i * 2 + 1, none⟩ (.int .i64 yr)).setCell ⟨g, j * 2, none⟩ (.int .i64 xk)).setCell ⟨g, j * 2 + 1, none⟩ (.int .i64 xr)).heap[bm]? = _
    rw [Below.heap_setCell _ _ _ bm hg, Below.heap_setCell _ _ _ bm hg, Below.heap_setCell _ _ _ bm hg, Below.heap_setCell _ _ _ bm hg]))
  generalize ((((w.setCell ⟨g, i * 2, none⟩ (.int .i64 yk)).setCell ⟨g, i * 2 + 1, none⟩ (.int .i64 yr)).setCell ⟨g, j * 2, none⟩ (.int .i64 xk)).setCell ⟨g, j * 2 + 1, none⟩ (.int .i64 xr)).drew = W at *
  have hgi : Hep.g (Hep.sw l i j) i = (yk, yr) := by rw [Hep.g_sw hi hj]; split; (rename_i e; subst e; rw [Hx.out, ← Hy.out, Hx.out]); (rw [if_pos rfl, Hy.out])
  have hgj : Hep.g (Hep.sw l i j) j = (xk, xr) := by rw [Hep.g_sw hi hj, if_pos rfl, Hx.out]
  have hmW : Hid (IM Try.prog 3 3 W.drew bm l.length (posf l)) := hid (hmap0.out)
  have hpl := H.out.hd
  have hbm := H.out.map.lt
  have hgb := H.out.gb
  have hpW : W.heap[p]? = some (.cells #[.slice (some ⟨g, 0, none⟩) l.length c, .map (some bm)] 54) := (hkb.block p (Array.getElem?_eq_some_iff.1 hpl).1 (fun e => e.elim hpg (fun e => H.out.pb e))).trans hpl
  clear c0 c1 x0 x1 y0 y1 f0 f1 f2 f3 s1 s2 s3 s4 s5 s6 t1 t2 t3 t4 t5 R4
  have kx : I64 xk := by have := (H.out.i64 (xk, xr) (by rw [← Hx.out]; exact List.mem_of_getElem? (Hep.g_eq hi))).1; exact this
  have ky : I64 yk := by have := (H.out.i64 (yk, yr) (by rw [← Hy.out]; exact List.mem_of_getElem? (Hep.g_eq hj))).1; exact this
  have ki : I64 (i : Int) := by unfold I64; omega
  have kj : I64 (j : Int) := by unfold I64; omega
  have hfx : posf l xk = some (i : Int) := (posf_iff H.out.nd _ _).2 ⟨i, rfl, hi, by rw [Hx.out]⟩
  have hfy : posf l yk = some (j : Int) := (posf_iff H.out.nd _ _).2 ⟨j, rfl, hj, by rw [Hy.out]⟩
  have hM0 : W.heap[bm]? = w.heap[bm]? ∨ True := .inr trivial
  have M0 : IM Try.prog 3 3 W.drew bm l.length (posf l) := hmW.out
  have hnl : l.length < maxLen := by unfold maxLen; omega
  obtain ⟨W1, hrun1, im1, hg1⟩ := IM.store MT M0 hnl ky ki
  rw [hfy] at im1
  have im1 : IM Try.prog 3 3 W1 bm l.length (upd (posf l) yk (some (i : Int))) := im1
  have hu1 : (upd (posf l) yk (some (i : Int)) xk).isSome = true := by unfold upd; split; rfl; rw [hfx]; rfl
  obtain ⟨W2, hrun2, im2, hg2⟩ := IM.store MT (show IM Try.prog 3 3 W1.drew bm l.length _ from im1) hnl kx kj
  rw [if_pos hu1] at im2
  have hps : upd (upd (posf l) yk (some (i : Int))) xk (some (j : Int)) = posf (Hep.sw l i j) := by
    have := posf_sw H.out.nd hi hj
    rwa [Hx.out, Hy.out] at this
  rw [hps] at im2
  have hpW1 : W1.heap[p]? = some (.cells #[.slice (some ⟨g, 0, none⟩) l.length c, .map (some bm)] 54) := (hg1.block p (Array.getElem?_eq_some_iff.1 hpW).1 (fun e => by injection e with e; exact H.out.pb e)).trans hpW
  have hpW2 : W2.heap[p]? = some (.cells #[.slice (some ⟨g, 0, none⟩) l.length c, .map (some bm)] 54) := (hg2.block p (Array.getElem?_eq_some_iff.1 hpW1).1 (fun e => by injection e with e; exact H.out.pb e)).trans hpW1
  have R6 := World.ownsRow.kept (w := W.drew) (w' := W1) (own_drewN R5.out 1) hg1 (.inr (by simp [Value.ownBlock]; exact hgb))
  have R7 := World.ownsRow.kept (w := W1.drew) (w' := W2) (own_drewN R6 1) hg2 (.inr (by simp [Value.ownBlock]; exact hgb))
  have c0 : W.cell? ⟨p, 0, none⟩ = some (.slice (some ⟨g, 0, none⟩) l.length c) := by simp [World.cell?, hpW]
  have c1 : W.cell? ⟨p, 1, none⟩ = some (.map (some bm)) := by simp [World.cell?, hpW]
  have d0 : W1.cell? ⟨p, 0, none⟩ = some (.slice (some ⟨g, 0, none⟩) l.length c) := by simp [World.cell?, hpW1]
  have d1 : W1.cell? ⟨p, 1, none⟩ = some (.map (some bm)) := by simp [World.cell?, hpW1]
  have x0 : W.cell? ⟨g, i * 2, none⟩ = some (.int .i64 yk) := by
    rw [R5.out.cellAt _ (by omega), (icells_g _ i (by rw [Hep.sw_len]; exact hi)).1, hgi]
  have y0 : W1.cell? ⟨g, j * 2, none⟩ = some (.int .i64 xk) := by
    rw [R6.cellAt _ (by omega), (icells_g _ j (by rw [Hep.sw_len]; exact hj)).1, hgj]
  have hsz1 := hg1.size
  have hsz2 := hg2.size
  have Fin : Hid (St W2 p g c bm (Hep.sw l i j) ∧ Kept (fun k => k = g ∨ k = bm) w W2) := hid ⟨⟨by rw [Hep.sw_len]; exact hpW2, by rw [Hep.sw_len]; exact R7, by rw [Hep.sw_len]; exact im2, hpg, H.out.pb, fun x hx => H.out.i64 x ((Hep.sw_perm hi hj).mem_iff.1 hx), perm_nd (Hep.sw_perm hi hj) H.out.nd, by rw [Hep.sw_len]; exact hlen⟩,
    ⟨(hg2.os.trans hg1.os).trans hkb.os, (hg2.tape.trans hg1.tape).trans hkb.tape, (hg2.output.trans hg1.output).trans hkb.output, Nat.le_trans hkb.size (Nat.le_trans hsz1 hsz2), fun k hk hn => by
      have hk1 : k < W.heap.size := Nat.lt_of_lt_of_le hk hkb.size
      have hne : some k ≠ some bm := fun e => by injection e with e; exact hn (.inr e)
      exact ((hg2.block k (Nat.lt_of_lt_of_le hk1 hsz1) hne).trans (hg1.block k hk1 hne)).trans (hkb.block k hk hn)⟩⟩
  clear M0 im1 im2 hg1 hg2 hpW hpW1 hpW2 R5 R6 R7 hkb hps hu1 hfx hfy hgi hgj hpl hbm hM0 hsz1 hsz2
  go_wp2_with fail
  go_region
  go_wp2_with fail
  go_region
  go_wp2_with fail
  go_end0
  exact ⟨rfl, Fin.out⟩
end Go.Proofs.Ytojballaghkojaa
