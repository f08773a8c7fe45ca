/- The items' own Pop: walk (layer 7). -/
import Derived.Test.YtojballaghkojaaHepF
namespace Go.Proofs.Ytojballaghkojaa
open Go.RowKit Go.Shelf
open Pil (It)

def IoPost (q g c bm : Nat) (t : List It) (x : It) (w : World) (e : Ending) (w' : World) : Prop := e = .returned (ifi x) ∧ St w' q g c bm t ∧ Kept (fun k => k = q ∨ k = bm) w w'
set_option maxRecDepth 20000 in
set_option maxHeartbeats 8000000 in
theorem i_Pop {w : World} {q g c bm : Nat} {t : List It} {x : It} (h : St w q g c bm (t ++ [x])) :
    Calls Try.prog 48 #[ptr q] w (IoPost q g c bm t x w) := by
  have hl := h.len
  have hrow := h.row
  have him := h.map
  have hhd := h.hd
  have hpp := posf_pop h.nd
  have hpx : (posf (t ++ [x]) x.1).isSome = true := by rw [(posf_iff h.nd x.1 (t.length : Int)).2 ⟨t.length, rfl, by simp, by rw [g_end]⟩]; rfl
  have hix := h.i64 x (by simp)
  have H := hid h
  have hq := h.lt_q
  have hbm := h.map.lt
  have hqb := h.pb
  have hqg := h.pg
  have hgb := h.gb
  rw [List.length_append, List.length_singleton] at hl hrow him hhd
  rw [icells_end] at hrow
  obtain ⟨n, hn⟩ : ∃ n, t.length = n := ⟨_, rfl⟩
  rw [hn] at hl hrow him hhd
  have hil : (icells t).length = n * 2 := by rw [icells_len, hn]
  have Hn := hid hn
  clear h hn
  obtain ⟨xk, xr⟩ := x
  simp only at hpp hpx hix hrow
  have r0 : w.cell? ⟨g, n * 2, none⟩ = some (.int .i64 xk) := by
    rw [hrow.cellAt _ (by omega), List.getElem?_append_right (by omega), show n * 2 - (icells t).length = 0 by omega]; rfl
  have r1 : w.cell? ⟨g, n * 2 + 1, none⟩ = some (.int .i64 xr) := by
    rw [hrow.cellAt _ (by omega), List.getElem?_append_right (by omega), show n * 2 + 1 - (icells t).length = 1 by omega]; rfl
  have hc : n + 1 ≤ c := by
    rcases hrow.2 with ⟨h, _⟩ | ⟨g', cap, cur, h, _, _, h2, _⟩
    · cases h
    · injection h with _ _ h; omega
  have HR := hid (ownsRow_pop hil hrow)
  have c0 : w.cell? ⟨q, 0, none⟩ = some (.slice (some ⟨g, 0, none⟩) (n + 1) c) := cell_of hhd rfl
  obtain ⟨W1, hW1, d0, d1, hb1, hs1⟩ := one_new w (.int .i64 xk) (.int .i64 xr) 50
  have hd1 : W1.heap[q]? = some (.cells #[.slice (some ⟨g, 0, none⟩) (n + 1) c, .map (some bm)] 54) := (hb1.block q hq).trans hhd
  have M1 : IM Try.prog 3 3 W1.drew bm (n + 1) (posf (t ++ [(xk, xr)])) := him.keep (hb1.block bm hbm)
  obtain ⟨W2, hrun, im, hg⟩ := IM.drop MT M1 hix.1 0
  rw [if_pos hpx, hpp] at im
  have hsz2 : W1.heap.size ≤ W2.heap.size := hg.size
  have hd2 : W2.heap[q]? = some (.cells #[.slice (some ⟨g, 0, none⟩) (n + 1) c, .map (some bm)] 54) := (hg.block q (Nat.lt_of_lt_of_le hq hb1.size) (fun e => by injection e with e; exact hqb e)).trans hd1
  have c1 : W1.cell? ⟨q, 1, none⟩ = some (.map (some bm)) := cell_of hd1 rfl
  have e0 : W2.cell? ⟨q, 0, none⟩ = some (.slice (some ⟨g, 0, none⟩) (n + 1) c) := cell_of hd2 rfl
  have e1 : W2.frozen? ⟨q, 0, none⟩ = false := frozen_of hd2
  have hB2 : W2.heap[w.heap.size]? = W1.heap[w.heap.size]? := hg.block _ (by show w.heap.size < W1.heap.size; omega) (fun e => by injection e with e; omega)
  have f0 : W2.cell? ⟨w.heap.size, 0, none⟩ = some (.int .i64 xk) := (World.cell?_of_block hB2).trans d0
  have f1 : W2.cell? ⟨w.heap.size, 1, none⟩ = some (.int .i64 xr) := (World.cell?_of_block hB2).trans d1
  have n1 : (⟨w.heap.size, 0, none⟩ : Addr) ≠ ⟨q, 0, none⟩ := fun e => by injection e with e; omega
  have n2 : w.heap.size ≠ q := by omega
  have w1 : wrap64 (n : Int) = (n : Int) := by unfold wrap64; omega
  have i1 : (0 : Int) ≤ (n : Int) := by omega
  have i2 : (n : Int) < (n : Int) + 1 := by omega
  have i3 : (n : Int) ≤ (c : Int) := by omega
  go_enter Try.func48, Try.ntmps48
  go_wp2_with fail
  clear hW1
  go_region
  go_wp2_with fail
  go_ret
  have hnd : (Pil.keys t).Nodup := (List.nodup_cons.1 (Pil.Perm.nd (List.perm_append_singleton (xk, xr) t).symm H.out.nd)).2
  have hbm1 : bm < W1.heap.size := Nat.lt_of_lt_of_le hbm hb1.size
  have hlt := Hn.out
  refine ⟨rfl, ⟨?_, ?_, ?_, hqg, hqb, fun y hy => H.out.i64 y (List.mem_append_left _ hy), hnd, by omega⟩, ?_⟩
  · rw [hlt]; exact set_hd hd2
  · rw [hlt]
    refine ownsRow_setCell_other ?_ (by simp [Value.ownBlock]; exact fun e => hqg e.symm) _
    refine World.ownsRow.kept (w := W1.drew) (own_drewN (own_below HR.out hb1) 1) hg (.inr (by simp [Value.ownBlock]; exact hgb))
  · rw [hlt]
    refine IM.keep (w := W2) im ?_
    rw [Below.heap_setCell _ _ _ _ (fun e => hqb e.symm)]
  · refine ⟨hg.os.trans hb1.os, hg.tape.trans hb1.tape, hg.output.trans hb1.output, by have := hb1.size; simp; omega, fun k hk hn => ?_⟩
    have k1 : k < W1.heap.size := Nat.lt_of_lt_of_le hk hb1.size
    rw [Below.heap_setCell _ _ _ k (fun e => hn (.inl e))]
    exact (hg.block k k1 (fun e => hn (.inr (by injection e)))).trans (hb1.block k hk)
end Go.Proofs.Ytojballaghkojaa
