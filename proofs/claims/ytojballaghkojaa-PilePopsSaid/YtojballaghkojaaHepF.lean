/- The items' own Len, Push, Pop: walks (layer 7). -/
import Derived.Test.YtojballaghkojaaHepE
namespace Go.Proofs.Ytojballaghkojaa
open Go.RowKit Go.Shelf
open Pil (It)

theorem info_pitem : (Try.prog.info? 50).map (fun i => (i.zero, i.size, i.bytes)) = some (some (.agg #[.int .i64 0, .int .i64 0]), 2, 16) := by kernel_rfl
theorem run_assert_item (v : Value) (w : World) : (Instr.typeAssert (.iface 50 v) 20 50 false).run Try.prog w = .ok v w := by kernel_rfl
theorem i_Len {w : World} {q bm : Nat} {v : Value} {l : List It} (h : Sv w q v bm l) :
    Calls Try.prog 27 #[ptr q] w fun e w' => e = .returned (.int .i64 (l.length : Int)) ∧ w' = w := by
  obtain ⟨A, c, rfl⟩ : ∃ A c, v = .slice A l.length c := by
    rcases h.form with ⟨rfl, rfl⟩ | ⟨g, c, rfl, _⟩
    · exact ⟨_, _, rfl⟩
    · exact ⟨_, _, rfl⟩
  have c0 : w.cell? ⟨q, 0, none⟩ = some (.slice A l.length c) := by simp [World.cell?, h.hd]
  have hlen := h.len
  generalize l.length = n at *
  clear h
  go_enter Try.func27, Try.ntmps27
  go_wp2_with fail
  go_ret
  exact ⟨rfl, rfl⟩
/-- an item, as the library's heap hands it on -/
abbrev ifi (x : It) : Value := .iface 50 (.agg #[.int .i64 x.1, .int .i64 x.2])
theorem cell_of {w : World} {b : Nat} {cs : Array Value} {t : TypeId} (h : w.heap[b]? = some (.cells cs t)) {k : Nat} {v : Value} (hv : cs[k]? = some v) : w.cell? ⟨b, k, none⟩ = some v := by simp [World.cell?, h, hv]
theorem frozen_of {w : World} {b k : Nat} {cs : Array Value} {t : TypeId} (h : w.heap[b]? = some (.cells cs t)) : w.frozen? ⟨b, k, none⟩ = false := by simp [World.frozen?, h]
theorem set_hd {w : World} {q : Nat} {a b v : Value} {t : TypeId} (h : w.heap[q]? = some (.cells #[a, b] t)) : (w.setCell ⟨q, 0, none⟩ v).heap[q]? = some (.cells #[v, b] t) := by
  obtain ⟨hq, e⟩ := Array.getElem?_eq_some_iff.1 h
  simp [World.setCell, hq, Array.getElem_modify_self, e]
def IpPost (q bm : Nat) (v : Value) (l : List It) (w : World) (e : Ending) (w' : World) : Prop := e = .returned (.tuple #[]) ∧ ∃ v', Sv w' q v' bm l ∧ (∀ k, v'.ownBlock = some k → v.ownBlock = some k ∨ w.heap.size ≤ k) ∧ Kept (fun k => k = q ∨ v.ownBlock = some k ∨ k = bm) w w'
set_option maxRecDepth 20000 in
set_option maxHeartbeats 8000000 in
theorem i_Push {w : World} {q bm : Nat} {v : Value} {l : List It} (h : Sv w q v bm l) (x : It) (hx1 : I64 x.1) (hx2 : I64 x.2) (hnew : x.1 ∉ Pil.keys l) (hl : l.length < 20000) :
    Calls Try.prog 49 #[ptr q, ifi x] w (IpPost q bm v (l ++ [x]) w) := by
  obtain ⟨i0, hi0, hz0, hz1, hz2⟩ := info_parts info_pitem
  obtain ⟨A, c, hv⟩ : ∃ A c, v = .slice A l.length c := by
    rcases h.form with ⟨rfl, rfl⟩ | ⟨g, c, rfl, _⟩
    · exact ⟨_, _, rfl⟩
    · exact ⟨_, _, rfl⟩
  have H := hid h
  have hq := h.lt_q
  have hbm := h.map.lt
  have hqb := h.qb
  have HV := hid h.vb
  have HQ := hid h.qv
  obtain ⟨xk, xr⟩ := x
  have HX := hid (show I64 xk ∧ I64 xr ∧ xk ∉ Pil.keys l from ⟨hx1, hx2, hnew⟩)
  have HPP := hid (posf_push h.nd (x := (xk, xr)) hnew)
  have HND := hid (nd_push h.nd (x := (xk, xr)) hnew)
  have hpn := posf_none hnew
  obtain ⟨W1, hW1, d0, d1, hb1, hs1⟩ := one_new w (.int .i64 xk) (.int .i64 xr) 50
  have hd1 : W1.heap[q]? = some (.cells #[v, .map (some bm)] 54) := (hb1.block q hq).trans h.hd
  have M1 : IM Try.prog 3 3 W1.drew bm l.length (posf l) := h.map.keep (hb1.block bm hbm)
  have row1 := own_drewN (own_below h.row hb1) 1
  have hn1 : l.length < maxLen := by unfold maxLen; omega
  have hI : I64 (l.length : Int) := by unfold I64; omega
  obtain ⟨W2, hrun, im, hg⟩ := IM.store MT M1 hn1 hx1 hI
  rw [hpn] at im
  simp only [] at im HPP
  rw [HPP.out] at im
  have hd2 : W2.heap[q]? = some (.cells #[v, .map (some bm)] 54) := (hg.block q (Nat.lt_of_lt_of_le hq hb1.size) (fun e => by injection e with e; exact hqb e)).trans hd1
  have row2 := World.ownsRow.kept row1 hg (.inr HV.out)
  have c0 : W1.cell? ⟨q, 0, none⟩ = some v := by simp [World.cell?, hd1]
  have c1 : W1.cell? ⟨q, 1, none⟩ = some (.map (some bm)) := by simp [World.cell?, hd1]
  have e0 : W2.cell? ⟨q, 0, none⟩ = some v := by simp [World.cell?, hd2]
  have hB2 : W2.heap[w.heap.size]? = W1.heap[w.heap.size]? := hg.block _ (by show w.heap.size < W1.heap.size; omega) (fun e => by injection e with e; omega)
  have f0 : W2.cell? ⟨w.heap.size, 0, none⟩ = some (.int .i64 xk) := (World.cell?_of_block hB2).trans d0
  have f1 : W2.cell? ⟨w.heap.size, 1, none⟩ = some (.int .i64 xr) := (World.cell?_of_block hB2).trans d1
  subst hv
  have ha := run_assert_item (.agg #[.int .i64 xk, .int .i64 xr]) w
  clear h hx1 hx2 hnew hpn
  go_enter Try.func49, Try.ntmps49
  go_wp2_with fail
  clear hW1
  go_region
  go_wp2_with fail
  have hb12 : Below w.heap.size w W1 := hb1
  have hsz2 : W1.heap.size ≤ W2.heap.size := hg.size
  have hbm1 : bm < W1.heap.size := Nat.lt_of_lt_of_le hbm hb1.size
  have hbm2 : bm < W2.heap.size := Nat.lt_of_lt_of_le hbm1 hsz2
  have hq2 : q < W2.heap.size := (Array.getElem?_eq_some_iff.1 hd2).1
  have q1 : l.length + 1 ≤ maxLen := by unfold maxLen; omega
  have q2 : (l.length + 1) * 16 ≤ 140737488355328 := by omega
  have hold : ∀ o, (W2.drew.alloc o).heap[q]? = some (.cells #[Value.slice A l.length c, .map (some bm)] 54) := fun o => (heap_alloc_old W2.drew o hq2).trans hd2
  have hsz3 : ∀ o, q < (W2.drew.alloc o).heap.size := fun o => by simp; omega
  have HQ' : (Value.slice A l.length c).ownBlock ≠ some q := HQ.out
  clear hrun hd1 row1 c0 c1 d0 d1 M1
  go_region_law (first | (refine step_append_own_at rfl (.tmp 22) (.tmp 24) 51 rfl 0 50 i0 (.agg #[.int .i64 0, .int .i64 0]) 2 16 Try.underlying51 hi0 hz0 hz1 hz2 rfl (by decide) _ _ _ (by simp [Act.eval]) (row2.alloc _).drew ⟨W2.heap.size, 0, none⟩ 1 1 [_, _] (by simp [Act.eval]) rfl (cell_two_new _ _ _ _) (by intro u hu; simp at hu; rcases hu with rfl | rfl <;> rfl) q1 q2 (Nat.zero_le _) ?_; intro v1 w2 hown1 hgrow hat; have hd4 : w2.heap[q]? = some (.cells #[Value.slice A l.length c, .map (some bm)] 54) := (hgrow.block q (hsz3 _) (fun e => HQ' e.symm)).trans (hold _); have g0 : w2.cell? ⟨q, 0, none⟩ = some (Value.slice A l.length c) := cell_of hd4 rfl; have g2 : w2.frozen? ⟨q, 0, none⟩ = false := frozen_of hd4; obtain ⟨g1, c1, rfl⟩ : ∃ g c, v1 = .slice (some ⟨g, 0, none⟩) (l.length + 1) c := ownsRow_succ hown1))
  all_goals
    go_wp2_with fail
    go_end0
    have hne1 : g1 ≠ q := by
      rcases hat with h | h
      · intro e; subst e; exact HQ' (by rw [← h]; rfl)
      · simp [Value.ownBlock] at h; omega
    have hs2 : W2.heap.size + 1 ≤ w2.heap.size := by have := hgrow.size; simpa using this
    refine ⟨rfl, .slice (some ⟨g1, 0, none⟩) (l.length + 1) c1, ⟨?_, ?_, ?_, ?_, hqb, ?_, ?_, ?_⟩, ?_, ?_⟩
    · exact set_hd hd4
    · rw [List.length_append, icells_end]
      exact ownsRow_setCell_other hown1 (by simp [Value.ownBlock]; exact hne1) _
    · rw [List.length_append]
      refine IM.keep (w := W2) (by simpa using im) ?_
      rw [Below.heap_setCell _ _ _ _ (fun e => hqb e.symm)]
      exact (hgrow.block bm (Nat.lt_of_lt_of_le hbm2 (by simp)) (fun e => HV.out e.symm)).trans (heap_alloc_old W2.drew _ hbm2)
    · simp [Value.ownBlock]; exact hne1
    · intro y hy
      rcases List.mem_append.1 hy with h | h
      · exact H.out.i64 y h
      · simp at h; subst h; exact ⟨HX.out.1, HX.out.2.1⟩
    · exact HND.out
    · simp; omega
    · intro k hk
      rcases hat with h | h
      · exact .inl (by rw [← h]; exact hk)
      · rw [h] at hk; injection hk with hk; subst hk
        right
        have := hb1.size
        simp
        omega
    · refine ⟨hgrow.os.trans (hg.os.trans hb1.os), hgrow.tape.trans (hg.tape.trans hb1.tape), hgrow.output.trans (hg.output.trans hb1.output), by have := hb1.size; simp; omega, fun k hk hn => ?_⟩
      have k1 : k < W1.heap.size := Nat.lt_of_lt_of_le hk hb1.size
      have k2 : k < W2.heap.size := Nat.lt_of_lt_of_le k1 hsz2
      rw [Below.heap_setCell _ _ _ k (fun e => hn (.inl e))]
      exact (((hgrow.block k (Nat.lt_of_lt_of_le k2 (by simp)) (fun e => hn (.inr (.inl e.symm)))).trans (heap_alloc_old W2.drew _ k2)).trans (hg.block k k1 (fun e => hn (.inr (.inr (by injection e)))))).trans (hb1.block k hk)
end Go.Proofs.Ytojballaghkojaa
