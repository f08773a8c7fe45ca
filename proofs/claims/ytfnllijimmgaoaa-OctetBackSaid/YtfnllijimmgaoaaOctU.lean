/- Contract of the closure of layer 3's law OctetBack: what stands ahead, the bytes, what stands behind. -/
import Derived.Test.YtfnllijimmgaoaaOctG
import Derived.Deep.RegionHeld3
namespace Go.Proofs.Ytfnllijimmgaoaa
open Go.RowKit

section
variable {P : Program} (w : World)
theorem src_byt {e' tx : TypeId} (hk : P.underlying tx = some (.slice e')) {B : Nat} {A : Option Addr} {n c : Nat} {l : List UInt8} (hn : l.length = n) (h : Byt w B A l) : Src P 1 tx (.slice A n c) n (l.map bcell) w := by
  by_cases hl : l = []
  · subst hl
    obtain rfl : n = 0 := hn.symm
    cases A with
    | none => exact Src.ofNil w hk c
    | some a => exact Src.ofSlice w hk a 0 c [] rfl (fun j u hu => by cases hu) (fun u hu => by cases hu)
  · obtain ⟨ad, rfl, _, hc⟩ := h (by intro e; exact hl (List.map_eq_nil_iff.1 e))
    refine Src.ofSlice w hk ad n c (l.map bcell) (by rw [List.length_map, hn, Nat.mul_one]) hc ?_
    intro u hu
    obtain ⟨_, _, rfl⟩ := List.mem_map.1 hu
    rfl
/-- whatever is appended onto a row of the call's own that is not nil -/
theorem run_append_own_src (base : Nat) (t tx ty e : TypeId) (i : TypeInfo) (z : Value) (bytes : Nat) (ht : P.underlying t = some (.slice e)) (hi : P.info? e = some i) (hz : i.zero = some z)
    (hsize : i.size = 1) (hby : i.bytes = bytes) (hzs : z.cells.size = 1) (g n cap : Nat) (xs : List Value) (hown : w.ownsRow base e 1 (.slice (some ⟨g, 0, none⟩) n cap) n xs)
    (x : Value) (m : Nat) (news : List Value) (hs : Src P 1 tx x m news w) (h63 : n + m ≤ maxLen) (hbytes : (n + m) * bytes ≤ 140737488355328) (hbase : base ≤ w.heap.size) :
    ∃ g' cap' w', (Builtin.append_ #[t, tx] ty #[.slice (some ⟨g, 0, none⟩) n cap, x]).run P w = .ok (.slice (some ⟨g', 0, none⟩) (n + m) cap') w' ∧ w'.ownsRow base e 1 (.slice (some ⟨g', 0, none⟩) (n + m) cap') (n + m) (xs ++ news) ∧ w.grownBy w' (some g) := by
  have hs1 : Src P i.size tx x m news w := by rw [hsize]; exact hs
  have hnl := hs.newsLen
  rcases hown with ⟨hxl, ⟨hv, _⟩ | ⟨g1, cap1, cur, hv, hbg, hg, hncap, hcm, hcs, htake⟩⟩
  · injection hv with h1; cases h1
  injection hv with h1 _ h3
  injection h1 with h1
  injection h1 with h1
  subst h1
  subst h3
  have hlen : (xs ++ news).length = (n + m) * 1 := by rw [List.length_append, hxl, hnl]; omega
  by_cases hroom : n + m ≤ cap
  · have hst := run_storeCells_at P g (n * i.size) e news 0 cur w hg (by rw [hsize]; simp; omega) hs.one
    simp only [Nat.add_zero] at hst
    have hr : (Builtin.append_ #[t, tx] ty #[.slice (some ⟨g, 0, none⟩) n cap, x]).run P w = .ok (.slice (some ⟨g, 0, none⟩) (n + m) cap) (w.setRow g (cur.toList.take (n * i.size) ++ news ++ cur.toList.drop (n * i.size + news.length)).toArray) := by
      rcases hs1.kind with ⟨e', hk⟩ | hk <;> simp [Builtin.append_, run_underlying ht, run_underlying hk, sizeOf, typeInfo, hi, hs1.len, hroom, hs1.cells, Addr.add_lit, hst]
    refine ⟨g, cap, _, hr, ⟨hlen, .inr ⟨g, cap, _, rfl, hbg, setRow_heap w g cur _ e _ hg, hroom, hcm, ?_, ?_⟩⟩, ⟨rfl, rfl, rfl, by simp, fun k _ hk => setRow_other w g k _ (fun e => hk (by rw [e]))⟩⟩
    · simp only [List.size_toArray, List.length_append, List.length_take, List.length_drop, Array.length_toList, hsize]
      omega
    · rw [hsize, htake, ← hlen]
      exact List.take_left
  · have holds : ∀ j u, xs[j]? = some u → w.cell? ((⟨g, 0, none⟩ : Addr).add j) = some u :=
      World.ownsRow.cells (v := .slice (some ⟨g, 0, none⟩) n cap) ⟨hxl, .inr ⟨g, cap, cur, rfl, hbg, hg, hncap, hcm, hcs, htake⟩⟩ rfl
    have hold : (Builtin.firstCells i.size n (.slice (some ⟨g, 0, none⟩) n cap)).run P w.drew = .ok xs.toArray w.drew :=
      run_firstCells_some w.drew i.size n ⟨g, 0, none⟩ n cap xs (by rw [hxl, hsize]) holds
    have hge := grownCap_ge w (n + m) cap e
    have hgm : grownCap w (n + m) cap e ≤ maxLen := grownCap_le_maxLen w (n + m) cap e h63
    have hr := run_append_grow_src (P := P) w t tx ty e i z ht hi hz (some ⟨g, 0, none⟩) n cap xs hold x m news hs1 (by omega) (by unfold maxLen at h63; omega) (growslice_fits (by omega) (by rw [hby]; exact hbytes))
    refine ⟨w.heap.size, _, _, hr, ⟨hlen, .inr ⟨w.heap.size, _, _, rfl, hbase, heap_alloc_new w.drew _, hge, hgm, ?_, ?_⟩⟩, ⟨rfl, rfl, rfl, by simp, fun k hk _ => heap_alloc_old w.drew _ hk⟩⟩
    · simp only [Array.size_append, List.size_toArray, size_zeroCells, hzs, hlen]
      omega
    · simp only [Array.toList_append, List.append_assoc]
      rw [← List.append_assoc, ← hlen]
      exact List.take_left
end
theorem step_append_src {P : Program} {w : World} {ops : Array Oper} {o : Oper} {a : Act} {K : Act → World → Prop} {Q : Exit → Act → World → Prop} {E : Prop} (hgd : o.guard = none) (s x : Operand) (t tx : TypeId)
    (ho : o.op = .call { callee := .builtin .append, args := #[s, x], argTypes := #[t, tx] })
    (base : Nat) (e : TypeId) (i : TypeInfo) (z : Value) (bytes : Nat) (ht : P.underlying t = some (.slice e)) (hi : P.info? e = some i) (hz : i.zero = some z)
    (hsize : i.size = 1) (hby : i.bytes = bytes) (hzs : z.cells.size = 1) (g n cap : Nat) (xs : List Value) (hs : a.eval s = .slice (some ⟨g, 0, none⟩) n cap) (hown : w.ownsRow base e 1 (.slice (some ⟨g, 0, none⟩) n cap) n xs)
    (xv : Value) (m : Nat) (news : List Value) (hx : a.eval x = xv) (hsrc : Src P 1 tx xv m news w) (h63 : n + m ≤ maxLen) (hbytes : (n + m) * bytes ≤ 140737488355328) (hbase : base ≤ w.heap.size)
    (h : ∀ g' cap' w', w'.ownsRow base e 1 (.slice (some ⟨g', 0, none⟩) (n + m) cap') (n + m) (xs ++ news) → w.grownBy w' (some g) → K (a.put o.dst (.slice (some ⟨g', 0, none⟩) (n + m) cap')) w') :
    if Region.wanted o (yielded ops a.tmps) = true then Oper.wp P o a w K Q else E := by
  have hw : Region.wanted o (yielded ops a.tmps) = true := by simp [Region.wanted, hgd]
  rw [if_pos hw]
  obtain ⟨g', cap', w', hrun, r1, r2⟩ := run_append_own_src (P := P) w base t tx o.type e i z bytes ht hi hz hsize hby hzs g n cap xs hown xv m news hsrc h63 hbytes hbase
  unfold Oper.wp
  simp [execOp, ho, resolve, invoke, builtin, hs, hx, hrun, Result.andThen]
  exact h g' cap' w' r1 r2

set_option maxHeartbeats 2000000 in
theorem p_wrap (g : Nat) (A0 A1 A : Option Addr) (n0 n1 n c0 c1 c : Nat) (l0 l1 l : List UInt8) (h0 : l0.length = n0) (h1 : l1.length = n1) (hl : l.length = n) (m0 : n0 ≤ 2000) (m1 : n1 ≤ 2000) (m : n ≤ 10000) (w : World) (hg : g < w.heap.size)
    (k0 : w.cell? ⟨g, 0, none⟩ = some (.slice A0 n0 c0)) (k1 : w.cell? ⟨g, 1, none⟩ = some (.slice A1 n1 c1)) (b0 : Byt w w.heap.size A0 l0) (b1 : Byt w w.heap.size A1 l1) (b : Byt w w.heap.size A l) :
    Calls Try.prog 11 #[.slice A n c, .pointer (some ⟨g, 0, none⟩)] w (BRet (l0 ++ (l ++ l1)) w) := by
  have Hk : Hid (∀ w', Below w.heap.size w w' → w'.cell? ⟨g, 0, none⟩ = some (.slice A0 n0 c0) ∧ w'.cell? ⟨g, 1, none⟩ = some (.slice A1 n1 c1)) := fun w' hb => ⟨(hb.cell hg).trans k0, (hb.cell hg).trans k1⟩
  have S0 : Hid (∀ w', Below w.heap.size w w' → Src Try.prog 1 24 (.slice A0 n0 c0) n0 (l0.map bcell) w') := fun w' hb => src_byt w' Try.underlying24 h0 (b0.below hb (Nat.le_refl _))
  have S1 : Hid (∀ w', Below w.heap.size w w' → Src Try.prog 1 24 (.slice A1 n1 c1) n1 (l1.map bcell) w') := fun w' hb => src_byt w' Try.underlying24 h1 (b1.below hb (Nat.le_refl _))
  have Sx : Hid (∀ w', Below w.heap.size w w' → Src Try.prog 1 24 (.slice A n c) n (l.map bcell) w') := fun w' hb => src_byt w' Try.underlying24 hl (b.below hb (Nat.le_refl _))
  obtain ⟨i0, hi, hz0, hz1, hz2⟩ := info_parts Try.info_u8
  clear b0 b1 b
  go_enter Try.func11, Try.ntmps11
  go_wp2_with fail
  have hb0 : Below w.heap.size w (w.drew.alloc (.cells #[] 5)) := (Below.refl _ _).drew.alloc (Nat.le_refl _) _
  have hown0 := World.ownsRow_lit (base := w.heap.size) (e := 5) (size := 1) w.drew #[] 0 (Nat.le_refl _) (Nat.zero_le _) rfl
  have q1 : 0 + n0 ≤ maxLen := by unfold maxLen; omega
  have q2 : (0 + n0) * 1 ≤ 140737488355328 := by omega
  have q3 : 0 + n0 + n ≤ maxLen := by unfold maxLen; omega
  have q4 : (0 + n0 + n) * 1 ≤ 140737488355328 := by omega
  have q5 : 0 + n0 + n + n1 ≤ maxLen := by unfold maxLen; omega
  have q6 : (0 + n0 + n + n1) * 1 ≤ 140737488355328 := by omega
  go_region_held3 (fun w' => w'.cell? ⟨g, 0, none⟩ = some (.slice A0 n0 c0) ∧ w'.cell? ⟨g, 1, none⟩ = some (.slice A1 n1 c1))
    (first
      | exact Hk.out _ hb3
      | exact Hk.out _ hb2
      | exact Hk.out _ hb1
      | exact Hk.out _ hb0
      | exact Hk.out _ ((Below.refl _ _).drew))
    (first
      | (refine step_append_src rfl (.tmp 4) (.tmp 6) 24 24 rfl w.heap.size 5 i0 (.int .u8 0) 1 Try.underlying24 hi hz0 hz1 hz2 rfl _ _ _ _ rfl hown0 _ _ _ rfl (S0.out _ hb0) q1 q2 hb0.size ?_; intro g1 cp1 w1 hown1 hgr1; have hb1 : Below w.heap.size w w1 := hb0.grown hgr1 hb0.size (fun k hk => by injection hk with hk; subst hk; exact Nat.le_refl _))
      | (refine step_append_src rfl (.tmp 7) (.tmp 8) 24 24 rfl w.heap.size 5 i0 (.int .u8 0) 1 Try.underlying24 hi hz0 hz1 hz2 rfl _ _ _ _ rfl hown1 _ _ _ rfl (Sx.out _ hb1) q3 q4 hb1.size ?_; intro g2 cp2 w2 hown2 hgr2; have hb2 : Below w.heap.size w w2 := hb1.grown hgr2 hb1.size (fun k hk => (hown1.lt k hk).1))
      | (refine step_append_src rfl (.tmp 9) (.tmp 11) 24 24 rfl w.heap.size 5 i0 (.int .u8 0) 1 Try.underlying24 hi hz0 hz1 hz2 rfl _ _ _ _ rfl hown2 _ _ _ rfl (S1.out _ hb2) q5 q6 hb2.size ?_; intro g3 cp3 w3 hown3 hgr3; have hb3 : Below w.heap.size w w3 := hb2.grown hgr3 hb2.size (fun k hk => (hown2.lt k hk).1)))
  all_goals
    go_wp2_with fail
    go_ret
    rw [Nat.zero_add] at hown3
    refine BRet.fo (base := w.heap.size) (e := 5) (.inl hown3) ?_ ?_ hb3
    · simp
    · simp [h0, h1, hl]; omega
end Go.Proofs.Ytfnllijimmgaoaa
