/- Contract of the library's Concat of two rows of times (layer 11). -/
import Derived.Test.YtodhpdaoghbmcaaRomT
namespace Go.Proofs.Ytodhpdaoghbmcaa
open Go.RowKit
open Whn (Gr Wh)

/-- a row of times of the call's own -/
def OwRet (l : List Wh) (w : World) (e : Ending) (w' : World) : Prop := ∃ v, e = .returned v ∧ w'.ownsRow w.heap.size 29 4 v l.length (wcells l) ∧ Below w.heap.size w w'
/-- what stands in the first rows -/
def pre2 (l ms : List Wh) : Nat → List Wh
  | 0 => []
  | 1 => l
  | _ => l ++ ms
set_option maxRecDepth 4000 in
set_option maxHeartbeats 2000000 in
theorem p_Concat (p : Addr) (A A2 : Option Addr) (c c2 : Nat) (l ms : List Wh) (hm : l.length ≤ 1000) (hm2 : ms.length ≤ 1000) (w : World) (h : Whs w w.heap.size A l) (h2 : Whs w w.heap.size A2 ms)
    (hp : p.block < w.heap.size) (c0 : w.cell? (p.add 0) = some (.slice A l.length c)) (c1 : w.cell? (p.add 1) = some (.slice A2 ms.length c2)) :
    Calls Try.prog 73 #[.slice (some p) 2 2] w (OwRet (l ++ ms) w) := by
  have HP := hid (show ∀ k, k < 2 → ∃ B d m, w.cell? (p.add k) = some (.slice B m.length d) ∧ Whs w w.heap.size B m ∧ m.length ≤ 1000 ∧ (pre2 l ms k).length ≤ 1000 ∧ pre2 l ms (k + 1) = pre2 l ms k ++ m by
    intro k hk
    rcases Nat.lt_or_ge k 1 with h | h'
    · obtain rfl : k = 0 := by omega
      exact ⟨A, c, l, c0, by assumption, hm, Nat.zero_le _, rfl⟩
    · obtain rfl : k = 1 := by omega
      exact ⟨A2, c2, ms, c1, h2, hm2, hm, rfl⟩)
  have Hp0 := hid (show pre2 l ms 0 = [] from rfl)
  have Hp2 := hid (show pre2 l ms 2 = l ++ ms from rfl)
  have hlen : (pre2 l ms 2).length ≤ 1000000 := by rw [Hp2.out, List.length_append]; omega
  have HG := hid (p_Grow _ hlen w)
  obtain ⟨i0, hi0, hz0, hz1, hz2⟩ := info_parts Try.info_when
  clear h h2 c0 c1 hm hm2
  generalize pre2 l ms = pp at *
  go_enter Try.func73, Try.ntmps73
  go_wp2
  go_loopw [3, 11] (fun sv i wr => ∃ (k : Nat), i = .int .i64 k ∧ k ≤ 2 ∧ w = wr ∧ sv = .int .i64 ((pp k).length : Nat)) (fun _ i _ => 2 - (intOf i).toNat)
  case atStart => exact ⟨0, rfl, Nat.zero_le _, rfl, by rw [Hp0.out]; rfl⟩
  case round =>
    obtain ⟨k, rfl, hk, rfl, rfl⟩ := hrel
    by_cases hlt : k < 2
    · obtain ⟨B, d, m, hc, hw, hml, hpl, hnx⟩ := HP.out k hlt
      have b1 : (0 : Int) ≤ (k : Int) := by omega
      have b2 : (k : Int) < 2 := by omega
      have Hnx := hid hnx
      have b3 : ¬ ((pp k).length : Int) + (m.length : Int) < 0 := by omega
      clear hnx hw
      go_wp2_with fail
      refine ⟨⟨k + 1, by go_num, by omega, trivial, ?_⟩, by simp [intOf]; omega⟩
      rw [Hnx.out, List.length_append]; rfl
    · obtain rfl : k = 2 := by omega
      go_wp2_with fail
      refine HG.out.mono ?_
      rintro e w1 ⟨v0, rfl, hown0, hb0⟩
      go_wp2_with fail
      go_loopw [6, 27] (fun lv i wr => ∃ (k : Nat), i = .int .i64 k ∧ k ≤ 2 ∧ Hid (wr.ownsRow w.heap.size 29 4 lv (pp k).length (wcells (pp k))) ∧ Hid (Below w.heap.size w wr)) (fun _ i _ => 2 - (intOf i).toNat)
      case atStart => exact ⟨0, rfl, Nat.zero_le _, by rw [Hp0.out]; exact hid hown0, hid hb0⟩
      case round =>
        clear hown0 hb0
        obtain ⟨k, rfl, hk, HO, HB⟩ := hrel
        by_cases hlt : k < 2
        · obtain ⟨B, d, m, hc, hw, hml, hpl, hnx⟩ := HP.out k hlt
          have b1 : (0 : Int) ≤ (k : Int) := by omega
          have b2 : (k : Int) < 2 := by omega
          have Hnx := hid hnx
          have hc1 : wr.cell? (p.add k) = some (.slice B m.length d) := (HB.out.cell (by rw [add_block]; exact hp)).trans hc
          have Hsrc := hid (src_whs (P := Try.prog) wr Try.underlying24 (c := d) (rfl : m.length = m.length) (hw.below HB.out (Nat.le_refl _)))
          have q1 : (pp k).length + m.length ≤ maxLen := by unfold maxLen; omega
          have q2 : ((pp k).length + m.length) * 24 ≤ 140737488355328 := by omega
          clear hnx hw hc
          go_wp2_with (at_builtin; refine wpList_append_srcN rfl _ _ 24 24 rfl w.heap.size 29 i0 (.agg #[.int .u32 0, .int .u8 0, .int .i64 0, .int .i64 0]) 4 24 Try.underlying24 hi0 hz0 hz1 hz2 rfl _ _ _ rfl HO.out _ _ _ rfl Hsrc.out q1 q2 HB.out.size ?_; intro v1 w5 hown2 hgrow)
          refine ⟨⟨k + 1, by go_num, by omega, ?_, hid (HB.out.grown hgrow HB.out.size (fun k hk => (HO.out.lt k hk).1))⟩, by simp [intOf]; omega⟩
          rw [Hnx.out, List.length_append, wcells_append]
          exact hid hown2
        · obtain rfl : k = 2 := by omega
          rw [Hp2.out] at HO
          go_wp2_with fail
          go_ret
          exact ⟨_, rfl, HO.out, HB.out⟩
end Go.Proofs.Ytodhpdaoghbmcaa
