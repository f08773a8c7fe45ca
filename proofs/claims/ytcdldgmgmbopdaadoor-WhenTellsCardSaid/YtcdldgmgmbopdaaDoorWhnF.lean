/- The document's Covers; rows of ints; what stands in the laws' heads (layer 9). -/
import Derived.Test.YtcdldgmgmbopdaaDoorWhnB
import Derived.Test.YtcdldgmgmbopdaaDoorWhnL
namespace Go.Proofs.YtcdldgmgmbopdaaDoor
open Go.RowKit
open Whn (Gr Wh)

set_option maxHeartbeats 2000000 in
theorem r_Covers (a b : Wh) (ha : Wok a) (hb : Wok b) (w : World) : Calls Tryd.prog 32 #[wv a, wv b] w (Did (.bool (Whn.covers a b)) w) := by
  have HB := hid (fun w => r_Both a b ha hb w)
  unfold bothV at HB
  have Hr := hid (covers_eq a b)
  obtain ⟨A, W, hA, hW, K, hk0⟩ := (Mem.nil w).one (wc a) 26
  obtain ⟨B, V, hB, hV, K1, hk1⟩ := K.out.one (wc b) 26
  obtain ⟨c0, c1, c2, c3⟩ := K1.out.wh (B := A) (x := a) (by simp)
  obtain ⟨d0, d1, d2, d3⟩ := K1.out.wh (B := B) (x := b) (by simp)
  clear K hk0 hk1 ha hb
  generalize Whn.both a b = c at *
  generalize Whn.meet a b = r at *
  go_enter Tryd.func32, Tryd.ntmps32
  go_wp2_with fail
  refine (HB.out _).mono ?_
  rintro e w1 ⟨rfl, b1⟩
  have K2 := K1.out.next b1
  obtain ⟨D, X, hD, hX, K3, hk3⟩ := K2.one (wc c) 26
  clear c0 c1 c2 c3 d0 d1 d2 d3
  obtain ⟨c0, c1, c2, c3⟩ := K3.out.wh (B := D) (x := c) (by simp)
  obtain ⟨d0, d1, d2, d3⟩ := K3.out.wh (B := B) (x := b) (by simp)
  clear hk3 K2 b1
  have he := fun X => wh_eql c b X
  generalize whEq c b = q at *
  cases r with
  | true =>
    go_wp2_with fail
    go_ret
    exact Did.mk (by rw [Hr.out]; rfl) K3.out.2
  | false =>
    go_wp2_with fail
    go_ret
    exact Did.mk (by rw [Hr.out]; rfl) K3.out.2
set_option maxHeartbeats 1000000 in
theorem p_Ints (A A' : Option Addr) (n n' c c' : Nat) (ls ms : List Int) (hn : ls.length = n) (hn' : ms.length = n') (w : World) (B B' : Nat) (h : Its w B A ls) (h' : Its w B' A' ms) (hm : ls.length ≤ maxLen) :
    Calls Tryd.prog 15 #[.slice A n c, .slice A' n' c'] w (BoolDraw (decide (ls = ms)) w) := by
  unfold maxLen at hm
  subst hn
  by_cases hlen : ls.length = n'
  · have H := hid h
    have H' := hid h'
    clear h h'
    subst hlen
    have Hn := hid hn'
    clear hn'
    go_enter Tryd.func15, Tryd.ntmps15
    go_wp2
    go_loopw [5] (fun i wr => ∃ (k m : Nat), i = .int .i64 k ∧ k ≤ ls.length ∧ wr = w.drewN m ∧ Hid (ls.take k = ms.take k)) (fun i _ => ls.length - (intOf i).toNat)
    case atStart => exact ⟨0, 0, rfl, Nat.zero_le _, rfl, rfl⟩
    case round =>
      obtain ⟨k, m, rfl, hk, rfl, hsame⟩ := hrel
      by_cases hlt : k < ls.length
      · have hlt' : k < ms.length := by rw [Hn.out]; exact hlt
        obtain ⟨ad, x, rfl, _, hx, hc⟩ := Its.get H.out hlt
        obtain ⟨ad', y, rfl, _, hy, hc'⟩ := Its.get H'.out hlt'
        have b1 : (0 : Int) ≤ (k : Int) := by omega
        have b2 : (k : Int) < ls.length := by omega
        by_cases hxy : x = y
        · have hxy' : (x != y) = false := by rw [hxy]; exact bne_self_eq_false y
          have Hxy := hid hxy
          clear hxy
          go_wp2_with fail
          go_quiet (fail)
          go_wp2_with fail
          refine ⟨⟨k + 1, _, by go_num, by omega, rfl, ?_⟩, by simp [intOf]; omega⟩
          show ls.take (k + 1) = ms.take (k + 1)
          rw [List.take_add_one, List.take_add_one, hsame.out, hx.out, hy.out, Hxy.out]
        · have hxy' : (x != y) = true := by rw [bne_iff_ne]; exact hxy
          have Hxy := hid hxy
          clear hxy
          go_wp2_with fail
          go_quiet (fail)
          go_wp2_with fail
          go_ret
          refine BoolDraw.mk ?_ ⟨_, World.drewN_drewN _ _ _⟩
          symm
          rw [decide_eq_false_iff_not]
          intro e
          apply Hxy.out
          have e1 : ls[k]? = ms[k]? := by rw [e]
          rw [hx.out, hy.out] at e1
          injection e1
      · go_wp2_with fail
        go_ret
        refine BoolDraw.mk ?_ ⟨_, rfl⟩
        symm
        rw [decide_eq_true_iff]
        have e := hsame.out
        rwa [List.take_of_length_le (by omega), List.take_of_length_le (by rw [Hn.out]; omega)] at e
  · subst hn'
    have hne : ((ls.length : Int) != (ms.length : Int)) = true := by rw [bne_iff_ne]; omega
    have hres := hid (show decide (ls = ms) = false by rw [decide_eq_false_iff_not]; intro e; exact hlen (by rw [e]))
    go_enter Tryd.func15, Tryd.ntmps15
    go_wp2
    go_ret
    exact BoolDraw.mk hres.out.symm ⟨0, rfl⟩

set_option maxHeartbeats 1000000 in
theorem p_has (A : Option Addr) (n c : Nat) (l : List Int) (hn : l.length = n) (hm : n ≤ maxLen) (x : Int) (w : World) (B : Nat) (h : Its w B A l) :
    Calls Tryd.prog 11 #[.slice A n c, .int .i64 x] w (fun e w' => e = .returned (.bool (decide (x ∈ l))) ∧ w = w') := by
  subst hn
  have H := hid h
  unfold maxLen at hm
  clear h
  go_enter Tryd.func11, Tryd.ntmps11
  go_wp2_with fail
  go_loop [5] (fun i => ∃ k : Nat, i = .int .i64 k ∧ k ≤ l.length ∧ Hid (x ∉ l.take k)) (fun i => l.length - (intOf i).toNat)
  case atStart => exact ⟨0, rfl, Nat.zero_le _, hid (by simp)⟩
  case round =>
    obtain ⟨k, rfl, hk, Hno⟩ := hrel
    by_cases hlt : k < l.length
    · obtain ⟨ad, y, rfl, _, Hy, hc⟩ := Its.get H.out hlt
      have b1 : (0 : Int) ≤ (k : Int) := by omega
      have b2 : (k : Int) < l.length := by omega
      by_cases hxy : y = x
      · have t1 : (y == x) = true := by rw [beq_iff_eq]; exact hxy
        have Hr := hid (show decide (x ∈ l) = true by
          rw [decide_eq_true_iff, ← hxy]
          exact List.mem_of_getElem? Hy.out)
        clear hxy
        go_wp2_with fail
        go_ret
        exact ⟨by rw [Hr.out]; rfl, rfl⟩
      · have t1 : (y == x) = false := by rw [beq_eq_false_iff_ne]; exact hxy
        have Hn : Hid (x ∉ l.take (k + 1)) := hid (by
          rw [List.take_add_one, Hy.out, List.mem_append]
          rintro (h | h)
          · exact Hno.out h
          · simp at h
            exact hxy h.symm)
        clear hxy Hno
        go_wp2_with fail
        go_round
        case rel => exact ⟨k + 1, by go_num, by omega, Hn⟩
        case measure => simp [intOf]; omega
    · have Hr := hid (show decide (x ∈ l) = false by
        rw [decide_eq_false_iff_not]
        have := Hno.out
        rwa [List.take_of_length_le (by omega)] at this)
      clear Hno
      go_wp2_with fail
      go_ret
      exact ⟨by rw [Hr.out]; rfl, rfl⟩

/-! ### the lowest bit, at the heads' numbers -/
/-- the table's place 1 -/
def Tab (w : World) : Prop := w.cell? ⟨0, 1, none⟩ = some (.int .u8 1)
theorem Tab.next {w w' : World} (h : Tab w) (hb : Below w.heap.size w w') : Tab w' := (hb.cell (p := ⟨0, 1, none⟩) (World.block_lt_of_cell? _ _ h)).trans h
set_option maxHeartbeats 1000000 in
theorem p_tz32 (w : World) (hT : w.cell? ⟨0, 1, none⟩ = some (.int .u8 1)) : Calls Tryd.prog 47 #[.int .u32 2] w (fun e w' => e = .returned (.int .i64 1) ∧ w = w') := by
  have key : bits .and .u32 2 4294967294 = 2 := by decide
  go_enter Tryd.func47, Tryd.ntmps47
  go_wp2_with fail
  go_ret
  exact ⟨rfl, rfl⟩
set_option maxRecDepth 20000 in
theorem p_tz8 (w : World) : Calls Tryd.prog 48 #[.int .u8 1] w (fun e w' => e = .returned (.int .i64 0) ∧ w = w') := by
  have h1 : Lib.ntz8 1 = 0 := by decide +kernel
  go_enter Tryd.func48, Tryd.ntmps48
  go_wp2_with fail
  go_ret
  exact ⟨rfl, rfl⟩
end Go.Proofs.YtcdldgmgmbopdaaDoor
