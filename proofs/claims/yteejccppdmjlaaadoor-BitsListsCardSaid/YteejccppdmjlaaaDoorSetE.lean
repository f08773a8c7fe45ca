/- The document's own answer for layer 5: List; the same ints (ref03.Ints). -/
import Derived.Test.YteejccppdmjlaaaDoorSetD
namespace Go.Proofs.YteejccppdmjlaaaDoor
open Go.RowKit

def il (l : List Nat) : List Int := l.map fun (n : Nat) => (n : Int)
theorem il_len (l : List Nat) : (il l).length = l.length := by unfold il; rw [List.length_map]
theorem il_cells (l : List Nat) : (il l).map (Value.int .i64) = l.map fun (n : Nat) => Value.int .i64 (n : Int) := by unfold il; rw [List.map_map]; rfl
/-- hands out a row of numbers -/
def IlRet (l : List Nat) (w : World) (e : Ending) (w' : World) : Prop := ∃ A c, e = .returned (.slice A l.length c) ∧ Its w' w'.heap.size A (il l) ∧ l.length ≤ c ∧ Below w.heap.size w w'

set_option maxHeartbeats 2000000 in
theorem r_List (A : Option Addr) (n c : Nat) (s : List Nat) (hn : s.length = n) (hm : n ≤ 10000) (B : Nat) (w : World) (hB : B ≤ w.heap.size) (h : Us w B A s) :
    Calls Tryd.prog 7 #[.slice A n c] w (IlRet (Bst.lst s) w) := by
  have He := hid (fun w => r_end A n c (by omega) w)
  have Hh := hid (fun (i : Int) (hi : I64 i) (w' : World) (hb : Below w.heap.size w w') => r_Has A n c s hn (by omega) i hi B w' (h.below hb hB))
  unfold BoolRet at Hh
  have Hdone := hid (Bst.upto_more s (64 * n) (by omega))
  obtain ⟨i0, hi, hz0, hz1, hz2⟩ := info_parts Tryd.info_int
  have hown0 : w.ownsRow w.heap.size 3 1 (.slice none 0 0) 0 [] := ⟨rfl, .inl ⟨rfl, rfl⟩⟩
  clear h hn
  go_enter Tryd.func7, Tryd.ntmps7
  go_wp2_with fail
  go_loopw [3, 4] (fun sv iv wr => ∃ (k : Nat), iv = .int .i64 k ∧ k ≤ 64 * n ∧ wr.ownsRow w.heap.size 3 1 sv (Bst.upto s k).length ((il (Bst.upto s k)).map (Value.int .i64)) ∧ Below w.heap.size w wr) (fun _ iv _ => 64 * n - (intOf iv).toNat)
  case atStart => exact ⟨0, rfl, Nat.zero_le _, hown0, Below.refl _ _⟩
  case round =>
    clear hown0
    obtain ⟨k, rfl, hk, hown, hb⟩ := hrel
    have hbs := hb.size
    by_cases hlt : k < 64 * n
    · have hl := Bst.upto_len s k
      have Hnext := hid (Bst.upto_succ s k)
      have Hc := hid (Hh.out (k : Int) (by unfold I64; omega) wr hb)
      rw [memI_nat] at Hc
      obtain ⟨l, hle⟩ : ∃ l, Bst.upto s k = l := ⟨_, rfl⟩
      rw [hle] at hown hl Hnext
      clear hle
      have hn3 : l.length + 1 ≤ maxLen := by unfold maxLen; omega
      have hn4 : (l.length + 1) * 8 ≤ 140737488355328 := by omega
      go_wp2_with fail
      refine (He.out _).mono ?_
      rintro e w' ⟨rfl, rfl⟩
      go_wp2_with fail
      refine (Hc.out).mono ?_
      rintro e w' ⟨rfl, rfl⟩
      cases hx : Bst.mem s k with
      | true =>
        rw [hx, if_pos rfl] at Hnext
        go_wp2_with (at_builtin; refine wpList_append_own _ rfl _ _ 25 rfl w.heap.size 3 i0 (.int .i64 0) 1 8 Tryd.underlying25 hi hz0 hz1 hz2 rfl (by decide) _ _ _ rfl (hown.alloc _) ⟨_, 0, none⟩ 1 1 [.int .i64 _] rfl rfl (lit_one _ _ _) (int_one _ _) hn3 hn4 (le_alloc hbs _) ?_; intro v1 w2 hown2 hgrow _)
        have hb2 : Below w.heap.size w w2 := (hb.alloc hbs _).grown hgrow (le_alloc hbs _) (fun k hk => (hown.lt k hk).1)
        refine ⟨⟨k + 1, by go_num, by omega, ?_, hb2⟩, by simp [intOf]; omega⟩
        rw [Hnext.out, List.length_append, il_cells, List.map_append, ← il_cells]
        exact hown2
      | false =>
        rw [hx, if_neg (by decide), List.append_nil] at Hnext
        go_wp2_with fail
        refine ⟨⟨k + 1, by go_num, by omega, by rw [Hnext.out]; exact hown, hb⟩, by simp [intOf]; omega⟩
    · obtain rfl : k = 64 * n := by omega
      rw [Hdone.out] at hown
      go_wp2_with fail
      refine (He.out _).mono ?_
      rintro e w' ⟨rfl, rfl⟩
      go_wp2_with fail
      go_ret
      obtain ⟨A1, c1, rfl, hr, hc⟩ := own_rd hown
      exact ⟨A1, c1, rfl, hr, hc, hb⟩

set_option maxHeartbeats 1000000 in
theorem p_Ints (A A' : Option Addr) (n n' c c' : Nat) (ls ms : List Int) (hn : ls.length = n) (hn' : ms.length = n') (w : World) (B B' : Nat) (h : Its w B A ls) (h' : Its w B' A' ms) (hm : ls.length ≤ maxLen) :
    Calls Tryd.prog 10 #[.slice A n c, .slice A' n' c'] w (BoolDraw (decide (ls = ms)) w) := by
  unfold maxLen at hm
  subst hn
  by_cases hlen : ls.length = n'
  · have H := hid h
    have H' := hid h'
    clear h h'
    subst hlen
    have Hn := hid hn'
    clear hn'
    go_enter Tryd.func10, Tryd.ntmps10
    go_wp2
    go_loopw [5] (fun i wr => ∃ (k m : Nat), i = .int .i64 k ∧ k ≤ ls.length ∧ wr = w.drewN m ∧ Hid (ls.take k = ms.take k)) (fun i _ => ls.length - (intOf i).toNat)
    case atStart => exact ⟨0, 0, rfl, Nat.zero_le _, rfl, rfl⟩
    case round =>
      obtain ⟨k, m, rfl, hk, rfl, hsame⟩ := hrel
      by_cases hlt : k < ls.length
      · have hlt' : k < ms.length := by rw [Hn.out]; exact hlt
        obtain ⟨ad, x, rfl, _, hx, hc⟩ := Its.get H.out hlt
        obtain ⟨ad', y, rfl, _, hy, hc'⟩ := Its.get H'.out hlt'
        have b1 : (0 : Int) ≤ (k : Int) := by omega
        have b2 : (k : Int) < ls.length := by omega
        by_cases hxy : x = y
        · have hxy' : (x != y) = false := by rw [hxy]; exact bne_self_eq_false y
          have Hxy := hid hxy
          clear hxy
          go_wp2_with fail
          go_quiet (fail)
          go_wp2_with fail
          refine ⟨⟨k + 1, _, by go_num, by omega, rfl, ?_⟩, by simp [intOf]; omega⟩
          show ls.take (k + 1) = ms.take (k + 1)
          rw [List.take_add_one, List.take_add_one, hsame.out, hx.out, hy.out, Hxy.out]
        · have hxy' : (x != y) = true := by rw [bne_iff_ne]; exact hxy
          have Hxy := hid hxy
          clear hxy
          go_wp2_with fail
          go_quiet (fail)
          go_wp2_with fail
          go_ret
          refine BoolDraw.mk ?_ ⟨_, World.drewN_drewN _ _ _⟩
          symm
          rw [decide_eq_false_iff_not]
          intro e
          apply Hxy.out
          have e1 : ls[k]? = ms[k]? := by rw [e]
          rw [hx.out, hy.out] at e1
          injection e1
      · go_wp2_with fail
        go_ret
        refine BoolDraw.mk ?_ ⟨_, rfl⟩
        symm
        rw [decide_eq_true_iff]
        have e := hsame.out
        rwa [List.take_of_length_le (by omega), List.take_of_length_le (by rw [Hn.out]; omega)] at e
  · subst hn'
    have hne : ((ls.length : Int) != (ms.length : Int)) = true := by rw [bne_iff_ne]; omega
    have hres := hid (show decide (ls = ms) = false by rw [decide_eq_false_iff_not]; intro e; exact hlen (by rw [e]))
    go_enter Tryd.func10, Tryd.ntmps10
    go_wp2
    go_ret
    exact BoolDraw.mk hres.out.symm ⟨0, rfl⟩
end Go.Proofs.YteejccppdmjlaaaDoor
