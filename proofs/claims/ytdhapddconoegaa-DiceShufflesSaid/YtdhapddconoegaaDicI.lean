/- The same ints (the document's answer for layer 3); rows of truth values, as they are read and set (layer 8). -/
import Derived.Test.YtdhapddconoegaaDicH
namespace Go.Proofs.Ytdhapddconoegaa
open Go.RowKit

set_option maxHeartbeats 1000000 in
theorem p_Ints (A A' : Option Addr) (n n' c c' : Nat) (ls ms : List Int) (hn : ls.length = n) (hn' : ms.length = n') (w : World) (B B' : Nat) (h : Its w B A ls) (h' : Its w B' A' ms) (hm : ls.length ≤ maxLen) :
    Calls Try.prog 18 #[.slice A n c, .slice A' n' c'] w (BoolDraw (decide (ls = ms)) w) := by
  unfold maxLen at hm
  subst hn
  by_cases hlen : ls.length = n'
  · have H := hid h
    have H' := hid h'
    clear h h'
    subst hlen
    have Hn := hid hn'
    clear hn'
    go_enter Try.func18, Try.ntmps18
    go_wp2
    go_loopw [5] (fun i wr => ∃ (k m : Nat), i = .int .i64 k ∧ k ≤ ls.length ∧ wr = w.drewN m ∧ Hid (ls.take k = ms.take k)) (fun i _ => ls.length - (intOf i).toNat)
    case atStart => exact ⟨0, 0, rfl, Nat.zero_le _, rfl, rfl⟩
    case round =>
      obtain ⟨k, m, rfl, hk, rfl, hsame⟩ := hrel
      by_cases hlt : k < ls.length
      · have hlt' : k < ms.length := by rw [Hn.out]; exact hlt
        obtain ⟨ad, x, rfl, _, hx, hc⟩ := Its.get H.out hlt
        obtain ⟨ad', y, rfl, _, hy, hc'⟩ := Its.get H'.out hlt'
        have b1 : (0 : Int) ≤ (k : Int) := by omega
        have b2 : (k : Int) < ls.length := by omega
        by_cases hxy : x = y
        · have hxy' : (x != y) = false := by rw [hxy]; exact bne_self_eq_false y
          have Hxy := hid hxy
          clear hxy
          go_wp2_with fail
          go_quiet (fail)
          go_wp2_with fail
          refine ⟨⟨k + 1, _, by go_num, by omega, rfl, ?_⟩, by simp [intOf]; omega⟩
          show ls.take (k + 1) = ms.take (k + 1)
          rw [List.take_add_one, List.take_add_one, hsame.out, hx.out, hy.out, Hxy.out]
        · have hxy' : (x != y) = true := by rw [bne_iff_ne]; exact hxy
          have Hxy := hid hxy
          clear hxy
          go_wp2_with fail
          go_quiet (fail)
          go_wp2_with fail
          go_ret
          refine BoolDraw.mk ?_ ⟨_, World.drewN_drewN _ _ _⟩
          symm
          rw [decide_eq_false_iff_not]
          intro e
          apply Hxy.out
          have e1 : ls[k]? = ms[k]? := by rw [e]
          rw [hx.out, hy.out] at e1
          injection e1
      · go_wp2_with fail
        go_ret
        refine BoolDraw.mk ?_ ⟨_, rfl⟩
        symm
        rw [decide_eq_true_iff]
        have e := hsame.out
        rwa [List.take_of_length_le (by omega), List.take_of_length_le (by rw [Hn.out]; omega)] at e
  · subst hn'
    have hne : ((ls.length : Int) != (ms.length : Int)) = true := by rw [bne_iff_ne]; omega
    have hres := hid (show decide (ls = ms) = false by rw [decide_eq_false_iff_not]; intro e; exact hlen (by rw [e]))
    go_enter Try.func18, Try.ntmps18
    go_wp2
    go_ret
    exact BoolDraw.mk hres.out.symm ⟨0, rfl⟩
theorem its_next {X X' : World} {A : Option Addr} {L : List Int} (h : Its X X.heap.size A L) (hb : Below X.heap.size X X') : Its X' X'.heap.size A L := (h.below hb (Nat.le_refl _)).more hb.size
theorem Try.info_bool : (Try.prog.info? 4).map (fun i => (i.zero, i.size, i.bytes)) = some (some (.bool false), 1, 1) := by kernel_rfl
theorem made_bool (n : Nat) : (madeCells (Value.bool false).cells (n * 1)).toList = List.replicate n (.bool false) := by
  rw [Nat.mul_one]; exact toList_madeCells_one _ _
/-- a row of truth values that the call made, in block g -/
def Br (w : World) (base g N : Nat) (l : List Bool) : Prop := w.ownsRow base 4 1 (.slice (some ⟨g, 0, none⟩) N N) N (l.map Value.bool)
theorem Br.len {w : World} {base g N : Nat} {l : List Bool} (h : Br w base g N l) : l.length = N := by have := h.1; simpa using this
theorem Br.set {w : World} {base g N : Nat} {l : List Bool} (h : Br w base g N l) (j : Nat) (x : Bool) : Br (w.setCell ⟨g, j, none⟩ (.bool x)) base g N (l.set j x) := by
  have := (World.ownsRow.stored h j (.bool x)).1
  unfold Br
  rw [List.map_set]
  exact this
theorem Br.cell {w : World} {base g N : Nat} {l : List Bool} (h : Br w base g N l) {j : Nat} (hj : j < N) : w.cell? ⟨g, j, none⟩ = some (.bool (l.getD j false)) := by
  have hl := h.len
  have := World.ownsRow.cellAt h j (by omega)
  rw [this, List.getElem?_map, List.getD_eq_getElem?_getD, List.getElem?_eq_getElem (by omega)]
  rfl
theorem Br.free {w : World} {base g N : Nat} {l : List Bool} (h : Br w base g N l) (j : Nat) : w.frozen? ⟨g, j, none⟩ = false := World.ownsRow.frozenAt h j
/-- which numbers were among the first ones -/
def sn (L : List Int) (k : Nat) : List Bool := (List.range L.length).map fun (j : Nat) => decide ((j : Int) ∈ L.take k)
theorem sn_len (L : List Int) (k : Nat) : (sn L k).length = L.length := by unfold sn; rw [List.length_map, List.length_range]
theorem sn_zero (L : List Int) : sn L 0 = List.replicate L.length false := by
  unfold sn
  apply List.ext_getElem
  · rw [List.length_map, List.length_range, List.length_replicate]
  · intro i h1 h2
    rw [List.getElem_map, List.getElem_replicate]
    exact decide_eq_false (fun h => by simp at h)
theorem sn_get (L : List Int) (k m : Nat) (hm : m < L.length) : (sn L k).getD m false = decide ((m : Int) ∈ L.take k) := by
  unfold sn
  rw [List.getD_eq_getElem?_getD, List.getElem?_map, List.getElem?_range hm]
  rfl
theorem sn_next (L : List Int) (k m : Nat) (hk : L[k]? = some (m : Int)) : (sn L k).set m true = sn L (k + 1) := by
  have e : ∀ i : Nat, decide ((i : Int) ∈ L.take (k + 1)) = if m = i then true else decide ((i : Int) ∈ L.take k) := by
    intro i
    have hm : (i : Int) ∈ L.take (k + 1) ↔ (i : Int) ∈ L.take k ∨ (i : Int) = (m : Int) := by
      rw [List.take_add_one, hk, List.mem_append]
      simp
    by_cases h : m = i
    · subst h
      rw [if_pos rfl, decide_eq_true_iff]
      exact hm.2 (.inr rfl)
    · rw [if_neg h, Bool.eq_iff_iff, decide_eq_true_iff, decide_eq_true_iff, hm]
      exact ⟨fun h1 => h1.resolve_right (fun h2 => h (by omega)), .inl⟩
  apply List.ext_getElem
  · rw [List.length_set, sn_len, sn_len]
  · intro i h1 h2
    rw [List.getElem_set]
    unfold sn
    simp only [List.getElem_map, List.getElem_range, e]
/-- each number stands once: at its place it was not seen ahead -/
theorem each_new {L : List Int} (h : Dic.Each L) (k : Nat) (hk : k < L.length) : ∃ m : Nat, L[k]? = some (m : Int) ∧ m < L.length ∧ decide ((m : Int) ∈ L.take k) = false := by
  have h1 := h.1 _ (List.getElem_mem hk)
  obtain ⟨m, hm⟩ := Int.eq_ofNat_of_zero_le h1.1
  refine ⟨m, by rw [List.getElem?_eq_getElem hk, hm], by omega, ?_⟩
  rw [decide_eq_false_iff_not]
  intro hin
  obtain ⟨i, hi, e⟩ := List.mem_iff_getElem.1 hin
  rw [List.length_take] at hi
  rw [List.getElem_take] at e
  have := h.2 i k (by omega) hk (by rw [List.getD_eq_getElem?_getD, List.getD_eq_getElem?_getD, List.getElem?_eq_getElem hk, List.getElem?_eq_getElem (by omega : i < L.length), e, hm])
  omega
end Go.Proofs.Ytdhapddconoegaa
