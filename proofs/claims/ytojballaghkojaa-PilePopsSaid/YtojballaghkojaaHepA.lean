/- A heap of keys with their places in a map (package pile's items); Less (layer 7). -/
import Derived.Test.YtojballaghkojaaHepM
import Derived.Test.YtojballaghkojaaMapI
import Derived.Test.YtojballaghkojaaPilB
import Derived.OneCell
namespace Go.Proofs.Ytojballaghkojaa
open Go.RowKit Go.Shelf
open Pil (It)

theorem icells_set (l : List It) (i : Nat) (x : It) (hi : i < l.length) : ((icells l).set (i * 2) (.int .i64 x.1)).set (i * 2 + 1) (.int .i64 x.2) = icells (l.set i x) := by
  induction l generalizing i with
  | nil => simp at hi
  | cons y r ih =>
    cases i with
    | zero => rfl
    | succ i =>
      rw [icells_cons, show (i + 1) * 2 = i * 2 + 1 + 1 by omega, List.set_cons_succ, List.set_cons_succ, List.set_cons_succ, List.set_cons_succ, ih i (by simpa using hi)]
      rfl
theorem icells_g (l : List It) (i : Nat) (hi : i < l.length) : (icells l)[i * 2]? = some (.int .i64 (Hep.g l i).1) ∧ (icells l)[i * 2 + 1]? = some (.int .i64 (Hep.g l i).2) := icells_get l i _ (Hep.g_eq hi)
/-- the place of a key, as the map has it -/
def posf (l : List It) (key : Int) : Option Int := (Pil.find l key).map fun k : Nat => (k : Int)
theorem find_iff {l : List It} (hn : (Pil.keys l).Nodup) (key : Int) (k : Nat) : Pil.find l key = some k ↔ k < l.length ∧ (Hep.g l k).1 = key := by
  constructor
  · intro h
    obtain ⟨r, h1, h2⟩ := Pil.find_some h
    exact ⟨h2, by rw [Hep.g_of h1]⟩
  · rintro ⟨h1, h2⟩
    have hm : key ∈ Pil.keys l := Pil.mem_keys.2 ⟨(Hep.g l k).2, by rw [← h2]; exact List.mem_of_getElem? (Hep.g_eq h1)⟩
    cases hf : Pil.find l key with
    | none => exact absurd hm (Pil.find_none hf)
    | some j =>
      obtain ⟨r, h3, h4⟩ := Pil.find_some hf
      have e1 : (Pil.keys l)[j]? = some key := by unfold Pil.keys; rw [List.getElem?_map, h3]; rfl
      have e2 : (Pil.keys l)[k]? = some key := by unfold Pil.keys; rw [List.getElem?_map, Hep.g_eq h1, ← h2]; rfl
      have hj : j < (Pil.keys l).length := by unfold Pil.keys; rw [List.length_map]; exact h4
      rw [(List.getElem?_inj hj hn).1 (e1.trans e2.symm)]
theorem posf_iff {l : List It} (hn : (Pil.keys l).Nodup) (key z : Int) : posf l key = some z ↔ ∃ k : Nat, z = (k : Int) ∧ k < l.length ∧ (Hep.g l k).1 = key := by
  unfold posf
  rw [Option.map_eq_some_iff]
  constructor
  · rintro ⟨k, h, rfl⟩; exact ⟨k, rfl, (find_iff hn key k).1 h⟩
  · rintro ⟨k, rfl, h⟩; exact ⟨k, (find_iff hn key k).2 h, rfl⟩
theorem posf_ext {l : List It} (hn : (Pil.keys l).Nodup) {f : Int → Option Int} (h : ∀ key z, f key = some z ↔ ∃ k : Nat, z = (k : Int) ∧ k < l.length ∧ (Hep.g l k).1 = key) : f = posf l := by
  funext key
  apply Option.ext
  intro z
  rw [h, posf_iff hn]
theorem g_inj {l : List It} (hn : (Pil.keys l).Nodup) {i j : Nat} (hi : i < l.length) (hj : j < l.length) (h : (Hep.g l i).1 = (Hep.g l j).1) : i = j := by
  have := (find_iff hn (Hep.g l j).1 i).2 ⟨hi, h⟩
  rw [(find_iff hn (Hep.g l j).1 j).2 ⟨hj, rfl⟩] at this
  exact (Option.some.inj this).symm
theorem perm_nd {l s : List It} (h : l.Perm s) (hs : (Pil.keys s).Nodup) : (Pil.keys l).Nodup := Pil.Perm.nd h hs
theorem posf_sw {l : List It} (hn : (Pil.keys l).Nodup) {i j : Nat} (hi : i < l.length) (hj : j < l.length) : upd (upd (posf l) (Hep.g l j).1 (some (i : Int))) (Hep.g l i).1 (some (j : Int)) = posf (Hep.sw l i j) := by
  refine posf_ext (perm_nd (Hep.sw_perm hi hj) hn) fun key z => ?_
  simp only [Hep.sw_len]
  unfold upd
  constructor
  · intro h
    split at h
    · rename_i e
      injection h with h
      exact ⟨j, h.symm, hj, by rw [Hep.g_sw hi hj, if_pos rfl]; exact e.symm⟩
    · rename_i e1
      split at h
      · rename_i e
        injection h with h
        have hij : i ≠ j := fun e2 => e1 (by rw [e, e2])
        exact ⟨i, h.symm, hi, by rw [Hep.g_sw hi hj, if_neg hij, if_pos rfl]; exact e.symm⟩
      · rename_i e2
        obtain ⟨k, rfl, hk, hg⟩ := (posf_iff hn key z).1 h
        exact ⟨k, rfl, hk, by rw [Hep.g_sw hi hj, if_neg (fun e => e2 (by rw [← hg, e])), if_neg (fun e => e1 (by rw [← hg, e]))]; exact hg⟩
  · rintro ⟨k, rfl, hk, hg⟩
    rw [Hep.g_sw hi hj] at hg
    split at hg
    · rename_i e; subst e
      rw [if_pos hg.symm]
    · rename_i e1
      split at hg
      · rename_i e; subst e
        have hne : (Hep.g l j).1 ≠ (Hep.g l k).1 := fun e => e1 (g_inj hn hj hk e).symm
        rw [if_neg (by rw [← hg]; exact hne), if_pos hg.symm]
      · rename_i e2
        rw [if_neg (by rw [← hg]; exact fun e => e2 (g_inj hn hk hi e)), if_neg (by rw [← hg]; exact fun e => e1 (g_inj hn hk hj e))]
        exact (posf_iff hn key _).2 ⟨k, rfl, hk, hg⟩

theorem cell_lt' {w : World} {b o : Nat} {v : Value} (h : w.cell? ⟨b, o, none⟩ = some v) : b < w.heap.size := World.block_lt_of_cell? _ _ h
abbrev ptr (p : Nat) : Value := .pointer (some ⟨p, 0, none⟩)
theorem MT : MapT Try.prog 52 3 3 := ⟨by kernel_rfl, by kernel_rfl, by kernel_rfl, fun w => by kernel_rfl⟩
/-- a pile that is not empty, or was not: header, row, map -/
structure St (w : World) (p g c bm : Nat) (l : List It) : Prop where
  hd : w.heap[p]? = some (.cells #[.slice (some ⟨g, 0, none⟩) l.length c, .map (some bm)] 54)
  row : w.ownsRow 0 50 2 (.slice (some ⟨g, 0, none⟩) l.length c) l.length (icells l)
  map : IM Try.prog 3 3 w bm l.length (posf l)
  pg : p ≠ g
  pb : p ≠ bm
  i64 : ∀ x ∈ l, I64 x.1 ∧ I64 x.2
  nd : (Pil.keys l).Nodup
  len : l.length ≤ 20000
theorem St.gb {w : World} {p g c bm : Nat} {l : List It} (h : St w p g c bm l) : g ≠ bm := by
  rintro rfl
  obtain ⟨D, ⟨es, clock, hb, _⟩, _⟩ := h.map
  rcases h.row.2 with ⟨h', _⟩ | ⟨g', cap, cur, h', _, hg, _⟩
  · cases h'
  · injection h' with h' _ _
    injection h' with h'
    injection h' with h'
    subst h'
    rw [hb] at hg; cases hg
theorem St.below {w w' : World} {p g c bm : Nat} {l : List It} (h : St w p g c bm l) (hb : Below w.heap.size w w') : St w' p g c bm l :=
  ⟨(hb.block p (Array.getElem?_eq_some_iff.1 h.hd).1).trans h.hd, own_below h.row hb, h.map.keep (hb.block _ h.map.lt), h.pg, h.pb, h.i64, h.nd, h.len⟩
theorem St.cells {w : World} {p g c bm : Nat} {l : List It} (h : St w p g c bm l) : w.cell? ⟨p, 0, none⟩ = some (.slice (some ⟨g, 0, none⟩) l.length c) ∧ w.cell? ⟨p, 1, none⟩ = some (.map (some bm)) := by
  constructor <;> simp [World.cell?, h.hd]
theorem St.at_ {w : World} {p g c bm : Nat} {l : List It} (h : St w p g c bm l) {i : Nat} (hi : i < l.length) : w.cell? ⟨g, i * 2, none⟩ = some (.int .i64 (Hep.g l i).1) ∧ w.cell? ⟨g, i * 2 + 1, none⟩ = some (.int .i64 (Hep.g l i).2) := by
  rw [h.row.cellAt _ (by omega), h.row.cellAt _ (by omega)]
  exact icells_g l i hi

theorem two_new (w : World) (a b c d : Value) (t : TypeId) : ∃ W, ((w.alloc (.cells #[a, b] t)).alloc (.cells #[c, d] t)).drew = W ∧ W.cell? ⟨w.heap.size, 0, none⟩ = some a ∧ W.cell? ⟨w.heap.size, 1, none⟩ = some b ∧ W.cell? ⟨w.heap.size + 1, 0, none⟩ = some c ∧ W.cell? ⟨w.heap.size + 1, 1, none⟩ = some d ∧ Below w.heap.size w W := by
  have h1 : ∀ j u, [a, b][j]? = some u → (w.alloc (.cells #[a, b] t)).cell? ((⟨w.heap.size, 0, none⟩ : Addr).add j) = some u := lit_cells w [a, b] t (show 2 ≤ maxLen by unfold maxLen; omega)
  have h2 : ∀ j u, [c, d][j]? = some u → ((w.alloc (.cells #[a, b] t)).alloc (.cells #[c, d] t)).cell? ((⟨(w.alloc (.cells #[a, b] t)).heap.size, 0, none⟩ : Addr).add j) = some u := lit_cells (w.alloc (.cells #[a, b] t)) [c, d] t (show 2 ≤ maxLen by unfold maxLen; omega)
  have hb2 := below_alloc (w.alloc (.cells #[a, b] t)) (.cells #[c, d] t)
  have hlt : w.heap.size < (w.alloc (.cells #[a, b] t)).heap.size := by simp
  have e0 : (w.alloc (.cells #[a, b] t)).cell? ⟨w.heap.size, 0, none⟩ = some a := by have := h1 0 a rfl; rwa [Addr.add_lit] at this
  have e1 : (w.alloc (.cells #[a, b] t)).cell? ⟨w.heap.size, 1, none⟩ = some b := by have := h1 1 b rfl; rwa [Addr.add_lit] at this
  refine ⟨_, rfl, (hb2.cell (p := ⟨w.heap.size, 0, none⟩) hlt).trans e0, (hb2.cell (p := ⟨w.heap.size, 1, none⟩) hlt).trans e1, ?_, ?_, ?_⟩
  · have := h2 0 c rfl; rwa [World.size_alloc, Addr.add_lit] at this
  · have := h2 1 d rfl; rwa [World.size_alloc, Addr.add_lit] at this
  · exact (below2 (below_alloc w _) hb2).drew
theorem lt_dec (x y : It) : decide (Pil.lt x y) = (decide (x.2 < y.2) || (x.2 == y.2 && decide (x.1 < y.1))) := by
  by_cases h1 : x.2 < y.2 <;> by_cases h2 : x.2 = y.2 <;> by_cases h3 : x.1 < y.1 <;> simp [Pil.lt, h1, h2, h3]
set_option maxRecDepth 20000 in
set_option maxHeartbeats 4000000 in
theorem h_less {w : World} {p g c bm : Nat} {l : List It} (h : St w p g c bm l) {i j : Nat} (hi : i < l.length) (hj : j < l.length) :
    Calls Try.prog 47 #[ptr p, .int .i64 (i : Int), .int .i64 (j : Int)] w fun e w' => e = .returned (.bool (decide (Pil.lt (Hep.g l i) (Hep.g l j)))) ∧ Below w.heap.size w w' := by
  obtain ⟨c0, _⟩ := h.cells
  obtain ⟨x0, x1⟩ := h.at_ hi
  obtain ⟨y0, y1⟩ := h.at_ hj
  have hlen := h.len
  have i1 : (0 : Int) ≤ (i : Int) := by omega
  have i2 : (i : Int) < (l.length : Int) := by omega
  have j1 : (0 : Int) ≤ (j : Int) := by omega
  have j2 : (j : Int) < (l.length : Int) := by omega
  generalize Hep.g l i = x at *
  generalize Hep.g l j = y at *
  obtain ⟨xk, xr⟩ := x
  obtain ⟨yk, yr⟩ := y
  simp only at x0 x1 y0 y1
  have hS : w.drew.cell? ⟨p, 0, none⟩ = some (.slice (some ⟨g, 0, none⟩) l.length c) ∧ w.drew.cell? ⟨g, i * 2, none⟩ = some (.int .i64 xk) ∧ w.drew.cell? ⟨g, i * 2 + 1, none⟩ = some (.int .i64 xr) ∧ w.drew.cell? ⟨g, j * 2, none⟩ = some (.int .i64 yk) ∧ w.drew.cell? ⟨g, j * 2 + 1, none⟩ = some (.int .i64 yr) := ⟨c0, x0, x1, y0, y1⟩
  obtain ⟨bb, Hb⟩ : ∃ b, Hid (decide (Pil.lt (xk, xr) (yk, yr)) = b) := ⟨_, hid rfl⟩
  rw [Hb.out]
  have hp1 := cell_lt' c0
  have hg1 := cell_lt' x0
  have n1 := World.new_ne w _ c0
  have n2 := World.new_ne w _ x0
  have n3 := World.new_ne w _ x1
  have n4 := World.new_ne w _ y0
  have n5 := World.new_ne w _ y1
  clear h
  go_enter Try.func47, Try.ntmps47
  go_wp2_with fail
  go_region_held3 (fun X => X.cell? ⟨p, 0, none⟩ = some (.slice (some ⟨g, 0, none⟩) l.length c) ∧ X.cell? ⟨g, i * 2, none⟩ = some (.int .i64 xk) ∧ X.cell? ⟨g, i * 2 + 1, none⟩ = some (.int .i64 xr) ∧ X.cell? ⟨g, j * 2, none⟩ = some (.int .i64 yk) ∧ X.cell? ⟨g, j * 2 + 1, none⟩ = some (.int .i64 yr)) (first | exact hS | go_keep) (first | fail)
  · obtain ⟨W, hW, d0, d1, d2, d3, hb⟩ := two_new w (.int .i64 xk) (.int .i64 xr) (.int .i64 yk) (.int .i64 yr) 50
    rw [hW]
    have HB := hid hb
    clear hS n1 n2 n3 n4 n5 c0 x0 x1 y0 y1 hW hb
    rcases Int.lt_trichotomy xr yr with h | h | h
    · have HD := hid (Hb.out.symm.trans (decide_eq_true (show Pil.lt (xk, xr) (yk, yr) from .inl h)))
      go_wp2_with fail
      go_ret
      exact ⟨by rw [HD.out]; first | rfl | exact ret_b (decide_eq_false (by omega)) | exact ret_b (decide_eq_true (by omega)), HB.out⟩
    · subst h
      have h1 : xr ≤ xr := Int.le_refl _
      have h2 : (xr == xr) = true := by simp
      by_cases h3 : xk < yk
      · have HD := hid (Hb.out.symm.trans (decide_eq_true (show Pil.lt (xk, xr) (yk, xr) from .inr ⟨rfl, h3⟩)))
        go_wp2_with fail
        go_ret
        exact ⟨by rw [HD.out]; first | rfl | exact ret_b (decide_eq_false (by omega)) | exact ret_b (decide_eq_true (by omega)), HB.out⟩
      · have h4 : yk ≤ xk := by omega
        have HD := hid (Hb.out.symm.trans (decide_eq_false (show ¬ Pil.lt (xk, xr) (yk, xr) from fun e => by unfold Pil.lt at e; simp only at e; omega)))
        clear h3
        go_wp2_with fail
        go_ret
        exact ⟨by rw [HD.out]; first | rfl | exact ret_b (decide_eq_false (by omega)) | exact ret_b (decide_eq_true (by omega)), HB.out⟩
    · have h1 : yr ≤ xr := by omega
      have h2 : (xr == yr) = false := by rw [beq_eq_false_iff_ne]; omega
      have HD := hid (Hb.out.symm.trans (decide_eq_false (show ¬ Pil.lt (xk, xr) (yk, yr) from fun e => by unfold Pil.lt at e; simp only at e; omega)))
      clear h
      go_wp2_with fail
      go_ret
      exact ⟨by rw [HD.out]; first | rfl | exact ret_b (decide_eq_false (by omega)) | exact ret_b (decide_eq_true (by omega)), HB.out⟩
  · obtain ⟨W, hW, d0, d1, d2, d3, hb⟩ := two_new w (.int .i64 yk) (.int .i64 yr) (.int .i64 xk) (.int .i64 xr) 50
    rw [hW]
    have HB := hid hb
    clear hS n1 n2 n3 n4 n5 c0 x0 x1 y0 y1 hW hb
    rcases Int.lt_trichotomy xr yr with h | h | h
    · have HD := hid (Hb.out.symm.trans (decide_eq_true (show Pil.lt (xk, xr) (yk, yr) from .inl h)))
      go_wp2_with fail
      go_ret
      exact ⟨by rw [HD.out]; first | rfl | exact ret_b (decide_eq_false (by omega)) | exact ret_b (decide_eq_true (by omega)), HB.out⟩
    · subst h
      have h1 : xr ≤ xr := Int.le_refl _
      have h2 : (xr == xr) = true := by simp
      by_cases h3 : xk < yk
      · have HD := hid (Hb.out.symm.trans (decide_eq_true (show Pil.lt (xk, xr) (yk, xr) from .inr ⟨rfl, h3⟩)))
        go_wp2_with fail
        go_ret
        exact ⟨by rw [HD.out]; first | rfl | exact ret_b (decide_eq_false (by omega)) | exact ret_b (decide_eq_true (by omega)), HB.out⟩
      · have h4 : yk ≤ xk := by omega
        have HD := hid (Hb.out.symm.trans (decide_eq_false (show ¬ Pil.lt (xk, xr) (yk, xr) from fun e => by unfold Pil.lt at e; simp only at e; omega)))
        clear h3
        go_wp2_with fail
        go_ret
        exact ⟨by rw [HD.out]; first | rfl | exact ret_b (decide_eq_false (by omega)) | exact ret_b (decide_eq_true (by omega)), HB.out⟩
    · have h1 : yr ≤ xr := by omega
      have h2 : (xr == yr) = false := by rw [beq_eq_false_iff_ne]; omega
      have HD := hid (Hb.out.symm.trans (decide_eq_false (show ¬ Pil.lt (xk, xr) (yk, yr) from fun e => by unfold Pil.lt at e; simp only at e; omega)))
      clear h
      go_wp2_with fail
      go_ret
      exact ⟨by rw [HD.out]; first | rfl | exact ret_b (decide_eq_false (by omega)) | exact ret_b (decide_eq_true (by omega)), HB.out⟩
end Go.Proofs.Ytojballaghkojaa
