/- A row of times of the call's own that is sorted by its first slots (slices.SortFunc, by the library's contract): layer 12. -/
import Derived.Test.YtjjmajhldpoobaaShelf
import Derived.Test.YtjjmajhldpoobaaPerM
import Derived.Test.YtjjmajhldpoobaaRomA
import Derived.Shelf.SlSortCmp.NoneTotal
namespace Go.Proofs.Ytjjmajhldpoobaa
open Go.RowKit Go.Sort
open Whn (Gr Wh)

instance whDefault : Inhabited Wh := ⟨⟨0, 0, 0, 0⟩⟩
theorem flat_wh (l : List Wh) : (flatK wc 4 l.toArray).toList = wcells l := by
  refine List.ext_getElem? fun t => ?_
  by_cases ht : t < l.length * 4
  · have h1 : (flatK wc 4 l.toArray)[t]! = (wc l.toArray[t / 4]!)[t % 4]! := get_flatK wc 4 l.toArray t (by simpa using ht)
    have hs : t < (flatK wc 4 l.toArray).size := by rw [size_flatK]; simpa using ht
    rw [getElem!_pos _ t hs] at h1
    have hq : t / 4 < l.length := by omega
    have hx : l[t / 4]? = some l[t / 4] := List.getElem?_eq_getElem hq
    have hx2 : l.toArray[t / 4]! = l[t / 4] := by rw [getElem!_pos _ _ (by simpa using hq)]; simp
    obtain ⟨a0, a1, a2, a3⟩ := wcells_get l (t / 4) _ hx
    rw [Array.getElem?_toList, Array.getElem?_eq_getElem hs, h1, hx2]
    have hm : t % 4 < 4 := Nat.mod_lt _ (by decide)
    have ht4 : t = t / 4 * 4 + t % 4 := by omega
    rcases (show t % 4 = 0 ∨ t % 4 = 1 ∨ t % 4 = 2 ∨ t % 4 = 3 by omega) with h | h | h | h <;> rw [h] at ht4 <;> rw [h] <;> conv => rhs; rw [ht4]
    · rw [Nat.add_zero, a0]; rfl
    · rw [a1]; rfl
    · rw [a2]; rfl
    · rw [a3]; rfl
  · rw [List.getElem?_eq_none (by rw [Array.length_toList, size_flatK]; simp; omega), List.getElem?_eq_none (by rw [wcells_len]; omega)]
/-- down: a row of the call's own, in the sort's words -/
theorem holds_own {w : World} {base : Nat} {e : TypeId} {v : Value} {l : List Wh} (h : w.ownsRow base e 4 v l.length (wcells l)) (hv : l ≠ []) :
    ∃ g cap, v = .slice (some ⟨g, 0, none⟩) l.length cap ∧ base ≤ g ∧ g < w.heap.size ∧ HoldsK wc 4 w g 0 l.toArray := by
  rcases h.2 with ⟨_, e0⟩ | ⟨g, cap, cur, rfl, hb, hg, hn, hm, hs, ht⟩
  · exact absurd (List.length_eq_zero_iff.1 e0) hv
  · have hlt : g < w.heap.size := (Array.getElem?_eq_some_iff.1 hg).1
    refine ⟨g, cap, rfl, hb, hlt, fun j hj => ?_⟩
    rw [size_flatK] at hj
    have hj' : j < l.length * 4 := by simpa using hj
    refine ⟨?_, by simp [World.frozen?, hg]⟩
    have e1 : (cur.toList.take (l.length * 4))[j]? = (flatK wc 4 l.toArray).toList[j]? := by rw [ht, flat_wh]
    rw [List.getElem?_take, if_pos hj', Array.getElem?_toList, Array.getElem?_toList, Array.getElem?_eq_getElem (show j < (flatK wc 4 l.toArray).size by rw [size_flatK]; exact hj)] at e1
    simp only [World.cell?, hg, Nat.zero_add]
    simp only [Option.isSome_none, Bool.false_eq_true, if_false]
    rw [e1, getElem!_pos _ j (by rw [size_flatK]; exact hj)]
    rfl
/-- up: the row that the sort leaves -/
theorem own_put {w : World} {base : Nat} {e : TypeId} {size g n cap q : Nat} {xs : List Value} {F : Array Value} (h : w.ownsRow base e size (.slice (some ⟨g, 0, none⟩) n cap) n xs) (hF : F.size = n * size) :
    (putRow id (Sort.ahead w q) g 0 F).ownsRow base e size (.slice (some ⟨g, 0, none⟩) n cap) n F.toList := by
  rcases h.2 with ⟨e0, _⟩ | ⟨g', cap', cur, e0, hb, hg, hn, hm, hs, ht⟩
  · cases e0
  · injection e0 with e1 _ e3
    injection e1 with e1
    injection e1 with e1
    subst e1; subst e3
    have hle : n * size ≤ cur.size := by rw [hs]; exact Nat.mul_le_mul_right _ hn
    refine ⟨by rw [Array.length_toList]; exact hF, .inr ⟨g, cap, putCells id 0 F cur, rfl, hb, ?_, hn, hm, by simpa [putCells] using hs, ?_⟩⟩
    · simp [putRow, mapBlock, Sort.ahead, Array.getElem?_modify, hg, onCells]
    · apply List.ext_getElem?
      intro j
      rw [List.getElem?_take, Array.getElem?_toList, Array.getElem?_toList]
      by_cases hj : j < n * size
      · have hjc : j < cur.size := by omega
        simp only [if_pos hj, putCells, Array.getElem?_mapIdx, Array.getElem?_eq_getElem hjc, Option.map_some]
        rw [if_pos (by omega), Array.getElem?_eq_getElem (by omega), Nat.sub_zero, getElem!_pos _ j (by omega)]
        rfl
      · rw [if_neg hj, Array.getElem?_eq_none (by omega)]
theorem own_grow {w : World} {base : Nat} {e : TypeId} {size n : Nat} {v : Value} {xs : List Value} (h : w.ownsRow base e size v n xs) (os : Array Obj) : (grow w os).ownsRow base e size v n xs := by
  rcases h.2 with ⟨e0, hn⟩ | ⟨g, cap, cur, e0, hb, hg, hn, hm, hs, ht⟩
  · exact ⟨h.1, .inl ⟨e0, hn⟩⟩
  · exact ⟨h.1, .inr ⟨g, cap, cur, e0, hb, by rw [heap_grow_old w os (Array.getElem?_eq_some_iff.1 hg).1]; exact hg, hn, hm, hs, ht⟩⟩
theorem below_sorted {B : Nat} {w0 w : World} {g m : Nat} {d : Array Wh} {os : Array Obj} (h : Below B w0 w) (hB : B ≤ w.heap.size) (hg : B ≤ g) : Below B w0 (sortWorldK wc 4 w g 0 m d os) := by
  refine h.trans ⟨rfl, rfl, rfl, ?_, fun k hk => ?_⟩
  · exact size_sortWorldK_c wc 4 w g 0 m d os
  · unfold sortWorldK
    rw [heap_grow_old _ os (by rw [show (putRowK wc 4 (Sort.ahead w m) g 0 d).heap.size = w.heap.size from size_putRow _ _ _ _ _]; omega)]
    simp [putRowK, putRow, mapBlock, Sort.ahead, Array.getElem?_modify, show g ≠ k by omega]
/-- by the first slot -/
def cfS (x y : Wh) : Int := Lib.compareInt x.s y.s
theorem cfS_lt (x y : Wh) : ltOf cfS x y = decide (x.s < y.s) := by
  unfold ltOf cfS Lib.compareInt
  by_cases h1 : x.s < y.s
  · simp [h1]
  · by_cases h2 : y.s < x.s <;> simp [h1, h2]
theorem cfS_swo : SWO (ltOf cfS) where
  irrefl x := by rw [cfS_lt]; simp
  trans x y z h1 h2 := by rw [cfS_lt] at *; simp at *; omega
  ntrans x y z h1 h2 := by rw [cfS_lt] at *; simp at *; omega
theorem perm_of {d d' : Array Wh} (h : PermIn 0 d.size d d') : d'.toList.Perm d.toList := by
  have e := h.2.2
  have e1 : d.extract 0 d.size = d := by simp
  have e2 : d'.extract 0 d.size = d' := by rw [← h.1]; simp
  rw [e1, e2] at e
  exact e
theorem ris_of {d' : Array Wh} (h : SortedIn (ltOf cfS) 0 d'.size d') : Whn.RisS d'.toList := by
  unfold Whn.RisS
  rw [List.pairwise_iff_getElem]
  intro i j hi hj hij
  rw [Array.length_toList] at hi hj
  have := h i j (Nat.zero_le _) hij hj
  rw [cfS_lt, getElem!_pos _ i hi, getElem!_pos _ j hj, decide_eq_false_iff_not] at this
  simp only [Array.getElem_toList]
  omega
set_option maxRecDepth 4000 in
set_option maxHeartbeats 1000000 in
theorem p_cmpS (x y : Wh) (W : World) : Calls Try.prog 60 #[wv x, wv y] W fun e w' => e = .returned (.int .i64 (cfS x y)) ∧ ∃ q os', w' = grow (W.drewN q) os' := by
  have hcon := fun W' => AnyG.cmp_Compare_int Try.cmpInt x.s y.s W'
  change ∀ W', Calls Try.prog 53 _ _ _ at hcon
  change Calls _ _ _ _ (fun e w' => e = .returned (.int .i64 (Lib.compareInt x.s y.s)) ∧ _)
  generalize Lib.compareInt x.s y.s = r at hcon ⊢
  go_enter Try.func60, Try.ntmps60
  go_wp2_with (go_at_call 53; refine (hcon _).mono ?_; rintro e w' ⟨rfl, rfl⟩)
  go_ret
  exact ⟨rfl, 0, _, by rw [alloc_eq_grow, alloc_eq_grow, grow_grow]; rfl⟩
theorem p_Sort (base : Nat) (v : Value) (l : List Wh) (w : World) (h : w.ownsRow base 48 4 v l.length (wcells l)) (hm : l.length ≤ 1000000) (hb : base ≤ w.heap.size) :
    Calls Try.prog 51 #[v, .func (.func 60) #[] #[]] w fun e w' => e = .returned (.tuple #[]) ∧ ∃ rs : List Wh, rs.Perm l ∧ Whn.RisS rs ∧ rs.length = l.length ∧ w'.ownsRow base 48 4 v l.length (wcells rs) ∧ Below base w w' := by
  by_cases hl : l = []
  · subst hl
    have hp : ∃ p cap, v = .slice p 0 cap := by
      rcases h.2 with ⟨e0, _⟩ | ⟨g, cap, cur, e0, _⟩
      · exact ⟨_, _, e0⟩
      · exact ⟨_, _, e0⟩
    obtain ⟨p, cap, rfl⟩ := hp
    have hcon := AnyF.slices_SortFunc_none Try.sortWh p cap (.func (.func 60) #[] #[]) w
    change Calls Try.prog 51 _ _ _ at hcon
    refine hcon.mono ?_
    rintro e w' ⟨rfl, rfl⟩
    exact ⟨rfl, [], List.Perm.refl _, List.Pairwise.nil, rfl, h, Below.refl _ _⟩
  · obtain ⟨g, cap, rfl, hg, hlt, hH⟩ := holds_own h hl
    have eg : ∀ args w, (callFunc 60 args).run Try.prog w = .ok (.enter 60 args) w := enters_of Try.func60 (by kernel_rfl) rfl
    have hcon := AnyQ.slices_SortFunc Try.sortWh 4 Try.isAgg48 Try.sizeOf48 wc (fun _ => rfl) (fun x v hv => by simp [wc] at hv; rcases hv with rfl | rfl | rfl | rfl <;> rfl) cfS cfS_swo 60 #[] g 0 cap l.toArray w eg (fun _ _ _ _ x y => p_cmpS x y _) hH hlt (by simp; omega)
    change Calls Try.prog 51 _ _ _ at hcon
    refine hcon.mono ?_
    rintro e w' ⟨rfl, d', n, os, hp, hs, rfl⟩
    have hsz : d'.size = l.length := by rw [hp.1]; simp
    have hp' := perm_of hp
    refine ⟨rfl, d'.toList, hp', ris_of (by rw [hsz]; simpa using hs), by simpa using hsz, ?_, below_sorted (Below.refl _ _) hb hg⟩
    unfold sortWorldK putRowK
    rw [← flat_wh]
    exact own_grow (own_put h (by rw [size_flatK]; simpa using congrArg (· * 4) hsz)) os
end Go.Proofs.Ytjjmajhldpoobaa
