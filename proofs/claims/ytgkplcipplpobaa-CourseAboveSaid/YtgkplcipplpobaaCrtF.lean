/- The loads of a Way as the program makes them, place by place (layer 14): mathematics, and what lies in memory the while. -/
import Derived.Test.YtgkplcipplpobaaCrtE
import Derived.Test.YtgkplcipplpobaaCrsK
namespace Go.Proofs.Ytgkplcipplpobaa
open Go.RowKit
open Whn (Gr Wh)

theorem flat_congr {α β : Type} {f g : α → List β} : ∀ {L : List α}, (∀ a ∈ L, f a = g a) → L.flatMap f = L.flatMap g
  | [], _ => rfl
  | a :: L, h => by rw [List.flatMap_cons, List.flatMap_cons, h a List.mem_cons_self, flat_congr fun b hb => h b (List.mem_cons_of_mem _ hb)]
/-- all that a load so far comes to with m places more -/
def extN (ls : List (List Int)) : Nat → List Int → List (List Int)
  | 0, pre => [pre]
  | m + 1, pre => (ls.getD pre.length []).flatMap fun y => extN ls m (pre ++ [y])
theorem ext_all (ls : List (List Int)) : ∀ m k, (allN ls k).flatMap (extN ls m) = allN ls (k + m)
  | 0, k => by
    rw [show extN ls 0 = fun pre => [pre] from rfl]
    simp
  | m + 1, k => by
    have ih := ext_all ls m (k + 1)
    rw [show k + (m + 1) = k + 1 + m by omega, ← ih, allN, List.flatMap_assoc]
    refine flat_congr fun pre hp => ?_
    rw [extN, allN_row hp]
    unfold addC
    rw [List.flatMap_map]
theorem ext_zero (ls : List (List Int)) : extN ls ls.length [] = allN ls ls.length := by
  have := ext_all ls ls.length 0
  rw [Nat.zero_add] at this
  rw [← this, allN]
  simp
theorem ext_len {ls : List (List Int)} (h : ∀ l ∈ ls, l.length ≤ 8) : ∀ m pre, (extN ls m pre).length ≤ 8 ^ m
  | 0, pre => by rw [extN]; simp
  | m + 1, pre => by
    rw [extN, Nat.pow_succ, Nat.mul_comm]
    have h8 : (ls.getD pre.length []).length ≤ 8 := by
      rw [List.getD_eq_getElem?_getD]
      cases hx : ls[pre.length]? with
      | none => simp
      | some v => exact h v (List.mem_of_getElem? hx)
    exact Nat.le_trans (flat_le _ (8 ^ m) _ (fun y _ => ext_len h m (pre ++ [y]))) (Nat.mul_le_mul_right _ h8)
/-- behind j classes of a part -/
def ext1 (ls : List (List Int)) (m : Nat) (pre v : List Int) (j : Nat) : List (List Int) := (v.take j).flatMap fun y => extN ls m (pre ++ [y])
theorem ext1_zero (ls : List (List Int)) (m : Nat) (pre v : List Int) : ext1 ls m pre v 0 = [] := by simp [ext1]
theorem ext1_next {ls : List (List Int)} {m : Nat} {pre v : List Int} {j : Nat} {y : Int} (hy : v[j]? = some y) : ext1 ls m pre v (j + 1) = ext1 ls m pre v j ++ extN ls m (pre ++ [y]) := by
  unfold ext1
  rw [List.take_add_one, hy, List.flatMap_append]
  simp
theorem ext1_end {ls : List (List Int)} {m k : Nat} {pre v : List Int} (hk : pre.length = k) (hv : ls[k]? = some v) : ext1 ls m pre v v.length = extN ls (m + 1) pre := by
  unfold ext1
  rw [List.take_length, extN, hk, List.getD_eq_getElem?_getD, hv]
  rfl
theorem ext1_len {ls : List (List Int)} (h : ∀ l ∈ ls, l.length ≤ 8) (m : Nat) (pre v : List Int) (j : Nat) : (ext1 ls m pre v j).length ≤ j * 8 ^ m := by
  unfold ext1
  refine Nat.le_trans (flat_le _ (8 ^ m) _ (fun y _ => ext_len h m (pre ++ [y]))) (Nat.mul_le_mul_right _ ?_)
  rw [List.length_take]
  exact Nat.min_le_left _ _
/-- rows of the call's own, all in blocks from 'base' on -/
def RowsAt (w : World) (base : Nat) (v : Value) (ls : List (List Int)) : Prop := ∃ vals, w.ownsRow base 29 1 v ls.length vals ∧ ∀ (k : Nat) (l : List Int), ls[k]? = some l → ∃ Ak ck, vals[k]? = some (Value.slice Ak l.length ck) ∧ l.length ≤ ck ∧ IntRow w Ak l ∧ ∀ ad, Ak = some ad → base ≤ ad.block
theorem RowsAt.owr {w : World} {base : Nat} {v : Value} {ls : List (List Int)} (h : RowsAt w base v ls) : OwR w base v ls := by
  obtain ⟨vals, ho, hc⟩ := h
  refine ⟨vals, ho, fun k l hl => ?_⟩
  obtain ⟨Ak, ck, h1, h2, h3, _⟩ := hc k l hl
  exact ⟨Ak, ck, h1, h2, h3⟩
theorem RowsAt.nil (w : World) (base : Nat) : RowsAt w base (.slice none 0 0) [] := ⟨[], World.ownsRow_nil w base _ 1, fun k l h => by cases h⟩
theorem RowsAt.next {w w' : World} {base : Nat} {v : Value} {ls : List (List Int)} (h : RowsAt w base v ls) (hb : Below w.heap.size w w') : RowsAt w' base v ls := by
  obtain ⟨vals, ho, hc⟩ := h
  refine ⟨vals, own_below ho hb, fun k l hl => ?_⟩
  obtain ⟨Ak, ck, h1, h2, h3, h4⟩ := hc k l hl
  exact ⟨Ak, ck, h1, h2, h3.next hb, h4⟩
theorem heap_other (w : World) (p : Addr) (v : Value) {k : Nat} (hk : k ≠ p.block) : (w.setCell p v).heap[k]? = w.heap[k]? := by
  simp only [World.setCell, Array.getElem?_modify, if_neg (Ne.symm hk)]
theorem cell_other (w : World) (p : Addr) (v : Value) {q : Addr} (hk : q.block ≠ p.block) : (w.setCell p v).cell? q = w.cell? q := by
  unfold World.cell?
  rw [heap_other w p v hk]
theorem RowsAt.set {w : World} {base : Nat} {v : Value} {ls : List (List Int)} (h : RowsAt w base v ls) (p : Addr) (hp : p.block < base) (x : Value) : RowsAt (w.setCell p x) base v ls := by
  obtain ⟨vals, ho, hc⟩ := h
  refine ⟨vals, ?_, fun k l hl => ?_⟩
  · obtain ⟨h1, h2⟩ := ho
    refine ⟨h1, ?_⟩
    rcases h2 with h | ⟨g, cap, cur, hv, hg, hh, r⟩
    · exact .inl h
    · exact .inr ⟨g, cap, cur, hv, hg, (heap_other w p x (by omega)).trans hh, r⟩
  · obtain ⟨Ak, ck, h1, h2, h3, h4⟩ := hc k l hl
    refine ⟨Ak, ck, h1, h2, fun hn => ?_, h4⟩
    obtain ⟨ad, cs, e, hh, hcell⟩ := h3 hn
    have hne := h4 ad e
    exact ⟨ad, cs, e, (heap_other w p x (by omega)).trans hh, fun j u hu => (cell_other w p x (by rw [add_block]; omega)).trans (hcell j u hu)⟩
theorem RowsAt.push {w w' : World} {base : Nat} {v v' : Value} {ls : List (List Int)} {vals : List Value} {B : Option Addr} {c : Nat} {r : List Int} (ho : w.ownsRow base 29 1 v ls.length vals)
    (hc : ∀ (k : Nat) (l : List Int), ls[k]? = some l → ∃ Ak ck, vals[k]? = some (Value.slice Ak l.length ck) ∧ l.length ≤ ck ∧ IntRow w Ak l ∧ ∀ ad, Ak = some ad → base ≤ ad.block)
    (hr : IntRow w B r) (hrc : r.length ≤ c) (hB : ∀ ad, B = some ad → base ≤ ad.block) (hg : w.grownBy w' v.ownBlock) (ho' : w'.ownsRow base 29 1 v' (ls.length + 1) (vals ++ [.slice B r.length c])) : RowsAt w' base v' (ls ++ [r]) := by
  have hvl : vals.length = ls.length := by have := ho.1; rwa [Nat.mul_one] at this
  refine ⟨_, by rw [List.length_append, List.length_singleton]; exact ho', fun k l hl => ?_⟩
  rcases Nat.lt_or_ge k ls.length with h | h
  · rw [List.getElem?_append_left h] at hl
    obtain ⟨Ak, ck, h1, h2, h3, h4⟩ := hc k l hl
    exact ⟨Ak, ck, by rw [List.getElem?_append_left (by omega)]; exact h1, h2, h3.grown hg (OwR.typ ho), h4⟩
  · rw [List.getElem?_append_right h] at hl
    have hk : k = ls.length := by
      have := (List.getElem?_eq_some_iff.1 hl).1
      simp only [List.length_singleton] at this
      omega
    subst hk
    rw [Nat.sub_self] at hl
    injection hl with hl
    subst hl
    exact ⟨B, c, by rw [List.getElem?_append_right (by omega), hvl, Nat.sub_self]; rfl, hrc, hr.grown hg (OwR.typ ho), hB⟩
/-- which blocks are which -/
structure Ids where
  b : Nat
  L : Nat
  W : Nat
  R : Nat
  G : Nat
  S : Nat
  F : Nat
  base : Nat
def Ids.ok (i : Ids) : Prop := i.b ≤ i.L ∧ i.L < i.W ∧ i.W < i.R ∧ i.R < i.G ∧ i.G < i.S ∧ i.S < i.F ∧ i.F < i.base
abbrev Ids.caps (i : Ids) : Array Value := #[.pointer (some ⟨i.W, 0, none⟩), .pointer (some ⟨i.L, 0, none⟩), .pointer (some ⟨i.S, 0, none⟩), .pointer (some ⟨i.R, 0, none⟩), .pointer (some ⟨i.F, 0, none⟩)]
/-- what lies in memory while loads are made -/
structure Chs (i : Ids) (A : Option Addr) (c : Nat) (l : List ClA) (B : Option Addr) (d : Nat) (ls : List (List Int)) (w X : World) (cur : List Int) (acc : List (List Int)) : Prop where
  hL : Ob X i.L [.slice A l.length c] 32
  hW : Ob X i.W [.slice B ls.length d] 42
  hS : Ob X i.S [.slice (some ⟨i.G, 0, none⟩) ls.length ls.length] 29
  hF : Ob X i.F [.func (.func 54) #[] i.caps] 71
  hG : Ob X i.G (cur.map (Value.int .i64)) 3
  hB : Below w.heap.size w X
  hb : i.base ≤ X.heap.size
  hR : ∃ rv, Ob X i.R [rv] 34 ∧ RowsAt X i.base rv acc
section
variable {i : Ids} {A : Option Addr} {c : Nat} {l : List ClA} {B : Option Addr} {d : Nat} {ls : List (List Int)} {w X X' : World} {cur : List Int} {acc : List (List Int)}
theorem Chs.next (h : Chs i A c l B d ls w X cur acc) (hb : Below X.heap.size X X') : Chs i A c l B d ls w X' cur acc := by
  obtain ⟨h1, h2, h3, h4, h5, h6, h7, rv, h8, h9⟩ := h
  exact ⟨h1.next hb, h2.next hb, h3.next hb, h4.next hb, h5.next hb, h6.trans (hb.mono h6.size), Nat.le_trans h7 hb.size, rv, h8.next hb, h9.next hb⟩
theorem setCell_size (w : World) (p : Addr) (v : Value) : (w.setCell p v).heap.size = w.heap.size := by simp [World.setCell]
/-- 'load[k] = y' -/
theorem Chs.load (hi : i.ok) (hw : i.b = w.heap.size) (h : Chs i A c l B d ls w X cur acc) (k : Nat) (y : Int) : Chs i A c l B d ls w (X.setCell ⟨i.G, k, none⟩ (.int .i64 y)) (cur.set k y) acc := by
  obtain ⟨h1, h2, h3, h4, h5, h6, h7, rv, h8, h9⟩ := h
  unfold Ids.ok at hi
  refine ⟨h1.other (by show i.G ≠ i.L; omega) _, h2.other (by show i.G ≠ i.W; omega) _, h3.other (by show i.G ≠ i.S; omega) _, h4.other (by show i.G ≠ i.F; omega) _, ?_, h6.setCell (by show w.heap.size ≤ i.G; omega) _, by rw [setCell_size]; exact h7, rv, h8.other (by show i.G ≠ i.R; omega) _, h9.set _ (by show i.G < i.base; omega) _⟩
  rw [List.map_set]
  exact h5.set k _
/-- 'loads = ..' -/
theorem Chs.push (hi : i.ok) (hw : i.b = w.heap.size) (h : Chs i A c l B d ls w X cur acc) {rv rv' : Value} {vals : List Value} (hrv : Ob X i.R [rv] 34) (ho : X.ownsRow i.base 29 1 rv acc.length vals)
    (hg : X.grownBy X' rv.ownBlock) {acc' : List (List Int)} (h' : RowsAt X' i.base rv' acc') : Chs i A c l B d ls w (X'.setCell ⟨i.R, 0, none⟩ rv') cur acc' := by
  obtain ⟨h1, h2, h3, h4, h5, h6, h7, _, _, _⟩ := h
  unfold Ids.ok at hi
  have hne : ∀ k, k < i.base → some k ≠ rv.ownBlock := fun k hk e => by have := (ho.lt k e.symm).1; omega
  have hk : ∀ {k : Nat} {cs : List Value} {t : TypeId}, k < i.base → Ob X k cs t → Ob X' k cs t := fun hk h => (hg.block _ h.lt (hne _ hk)).trans h
  refine ⟨(hk (by omega) h1).other (by show i.R ≠ i.L; omega) _, (hk (by omega) h2).other (by show i.R ≠ i.W; omega) _, (hk (by omega) h3).other (by show i.R ≠ i.S; omega) _, (hk (by omega) h4).other (by show i.R ≠ i.F; omega) _, (hk (by omega) h5).other (by show i.R ≠ i.G; omega) _, ?_, by rw [setCell_size]; exact Nat.le_trans h7 hg.size, rv', ?_, h'.set _ (by show i.R < i.base; omega) _⟩
  · exact (h6.grown hg h6.size (fun k hk => by have := (ho.lt k hk).1; omega)).setCell (by show w.heap.size ≤ i.R; omega) _
  · exact (hk (by omega) hrv).set 0 rv'
end
end Go.Proofs.Ytgkplcipplpobaa
