/- The contracts of a pile's calls (layer 7). -/
import Derived.Test.YtojballaghkojaaPilR
namespace Go.Proofs.Ytojballaghkojaa
open Go.RowKit Go.Shelf
open Pil (It)

/-- what a literal of a pile without items is -/
theorem zero_pl (w : World) : ∃ F, Pl (w.alloc (.cells #[.pointer none] 48)) F w.heap.size [] ∧ ∀ k, F k → w.heap.size ≤ k :=
  ⟨fun k => k = w.heap.size, ⟨Pil.srt_nil, fun k hk => by subst hk; simp, rfl, .inl ⟨rfl, heap_alloc_new w _⟩⟩, fun k hk => by subst hk; exact Nat.le_refl _⟩
def NewRet (w : World) (e : Ending) (w' : World) : Prop := ∃ p, e = .returned (ptr p) ∧ PlNew p [] w w'
theorem p_New (w : World) : Calls Try.prog 9 #[] w (NewRet w) := by
  have F := hid (show PlNew w.heap.size [] w (w.alloc (.cells #[.pointer none] 48)) from ⟨zero_pl w, below_alloc w _⟩)
  go_enter Try.func9, Try.ntmps9
  go_wp2_with fail
  go_ret
  exact ⟨_, rfl, F.out⟩
/-- tells b, and the pile is another one -/
def DidRet (F : Nat → Prop) (p : Nat) (s : List It) (b : Bool) (w : World) (e : Ending) (w' : World) : Prop := e = .returned (.bool b) ∧ PlTo F p s w w'
/-! ### no such key -/
section
variable {w : World} {pv : Value} {key : Int} (C : Hid (Calls Try.prog 23 #[pv, .int .i64 key] w (PcRet none w)))
include C
def NoRet (w : World) (e : Ending) (w' : World) : Prop := e = .returned (.bool false) ∧ w' = w
theorem no_Move (rank : Int) : Calls Try.prog 15 #[pv, .int .i64 key, .int .i64 rank] w (NoRet w) := by
  have C : Hid (Calls Try.prog 23 #[pv, .int .i64 key] w fun e w' => e = .returned (.tuple #[.int .i64 0, .bool false]) ∧ w' = w) := C
  go_enter Try.func15, Try.ntmps15
  go_wp2_with fail
  with_reducible refine (C.out).mono ?_
  rintro e w2 ⟨rfl, rfl⟩
  go_wp2_with fail
  go_ret
  exact ⟨rfl, rfl⟩
theorem no_Drop : Calls Try.prog 16 #[pv, .int .i64 key] w (NoRet w) := by
  have C : Hid (Calls Try.prog 23 #[pv, .int .i64 key] w fun e w' => e = .returned (.tuple #[.int .i64 0, .bool false]) ∧ w' = w) := C
  go_enter Try.func16, Try.ntmps16
  go_wp2_with fail
  with_reducible refine (C.out).mono ?_
  rintro e w2 ⟨rfl, rfl⟩
  go_wp2_with fail
  go_ret
  exact ⟨rfl, rfl⟩
end
/-! ### Push -/
/-- a key that is there already -/
theorem q_Push_no {w : World} {p q bm : Nat} {v : Value} {l : List It} (h : Pq w p q v bm l) {key : Int} (rank : Int) (hk : I64 key) {z : Int} (hf : posf l key = some z) : Calls Try.prog 13 #[ptr p, .int .i64 key, .int .i64 rank] w (NoRet w) := by
  have C := hid (q_place h key hk)
  rw [hf] at C
  unfold PcRet at C
  rw [show (some z).getD 0 = z from rfl, show (some z).isSome = true from rfl] at C
  clear h hf
  go_enter Try.func13, Try.ntmps13
  go_wp2_with fail
  with_reducible refine (C.out).mono ?_
  rintro e w2 ⟨rfl, rfl⟩
  go_wp2_with fail
  go_ret
  exact ⟨rfl, rfl⟩
def PuRet (q bm : Nat) (v : Value) (l : List It) (w : World) (e : Ending) (w' : World) : Prop := e = .returned (.bool true) ∧ ∃ v' l', Sv w' q v' bm l' ∧ l'.Perm l ∧ Hep.Ok l' ∧ (∀ k, v'.ownBlock = some k → v.ownBlock = some k ∨ w.heap.size ≤ k) ∧ Kept (fun k => k = q ∨ v.ownBlock = some k ∨ k = bm) w w'
set_option maxRecDepth 20000 in
set_option maxHeartbeats 4000000 in
theorem q_Push {w : World} {p q bm : Nat} {v : Value} {l : List It} (h : Pq w p q v bm l) (key rank : Int) (hk : I64 key) (hr : I64 rank) (hf : key ∉ Pil.keys l) (hl : l.length < 20000) : Calls Try.prog 13 #[ptr p, .int .i64 key, .int .i64 rank] w (PuRet q bm v (l ++ [(key, rank)]) w) := by
  have C := hid (q_place h key hk)
  rw [posf_none hf] at C
  have C : Hid (Calls Try.prog 23 #[ptr p, .int .i64 key] w fun e w' => e = .returned (.tuple #[.int .i64 0, .bool false]) ∧ w' = w) := C
  have P := hid (hp_Push h.sv h.ok (key, rank) hk hr hf hl)
  have c0 : w.cell? ⟨p, 0, none⟩ = some (ptr q) := cell_of h.hp rfl
  clear h hf
  go_enter Try.func13, Try.ntmps13
  go_wp2_with fail
  with_reducible refine (C.out).mono ?_
  rintro e w2 ⟨rfl, rfl⟩
  go_wp2_with fail
  with_reducible refine (P.out).mono ?_
  rintro e w3 ⟨rfl, v', l', sv, pm, ok, ho, hk⟩
  have F := hid (show PuRet q bm v (l ++ [(key, rank)]) w2 (.returned (.bool true)) w3 from ⟨rfl, v', l', sv, pm, ok, ho, hk⟩)
  clear sv pm ok ho hk
  go_wp2_with fail
  go_ret
  exact F.out
theorem set_one {w : World} {p : Nat} {a v : Value} {t : TypeId} (h : w.heap[p]? = some (.cells #[a] t)) : (w.setCell ⟨p, 0, none⟩ v).heap[p]? = some (.cells #[v] t) := by
  obtain ⟨hq, e⟩ := Array.getElem?_eq_some_iff.1 h
  simp [World.setCell, hq, Array.getElem_modify_self, e]
/-- the world behind new items, whose place stands in the pile -/
theorem first_items {w : World} {p : Nat} (hp : w.heap[p]? = some (.cells #[.pointer none] 48)) : ∃ W, ((w.alloc (.map #[] 0)).alloc (.cells #[.slice none 0 0, .map (some w.heap.size)] 54)).setCell ⟨p, 0, none⟩ (ptr (w.heap.size + 1)) = W ∧ W.heap[p]? = some (.cells #[ptr (w.heap.size + 1)] 48) ∧ Sv W (w.heap.size + 1) (.slice none 0 0) w.heap.size [] ∧ Kept (fun k => k = p) w W ∧ w.heap.size ≤ W.heap.size := by
  have hlt := (Array.getElem?_eq_some_iff.1 hp).1
  refine ⟨_, rfl, ?_, ⟨?_, World.ownsRow_nil _ _ _ _, ?_, (by simp [Value.ownBlock]), (by omega), (fun x hx => by cases hx), List.nodup_nil, (by simp)⟩, ⟨rfl, rfl, rfl, by simp; omega, fun k hk hn => ?_⟩, by simp; omega⟩
  · refine set_one (a := .pointer none) ?_
    rw [heap_alloc_old _ _ (by simp; omega), heap_alloc_old _ _ hlt]
    exact hp
  · rw [Below.heap_setCell _ _ _ _ (by simp; omega)]
    have := heap_alloc_new (w.alloc (.map #[] 0)) (.cells #[.slice none 0 0, .map (some w.heap.size)] 54)
    rw [World.size_alloc] at this
    exact this
  · have h0 : posf [] = fun _ => none := rfl
    rw [h0]
    refine (IM.made w).keep ?_
    rw [Below.heap_setCell _ _ _ _ (by simp; omega)]
    exact heap_alloc_old _ _ (by simp)
  · rw [Below.heap_setCell _ _ _ _ hn, heap_alloc_old _ _ (by simp; omega), heap_alloc_old _ _ hk]
/-- the first key of a pile without items -/
def PfRet (p : Nat) (x : It) (w : World) (e : Ending) (w' : World) : Prop := e = .returned (.bool true) ∧ ∃ q v bm l, Pq w' p q v bm l ∧ l.Perm [x] ∧ w.heap.size ≤ q ∧ w.heap.size ≤ bm ∧ (∀ k, v.ownBlock = some k → w.heap.size ≤ k) ∧ Kept (fun k => k = p) w w'
set_option maxRecDepth 20000 in
set_option maxHeartbeats 4000000 in
theorem e_Push {w : World} {p : Nat} (hp : w.heap[p]? = some (.cells #[.pointer none] 48)) (key rank : Int) (hk : I64 key) (hr : I64 rank) : Calls Try.prog 13 #[ptr p, .int .i64 key, .int .i64 rank] w (PfRet p (key, rank) w) := by
  have C := hid (e_place hp key)
  have C : Hid (Calls Try.prog 23 #[ptr p, .int .i64 key] w fun e w' => e = .returned (.tuple #[.int .i64 0, .bool false]) ∧ w' = w) := C
  have c0 : w.cell? ⟨p, 0, none⟩ = some (.pointer none) := cell_of hp rfl
  have f0 : w.frozen? ⟨p, 0, none⟩ = false := frozen_of hp
  have hlt := (Array.getElem?_eq_some_iff.1 hp).1
  obtain ⟨W, hW, hpW, svW, kW, hsW⟩ := first_items hp
  have P := hid (hp_Push svW (fun i hi => by simp at hi) (key, rank) hk hr (by simp [Pil.keys]) (by simp))
  have HpW := hid hpW
  have KW := hid kW
  have hmm := @run_makeMap Try.prog
  have cW : W.cell? ⟨p, 0, none⟩ = some (ptr (w.heap.size + 1)) := cell_of hpW rfl
  clear hp hpW svW kW
  go_enter Try.func13, Try.ntmps13
  go_wp2_with fail
  with_reducible refine (C.out).mono ?_
  rintro e w2 ⟨rfl, rfl⟩
  go_wp2_with fail
  with_reducible refine (P.out).mono ?_
  rintro e w3 ⟨rfl, v', l', sv, pm, ok, ho, hk⟩
  have hpne : p ≠ w2.heap.size + 1 := by omega
  have hpne2 : p ≠ w2.heap.size := by omega
  have hov : ∀ k, v'.ownBlock = some k → w2.heap.size ≤ k := fun k e => by
    rcases ho k e with h | h
    · cases h
    · omega
  have hk2 : Kept (fun k => k = p) w2 w3 := KW.out.trans hk fun b hb => by
    rcases hb with h | h | h
    · right; omega
    · cases h
    · right; omega
  have hp3 : w3.heap[p]? = some (.cells #[ptr (w2.heap.size + 1)] 48) := (hk.block p (by omega) (fun e => by rcases e with e | e | e; exact hpne e; cases e; exact hpne2 e)).trans HpW.out
  have F := hid (show PfRet p (key, rank) w2 (.returned (.bool true)) w3 from ⟨rfl, _, v', _, l', ⟨hp3, sv, ok, hpne, hpne2, fun e => by have := hov p e; omega⟩, pm, by omega, Nat.le_refl _, hov, hk2⟩)
  clear sv pm ok ho hk hov hk2 hp3
  go_wp2_with fail
  go_ret
  exact F.out
/-! ### Move, Drop, Pop of a key that is there -/
theorem set_same {α : Type} {l : List α} {i : Nat} {v : α} (h : l[i]? = some v) : l.set i v = l := by
  obtain ⟨hi, e⟩ := List.getElem?_eq_some_iff.1 h
  subst e
  exact List.set_getElem_self hi
theorem keys_set {l : List It} {i : Nat} (hi : i < l.length) {key : Int} (rank : Int) (hg : (Hep.g l i).1 = key) : Pil.keys (l.set i (key, rank)) = Pil.keys l := by
  unfold Pil.keys
  rw [List.map_set]
  exact set_same (by rw [List.getElem?_map, Hep.g_eq hi]; exact congrArg some hg)
theorem posf_keys {l l' : List It} (h : Pil.keys l = Pil.keys l') : posf l = posf l' := by
  funext key
  unfold posf Pil.find
  congr 1
  have e : ∀ m : List It, m.findIdx? (fun p => p.1 == key) = (Pil.keys m).findIdx? (fun p => p == key) := fun m => by unfold Pil.keys; rw [List.findIdx?_map]; rfl
  rw [e, e, h]
/-- another rank at place i -/
theorem St.rerank {w : World} {q g c bm : Nat} {l : List It} (h : St w q g c bm l) {i : Nat} (hi : i < l.length) {key : Int} (rank : Int) (hg : (Hep.g l i).1 = key) (hk : I64 key) (hr : I64 rank) :
    ∃ w1, w.setCell ⟨g, i * 2 + 1, none⟩ (.int .i64 rank) = w1 ∧ St w1 q g c bm (l.set i (key, rank)) ∧ Kept (fun k => k = g) w w1 := by
  have hks := keys_set hi rank hg
  have hx : (icells l).set (i * 2) (.int .i64 key) = icells l := set_same (by rw [← hg]; exact (icells_g l i hi).1)
  have hrow := (World.ownsRow.stored h.row (i * 2 + 1) (.int .i64 rank)).1
  rw [← hx] at hrow
  have e := icells_set l i (key, rank) hi
  simp only at e
  rw [e] at hrow
  have hl : (l.set i (key, rank)).length = l.length := List.length_set
  refine ⟨_, rfl, ⟨?_, ?_, ?_, h.pg, h.pb, fun y hy => ?_, by rw [hks]; exact h.nd, by rw [hl]; exact h.len⟩, rfl, rfl, rfl, by simp, fun k hk hn => Below.heap_setCell _ _ _ k hn⟩
  · rw [hl, Below.heap_setCell _ _ _ _ h.pg]; exact h.hd
  · rw [hl]; exact hrow
  · rw [hl, posf_keys hks]
    exact h.map.keep (Below.heap_setCell _ _ _ _ (fun e => h.gb e.symm))
  · rcases List.mem_or_eq_of_mem_set hy with e | e
    · exact h.i64 y e
    · subst e; exact ⟨hk, hr⟩
def MvRet (q g c bm : Nat) (l : List It) (w : World) (e : Ending) (w' : World) : Prop := e = .returned (.bool true) ∧ ∃ l', St w' q g c bm l' ∧ l'.Perm l ∧ Hep.Ok l' ∧ Kept (fun k => k = q ∨ k = g ∨ k = bm) w w'
set_option maxRecDepth 20000 in
set_option maxHeartbeats 4000000 in
theorem q_Move {w : World} {p q bm g c : Nat} {l : List It} (h : Pq w p q (.slice (some ⟨g, 0, none⟩) l.length c) bm l) (st : St w q g c bm l) {key rank : Int} (hk : I64 key) (hr : I64 rank) {i : Nat} (hi : i < l.length) (hf : posf l key = some (i : Int)) (hg : (Hep.g l i).1 = key) :
    Calls Try.prog 15 #[ptr p, .int .i64 key, .int .i64 rank] w (MvRet q g c bm (l.set i (key, rank)) w) := by
  have C := hid (q_place h key hk)
  rw [hf] at C
  unfold PcRet at C
  rw [show (some (i : Int)).getD 0 = (i : Int) from rfl, show (some (i : Int)).isSome = true from rfl] at C
  obtain ⟨x0, x1⟩ := st.at_ hi
  have fz := st.row.frozenAt (i * 2 + 1)
  have c0 : w.cell? ⟨p, 0, none⟩ = some (ptr q) := cell_of h.hp rfl
  have c1 := st.cells.1
  have i1 : (0 : Int) ≤ (i : Int) := by omega
  have i2 : (i : Int) < (l.length : Int) := by omega
  obtain ⟨w1, hw1, st1, k1⟩ := st.rerank hi rank hg hk hr
  have P := hid (hp_Fix st1 (i := i) (by rw [List.length_set]; exact hi) ((h.ok.ud i hi).set hi (key, rank)))
  have hpg : p ≠ g := fun e => h.pv (by rw [e]; rfl)
  have d0 : w1.cell? ⟨p, 0, none⟩ = some (ptr q) := cell_of ((k1.block p (Array.getElem?_eq_some_iff.1 h.hp).1 hpg).trans h.hp) rfl
  have K1 := hid k1
  obtain ⟨l1, Hl1⟩ : ∃ l1, Hid (l.set i (key, rank) = l1) := ⟨_, hid rfl⟩
  rw [Hl1.out] at P ⊢
  generalize l.length = n at *
  clear h st hf st1 k1 hi
  go_enter Try.func15, Try.ntmps15
  go_wp2_with fail
  with_reducible refine (C.out).mono ?_
  rintro e w2 ⟨rfl, rfl⟩
  go_wp2_with fail
  with_reducible refine (P.out).mono ?_
  rintro e w3 ⟨rfl, l', sv, pm, ok, hk⟩
  have F := hid (show MvRet q g c bm l1 w2 (.returned (.bool true)) w3 from ⟨rfl, l', sv, pm, ok, (K1.out.more (F1 := fun k => k = q ∨ k = g ∨ k = bm) fun b hb => .inl (.inr (.inl hb))).trans hk fun b hb => .inl hb⟩)
  clear sv pm ok hk
  go_wp2_with fail
  go_ret
  exact F.out
def DrRet (q g c bm : Nat) (l : List It) (x : It) (w : World) (e : Ending) (w' : World) : Prop := e = .returned (.bool true) ∧ ∃ l', St w' q g c bm l' ∧ (x :: l').Perm l ∧ Hep.Ok l' ∧ Kept (fun k => k = q ∨ k = g ∨ k = bm) w w'
set_option maxRecDepth 20000 in
set_option maxHeartbeats 4000000 in
theorem q_Drop {w : World} {p q bm g c : Nat} {l : List It} (h : Pq w p q (.slice (some ⟨g, 0, none⟩) l.length c) bm l) (st : St w q g c bm l) {key : Int} (hk : I64 key) {i : Nat} (hi : i < l.length) (hf : posf l key = some (i : Int)) :
    Calls Try.prog 16 #[ptr p, .int .i64 key] w (DrRet q g c bm l (Hep.g l i) w) := by
  have C := hid (q_place h key hk)
  rw [hf] at C
  unfold PcRet at C
  rw [show (some (i : Int)).getD 0 = (i : Int) from rfl, show (some (i : Int)).isSome = true from rfl] at C
  have c0 : w.cell? ⟨p, 0, none⟩ = some (ptr q) := cell_of h.hp rfl
  have P := hid (hp_Remove st h.ok hi)
  obtain ⟨x, Hx⟩ : ∃ x, Hid (Hep.g l i = x) := ⟨_, hid rfl⟩
  rw [Hx.out] at P ⊢
  clear h st hf hi
  go_enter Try.func16, Try.ntmps16
  go_wp2_with fail
  with_reducible refine (C.out).mono ?_
  rintro e w2 ⟨rfl, rfl⟩
  go_wp2_with fail
  with_reducible refine (P.out).mono ?_
  rintro e w3 ⟨rfl, F⟩
  have F := hid (show DrRet q g c bm l x w2 (.returned (.bool true)) w3 from ⟨rfl, F⟩)
  go_wp2_with fail
  go_ret
  exact F.out
/-- nothing is there to pop -/
theorem no_Pop {w : World} {pv : Value} (C : Hid (Calls Try.prog 22 #[pv] w (TpRet [] w))) : Calls Try.prog 21 #[pv] w (TpRet [] w) := by
  have C : Hid (Calls Try.prog 22 #[pv] w fun e w' => e = .returned (.tuple #[.int .i64 0, .int .i64 0, .bool false]) ∧ Below w.heap.size w w') := C
  go_enter Try.func21, Try.ntmps21
  go_wp2_with fail
  with_reducible refine (C.out).mono ?_
  rintro e w2 ⟨rfl, b2⟩
  have B2 := hid b2
  go_wp2_with fail
  go_ret3
  exact ⟨rfl, B2.out⟩
def PoRet (q g c bm : Nat) (l : List It) (x : It) (w : World) (e : Ending) (w' : World) : Prop := e = .returned (.tuple #[.int .i64 x.1, .int .i64 x.2, .bool true]) ∧ ∃ l', St w' q g c bm l' ∧ (x :: l').Perm l ∧ Hep.Ok l' ∧ Kept (fun k => k = q ∨ k = g ∨ k = bm) w w'
set_option maxRecDepth 20000 in
set_option maxHeartbeats 4000000 in
theorem q_Pop {w : World} {p q bm g c : Nat} {l : List It} (h : Pq w p q (.slice (some ⟨g, 0, none⟩) l.length c) bm l) (st : St w q g c bm l) (hl : 0 < l.length) :
    Calls Try.prog 21 #[ptr p] w (PoRet q g c bm l (Hep.g l 0) w) := by
  have C := hid (q_Peek h hl [])
  have H := hid h
  have S := hid st
  have HL := hid hl
  obtain ⟨x, Hx⟩ : ∃ x, Hid (Hep.g l 0 = x) := ⟨_, hid rfl⟩
  rw [Hx.out] at C ⊢
  unfold TpRet topV at C
  clear h st hl
  go_enter Try.func21, Try.ntmps21
  go_wp2_with fail
  with_reducible refine (C.out).mono ?_
  rintro e w2 ⟨rfl, b2⟩
  have c0 : w2.cell? ⟨p, 0, none⟩ = some (ptr q) := cell_of ((b2.block p (Array.getElem?_eq_some_iff.1 H.out.hp).1).trans H.out.hp) rfl
  have P := hid (hp_Pop (S.out.below b2) H.out.ok HL.out)
  rw [Hx.out] at P
  have B2 := hid b2
  clear b2 C
  go_wp2_with fail
  with_reducible refine (P.out).mono ?_
  rintro e w3 ⟨rfl, l', s3, p3, o3, k3⟩
  have F := hid (show PoRet q g c bm l x w (.returned (.tuple #[.int .i64 x.1, .int .i64 x.2, .bool true])) w3 from ⟨rfl, l', s3, p3, o3, (Kept.of B2.out).trans k3 fun b hb => .inl hb⟩)
  clear s3 p3 o3 k3
  go_wp2_with fail
  go_ret3
  exact F.out
/-! ### the contracts -/
section
variable {w : World} {F : Nat → Prop} {p : Nat} {s : List It} (h : Pl w F p s) (hm : s.length ≤ 10000)
include h hm
theorem p_Push (key rank : Int) (hk : I64 key) (hr : I64 rank) :
    Calls Try.prog 13 #[ptr p, .int .i64 key, .int .i64 rank] w (DidRet F p (Pil.push s (key, rank)) (!(Pil.get s key).isSome) w) := by
  have h0 := h
  obtain ⟨srt, _, fp, h4⟩ := h
  rcases h4 with ⟨rfl, hp⟩ | ⟨q, v, bm, l, hq, hs, fq, fb, fv⟩
  · refine (e_Push hp key rank hk hr).mono ?_
    rintro e w' ⟨rfl, q, v, bm, l, hq, hs, f1, f2, f3, hk⟩
    refine ⟨rfl, ⟨_, hq.pl hs (srt.push (key, rank)), fun k hk => ?_⟩, hk.more fun b hb => .inl (by rw [hb]; exact fp)⟩
    rcases hk with rfl | rfl | rfl | e
    · exact .inl fp
    · exact .inr f1
    · exact .inr f2
    · exact .inr (f3 k e)
  · cases hf : posf l key with
    | some z =>
      obtain ⟨i, rfl, hi, hg, hgs, hks⟩ := posf_at hs srt hf
      refine (q_Push_no hq rank hk hf).mono ?_
      rintro e w' ⟨rfl, rfl⟩
      refine ⟨by rw [hgs]; rfl, ?_⟩
      rw [show Pil.push s (key, rank) = s from if_pos hks]
      exact .refl h0
    | none =>
      have hg : (Pil.get s key).isSome = false := by rw [← posf_isSome hs srt, hf]; rfl
      have hns := (move_none 0 hg).2.2
      have hnl : key ∉ Pil.keys l := fun e => hns ((hs.map _).mem_iff.1 e)
      refine (q_Push hq key rank hk hr hnl (by rw [hs.length_eq]; omega)).mono ?_
      rintro e w' ⟨rfl, v', l', sv, pm, ok, ho, hk⟩
      refine ⟨by rw [hg]; rfl, hq.to fp fq fb fv sv ok (pm.trans ((hs.append_right _).trans (Pil.perm_push (List.Perm.refl s) (x := (key, rank)) hns))) (srt.push _) ho hk⟩
theorem p_Move (key rank : Int) (hk : I64 key) (hr : I64 rank) :
    Calls Try.prog 15 #[ptr p, .int .i64 key, .int .i64 rank] w (DidRet F p (Pil.move s (key, rank)) (Pil.get s key).isSome w) := by
  have h0 := h
  obtain ⟨srt, _, fp, h4⟩ := h
  rcases h4 with ⟨rfl, hp⟩ | ⟨q, v, bm, l, hq, hs, fq, fb, fv⟩
  · refine (no_Move (hid (e_place hp key)) rank).mono ?_
    rintro e w' ⟨rfl, rfl⟩
    exact ⟨rfl, .refl h0⟩
  · cases hf : posf l key with
    | some z =>
      obtain ⟨i, rfl, hi, hg, hgs, hks⟩ := posf_at hs srt hf
      obtain ⟨g, c, rfl, st⟩ := hq.sv.st (List.length_pos_iff.1 (Nat.lt_of_le_of_lt (Nat.zero_le _) hi))
      refine (q_Move hq st hk hr hi hf hg).mono ?_
      rintro e w' ⟨rfl, l', sv, pm, ok, hk⟩
      exact ⟨by rw [hgs]; rfl, hq.to fp fq fb fv sv.sv ok (pm.trans (move_perm hs srt hi rank hg hks)) (srt.move _) (fun k e => .inl e) (hk.more fun b hb => .inl (hb.imp id (Or.imp (fun e => by subst e; rfl) id)))⟩
    | none =>
      have hg : (Pil.get s key).isSome = false := by rw [← posf_isSome hs srt, hf]; rfl
      have C := hid (q_place hq key hk)
      rw [hf] at C
      refine (no_Move C rank).mono ?_
      rintro e w' ⟨rfl, rfl⟩
      rw [hg, (move_none rank hg).1]
      exact ⟨rfl, .refl h0⟩
theorem p_Drop (key : Int) (hk : I64 key) :
    Calls Try.prog 16 #[ptr p, .int .i64 key] w (DidRet F p (Pil.del s key) (Pil.get s key).isSome w) := by
  have h0 := h
  obtain ⟨srt, _, fp, h4⟩ := h
  rcases h4 with ⟨rfl, hp⟩ | ⟨q, v, bm, l, hq, hs, fq, fb, fv⟩
  · refine (no_Drop (hid (e_place hp key))).mono ?_
    rintro e w' ⟨rfl, rfl⟩
    exact ⟨rfl, .refl h0⟩
  · cases hf : posf l key with
    | some z =>
      obtain ⟨i, rfl, hi, hg, hgs, hks⟩ := posf_at hs srt hf
      obtain ⟨g, c, rfl, st⟩ := hq.sv.st (List.length_pos_iff.1 (Nat.lt_of_le_of_lt (Nat.zero_le _) hi))
      refine (q_Drop hq st hk hi hf).mono ?_
      rintro e w' ⟨rfl, l', sv, pm, ok, hk⟩
      have hd := drop_perm hs srt pm
      rw [hg] at hd
      exact ⟨by rw [hgs]; rfl, hq.to fp fq fb fv sv.sv ok hd (srt.del _) (fun k e => .inl e) (hk.more fun b hb => .inl (hb.imp id (Or.imp (fun e => by subst e; rfl) id)))⟩
    | none =>
      have hg : (Pil.get s key).isSome = false := by rw [← posf_isSome hs srt, hf]; rfl
      have C := hid (q_place hq key hk)
      rw [hf] at C
      refine (no_Drop C).mono ?_
      rintro e w' ⟨rfl, rfl⟩
      rw [hg, (move_none 0 hg).2.1]
      exact ⟨rfl, .refl h0⟩
theorem p_Pop : Calls Try.prog 21 #[ptr p] w fun e w' => e = .returned (topV s) ∧ PlTo F p s.tail w w' := by
  have h0 := h
  obtain ⟨srt, flt, fp, h4⟩ := h
  rcases h4 with ⟨rfl, hp⟩ | ⟨q, v, bm, l, hq, hs, fq, fb, fv⟩
  · refine (no_Pop (hid (e_Peek hp))).mono ?_
    rintro e w' ⟨rfl, b⟩
    exact ⟨rfl, ⟨F, h0.keep (fun k hk => b.block k (flt k hk)), fun _ h => .inl h⟩, Kept.of b⟩
  · by_cases hl : l = []
    · subst hl
      have e : s = [] := List.nil_perm.1 hs
      subst e
      refine (no_Pop (hid (q0_Peek hq))).mono ?_
      rintro e w' ⟨rfl, b⟩
      exact ⟨rfl, ⟨F, h0.keep (fun k hk => b.block k (flt k hk)), fun _ h => .inl h⟩, Kept.of b⟩
    · have hl0 := List.length_pos_iff.2 hl
      obtain ⟨r, rfl⟩ := top_g hq.ok hl0 hs srt
      obtain ⟨g, c, rfl, st⟩ := hq.sv.st hl
      refine (q_Pop hq st hl0).mono ?_
      rintro e w' ⟨rfl, l', sv, pm, ok, hk⟩
      have hd := (List.perm_cons _).1 (pm.trans hs)
      exact ⟨rfl, hq.to fp fq fb fv sv.sv ok hd srt.tail (fun k e => .inl e) (hk.more fun b hb => .inl (hb.imp id (Or.imp (fun e => by subst e; rfl) id)))⟩
theorem p_Peek : Calls Try.prog 22 #[ptr p] w fun e w' => e = .returned (topV s) ∧ Below w.heap.size w w' := by
  obtain ⟨srt, flt, fp, h4⟩ := h
  rcases h4 with ⟨rfl, hp⟩ | ⟨q, v, bm, l, hq, hs, fq, fb, fv⟩
  · exact e_Peek hp
  · by_cases hl : l = []
    · subst hl
      have e : s = [] := List.nil_perm.1 hs
      subst e
      exact q0_Peek hq
    · have hl0 := List.length_pos_iff.2 hl
      obtain ⟨r, rfl⟩ := top_g hq.ok hl0 hs srt
      exact q_Peek hq hl0 r
theorem p_Rank (key : Int) (hk : I64 key) : Calls Try.prog 11 #[ptr p, .int .i64 key] w (RkRet (Pil.get s key) w) := by
  obtain ⟨srt, _, fp, h4⟩ := h
  rcases h4 with ⟨rfl, hp⟩ | ⟨q, v, bm, l, hq, hs, fq, fb, fv⟩
  · exact no_Rank (hid (e_place hp key))
  · cases hf : posf l key with
    | some z =>
      obtain ⟨i, rfl, hi, hg, hgs, hks⟩ := posf_at hs srt hf
      rw [hgs]
      exact q_Rank hq hk hi hf
    | none =>
      have hg : Pil.get s key = none := by
        have := posf_isSome hs srt key
        rw [hf] at this
        cases h : Pil.get s key with
        | none => rfl
        | some _ => rw [h] at this; cases this
      have C := hid (q_place hq key hk)
      rw [hf] at C
      rw [hg]
      exact no_Rank C
def LnRet (n : Nat) (w : World) (e : Ending) (w' : World) : Prop := e = .returned (.int .i64 (n : Int)) ∧ Below w.heap.size w w'
theorem p_Len : Calls Try.prog 20 #[ptr p] w (LnRet s.length w) := by
  obtain ⟨srt, _, fp, h4⟩ := h
  rcases h4 with ⟨rfl, hp⟩ | ⟨q, v, bm, l, hq, hs, fq, fb, fv⟩
  · refine (e_Len hp).mono ?_
    rintro e w' ⟨rfl, rfl⟩
    exact ⟨rfl, Below.refl _ _⟩
  · refine (q_Len hq).mono ?_
    rintro e w' ⟨rfl, rfl⟩
    exact ⟨by rw [hs.length_eq], Below.refl _ _⟩
end
/-! ### a nil pile -/
theorem n_Push (key rank : Int) (w : World) : Calls Try.prog 13 #[.pointer none, .int .i64 key, .int .i64 rank] w fun e w' => e = .returned (.bool false) ∧ Below w.heap.size w w' := by
  go_enter Try.func13, Try.ntmps13
  go_wp2_with fail
  go_ret
  exact ⟨rfl, Below.refl _ _⟩
theorem n_Move (key rank : Int) (w : World) : Calls Try.prog 15 #[.pointer none, .int .i64 key, .int .i64 rank] w fun e w' => e = .returned (.bool false) ∧ Below w.heap.size w w' :=
  (no_Move (hid (n_place key w)) rank).mono fun _ _ ⟨h1, h2⟩ => ⟨h1, by rw [h2]; exact Below.refl _ _⟩
theorem n_Drop (key : Int) (w : World) : Calls Try.prog 16 #[.pointer none, .int .i64 key] w fun e w' => e = .returned (.bool false) ∧ Below w.heap.size w w' :=
  (no_Drop (hid (n_place key w))).mono fun _ _ ⟨h1, h2⟩ => ⟨h1, by rw [h2]; exact Below.refl _ _⟩
theorem n_Pop (w : World) : Calls Try.prog 21 #[.pointer none] w fun e w' => e = .returned (topV []) ∧ Below w.heap.size w w' := no_Pop (hid (nn_Peek w))
theorem n_Peek (w : World) : Calls Try.prog 22 #[.pointer none] w fun e w' => e = .returned (topV []) ∧ Below w.heap.size w w' := nn_Peek w
theorem n_Rank (key : Int) (w : World) : Calls Try.prog 11 #[.pointer none, .int .i64 key] w fun e w' => e = .returned (.tuple #[.int .i64 0, .bool false]) ∧ Below w.heap.size w w' := no_Rank (hid (n_place key w))
theorem n_Len (w : World) : Calls Try.prog 20 #[.pointer none] w fun e w' => e = .returned (.int .i64 0) ∧ Below w.heap.size w w' :=
  (nl_Len w).mono fun _ _ ⟨h1, h2⟩ => ⟨h1, by rw [h2]; exact Below.refl _ _⟩
end Go.Proofs.Ytojballaghkojaa
