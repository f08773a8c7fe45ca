/- The document's answers for layer 7: Without, Push, Move. -/
import Derived.Test.YtojballaghkojaaPilA
namespace Go.Proofs.Ytojballaghkojaa
open Go.RowKit Go.Shelf
open Pil (It)
set_option linter.unusedSimpArgs false

/-- hands out a new row of its own -/
def WoOwn (l : List It) (w : World) (e : Ending) (w' : World) : Prop := ∃ v, e = .returned v ∧ w'.ownsRow w.heap.size 33 2 v l.length (icells l) ∧ Below w.heap.size w w'
theorem WoOwn.mk {l : List It} {w w' : World} {n : Nat} {v : Value} {xs : List Value} (h : w'.ownsRow w.heap.size 33 2 v n xs) (hn : n = l.length) (hx : xs = icells l) (hb : Below w.heap.size w w') : WoOwn l w (.returned v) w' := by
  subst hn; subst hx
  exact ⟨v, rfl, h, hb⟩
theorem WoOwn.it {l : List It} {w w' : World} {e : Ending} (h : WoOwn l w e w') : ItRet l w e w' := by
  obtain ⟨v, rfl, ho, hb⟩ := h
  exact ItRet.mk ho rfl rfl hb
set_option maxRecDepth 20000 in
set_option maxHeartbeats 8000000 in
theorem r_Without (A : Option Addr) (n c : Nat) (l : List It) (hn : l.length = n) (hcap : n ≤ c) (hm : n ≤ 1000000) (k : Nat) (hk : k < l.length) (B : Nat) (w : World) (hB : B ≤ w.heap.size) (h : Its2 w B A l) :
    Calls Try.prog 17 #[.slice A n c, .int .i64 (k : Int)] w (WoOwn (l.eraseIdx k) w) := by
  subst hn
  obtain ⟨i0, hi0, hz0, hz1, hz2⟩ := info_parts Try.info_item
  have Hres := hid (List.eraseIdx_eq_take_drop_succ l k)
  obtain ⟨b0, o0, ky, vl, rfl, _, _, _, _⟩ := Its2.get h hk
  have HS1 := fun (w' : World) (hb : Below w.heap.size w w') => src_its2 (P := Try.prog) w' Try.underlying26 (c := c) (by rw [List.length_take]; omega : (l.take k).length = k) (Its2.take (h.below hb hB) k)
  have q1 : 0 + k ≤ maxLen := by unfold maxLen; omega
  have q2 : (0 + k) * 16 ≤ 140737488355328 := by omega
  have q3 : 0 + k + (l.length - (k + 1)) ≤ maxLen := by unfold maxLen; omega
  have q4 : (0 + k + (l.length - (k + 1))) * 16 ≤ 140737488355328 := by omega
  have i1 : (0 : Int) ≤ (k : Int) := by omega
  have i2 : (k : Int) < (l.length : Int) := by omega
  have i3 : (k : Int) + 1 ≤ (l.length : Int) := by omega
  have i4 : (0 : Int) ≤ (k : Int) + 1 := by omega
  by_cases hck : c = k + 1
  · have hml := hid (show l.length = k + 1 by omega)
    have Hck := hid hck
    have HS2 := fun (w' : World) (hb : Below w.heap.size w w') => src_its2 (P := Try.prog) w' Try.underlying26 (c := c - (k + 1)) (List.length_drop : (l.drop (k + 1)).length = l.length - (k + 1)) (Its2.drop (h.below hb hB) (k + 1) (A' := some ⟨b0, o0, none⟩) (fun h => by have := hml.out; omega))
    clear h hck
    go_enter Try.func17, Try.ntmps17
    go_wp2_with fail
    have hd0 : Below w.heap.size w w.drew := (Below.refl _ w).drew
    refine wp_region_held_drew (S := fun X => Below w.heap.size w X) (by kernel_rfl) hd0 (fun hHeld => ?_)
    refine takeH 1 6 (.slice (some ⟨b0, o0, none⟩) l.length c) rfl rfl (by kernel_rfl) (by kernel_rfl) (by kernel_rfl) (fun _ _ _ h => h) (by kernel_rfl) (fun X hX => by clear hX; first | rfl | go_simp) hHeld ?_
    simp only [Act.put, List.setIfInBounds_toArray, List.set_cons_zero, List.set_cons_succ]
    refine takeH 2 7 (.int .i64 (k : Int)) rfl rfl (by kernel_rfl) (by kernel_rfl) (by kernel_rfl) (fun _ _ _ h => h) (by kernel_rfl) (fun X hX => by clear hX; first | rfl | go_simp) hHeld ?_
    simp only [Act.put, List.setIfInBounds_toArray, List.set_cons_zero, List.set_cons_succ]
    refine takeH 3 8 (.slice (some ⟨b0, o0, none⟩) k c) rfl rfl (by kernel_rfl) (by kernel_rfl) (by kernel_rfl) (fun _ _ _ h => h) (by kernel_rfl) (fun X hX => by clear hX; go_simp; try (intro h; omega)) hHeld ?_
    simp only [Act.put, List.setIfInBounds_toArray, List.set_cons_zero, List.set_cons_succ]
    refine takeH 5 10 (.slice (some ⟨b0, o0, none⟩) l.length c) rfl rfl (by kernel_rfl) (by kernel_rfl) (by kernel_rfl) (fun _ _ _ h => h) (by kernel_rfl) (fun X hX => by clear hX; first | rfl | go_simp) hHeld ?_
    simp only [Act.put, List.setIfInBounds_toArray, List.set_cons_zero, List.set_cons_succ]
    refine takeH 6 11 (.int .i64 (k : Int)) rfl rfl (by kernel_rfl) (by kernel_rfl) (by kernel_rfl) (fun _ _ _ h => h) (by kernel_rfl) (fun X hX => by clear hX; first | rfl | go_simp) hHeld ?_
    simp only [Act.put, List.setIfInBounds_toArray, List.set_cons_zero, List.set_cons_succ]
    refine takeH 7 12 (.int .i64 ((k : Int) + 1)) rfl rfl (by kernel_rfl) (by kernel_rfl) (by kernel_rfl) (fun _ _ _ h => h) (by kernel_rfl) (fun X hX => by clear hX; go_simp; rw [IntKind.wrap_i64]; omega) hHeld ?_
    simp only [Act.put, List.setIfInBounds_toArray, List.set_cons_zero, List.set_cons_succ]
    refine takeH 8 13 (.slice (some ⟨b0, o0, none⟩) (l.length - (k + 1)) (c - (k + 1))) rfl rfl (by kernel_rfl) (by kernel_rfl) (by kernel_rfl) (fun _ _ _ h => h) (by kernel_rfl) (fun X hX => by clear hX; have hck1 := Hck.out; have hml1 := hml.out; go_simp; try (intro h; omega)) hHeld ?_
    simp only [Act.put, List.setIfInBounds_toArray, List.set_cons_zero, List.set_cons_succ]
    refine wpAnyH_ready (rs := [0]) (by kernel_rfl) (by simp) ?_
    refine AllReadyH.cons rfl (fun KK hK => ?_) AllReadyH.nil
    simp only [List.getElem_toArray, List.getElem_cons_succ, List.getElem_cons_zero]
    go_simp
    have hB1 := Below.alloc hd0 hd0.size (.cells #[] 33)
    have hL1 := World.ownsRow_lit (base := w.heap.size) (e := 33) (size := 2) w.drew #[] 0 hd0.size (by unfold maxLen; omega) rfl
    refine hK.out _ _ hB1 (fun hHeld => ?_)
    clear hK KK
    refine wpAnyH_ready (rs := [4]) (by kernel_rfl) (by simp) ?_
    refine AllReadyH.cons rfl (fun KK hK => ?_) AllReadyH.nil
    refine step_append_srcN rfl (.tmp 5) (.tmp 8) 26 26 rfl w.heap.size 33 i0 (.agg #[.int .i64 0, .int .i64 0]) 2 16 Try.underlying26 hi0 hz0 hz1 hz2 rfl _ _ _ (by rfl) hL1 _ _ _ (by rfl) (HS1 _ hB1) q1 q2 hB1.size ?_
    intro va wa howna hgra
    have hba : Below w.heap.size w wa := Below.grown hB1 hgra hB1.size (fun k hk => ((hL1).lt k hk).1)
    refine hK.out _ _ hba (fun hHeld => ?_)
    clear hK KK
    try simp only [Act.put, List.setIfInBounds_toArray, List.set_cons_zero, List.set_cons_succ]
    refine wpAnyH_ready (rs := [9]) (by kernel_rfl) (by simp) ?_
    refine AllReadyH.cons rfl (fun KK hK => ?_) AllReadyH.nil
    refine step_append_srcN rfl (.tmp 9) (.tmp 13) 26 26 rfl w.heap.size 33 i0 (.agg #[.int .i64 0, .int .i64 0]) 2 16 Try.underlying26 hi0 hz0 hz1 hz2 rfl _ _ _ (by rfl) howna _ _ _ (by rfl) (HS2 wa hba) q3 q4 hba.size ?_
    intro vb wb hownb hgrb
    have hbb : Below w.heap.size w wb := Below.grown hba hgrb hba.size (fun k hk => ((howna).lt k hk).1)
    refine hK.out _ _ hbb (fun hHeld => ?_)
    clear hK KK
    try simp only [Act.put, List.setIfInBounds_toArray, List.set_cons_zero, List.set_cons_succ]
    refine wpAnyH_ready (rs := [10]) (by kernel_rfl) (by simp) ?_
    refine AllReadyH.cons rfl (fun KK hK => ?_) AllReadyH.nil
    simp only [List.getElem_toArray, List.getElem_cons_succ, List.getElem_cons_zero]
    go_simp
    refine hK.out _ _ hbb (fun hHeld => ?_)
    clear hK KK
    refine wpAnyH_done (by kernel_rfl) ?_ _
    go_wp2_with fail
    go_ret
    exact WoOwn.mk hownb (by rw [Hres.out, List.length_append, List.length_take, List.length_drop]; omega) (by rw [Hres.out, icells_append]; rfl) hbb
  · have hck' : ¬ (c : Int) = (k : Int) + 1 := by omega
    have HS2 := fun (w' : World) (hb : Below w.heap.size w w') => src_its2 (P := Try.prog) w' Try.underlying26 (c := c - (k + 1)) (List.length_drop : (l.drop (k + 1)).length = l.length - (k + 1)) (Its2.drop (h.below hb hB) (k + 1) (A' := some ⟨b0, o0 + (k + 1) * 2, none⟩) (fun _ => by simp [Addr.add_lit]))
    clear h
    go_enter Try.func17, Try.ntmps17
    go_wp2_with fail
    have hd0 : Below w.heap.size w w.drew := (Below.refl _ w).drew
    refine wp_region_held_drew (S := fun X => Below w.heap.size w X) (by kernel_rfl) hd0 (fun hHeld => ?_)
    refine takeH 1 6 (.slice (some ⟨b0, o0, none⟩) l.length c) rfl rfl (by kernel_rfl) (by kernel_rfl) (by kernel_rfl) (fun _ _ _ h => h) (by kernel_rfl) (fun X hX => by clear hX; first | rfl | go_simp) hHeld ?_
    simp only [Act.put, List.setIfInBounds_toArray, List.set_cons_zero, List.set_cons_succ]
    refine takeH 2 7 (.int .i64 (k : Int)) rfl rfl (by kernel_rfl) (by kernel_rfl) (by kernel_rfl) (fun _ _ _ h => h) (by kernel_rfl) (fun X hX => by clear hX; first | rfl | go_simp) hHeld ?_
    simp only [Act.put, List.setIfInBounds_toArray, List.set_cons_zero, List.set_cons_succ]
    refine takeH 3 8 (.slice (some ⟨b0, o0, none⟩) k c) rfl rfl (by kernel_rfl) (by kernel_rfl) (by kernel_rfl) (fun _ _ _ h => h) (by kernel_rfl) (fun X hX => by clear hX; go_simp; try (intro h; omega)) hHeld ?_
    simp only [Act.put, List.setIfInBounds_toArray, List.set_cons_zero, List.set_cons_succ]
    refine takeH 5 10 (.slice (some ⟨b0, o0, none⟩) l.length c) rfl rfl (by kernel_rfl) (by kernel_rfl) (by kernel_rfl) (fun _ _ _ h => h) (by kernel_rfl) (fun X hX => by clear hX; first | rfl | go_simp) hHeld ?_
    simp only [Act.put, List.setIfInBounds_toArray, List.set_cons_zero, List.set_cons_succ]
    refine takeH 6 11 (.int .i64 (k : Int)) rfl rfl (by kernel_rfl) (by kernel_rfl) (by kernel_rfl) (fun _ _ _ h => h) (by kernel_rfl) (fun X hX => by clear hX; first | rfl | go_simp) hHeld ?_
    simp only [Act.put, List.setIfInBounds_toArray, List.set_cons_zero, List.set_cons_succ]
    refine takeH 7 12 (.int .i64 ((k : Int) + 1)) rfl rfl (by kernel_rfl) (by kernel_rfl) (by kernel_rfl) (fun _ _ _ h => h) (by kernel_rfl) (fun X hX => by clear hX; go_simp; rw [IntKind.wrap_i64]; omega) hHeld ?_
    simp only [Act.put, List.setIfInBounds_toArray, List.set_cons_zero, List.set_cons_succ]
    refine takeH 8 13 (.slice (some ⟨b0, o0 + (k + 1) * 2, none⟩) (l.length - (k + 1)) (c - (k + 1))) rfl rfl (by kernel_rfl) (by kernel_rfl) (by kernel_rfl) (fun _ _ _ h => h) (by kernel_rfl) (fun X hX => by clear hX; go_simp; try (intro h; omega)) hHeld ?_
    simp only [Act.put, List.setIfInBounds_toArray, List.set_cons_zero, List.set_cons_succ]
    refine wpAnyH_ready (rs := [0]) (by kernel_rfl) (by simp) ?_
    refine AllReadyH.cons rfl (fun KK hK => ?_) AllReadyH.nil
    simp only [List.getElem_toArray, List.getElem_cons_succ, List.getElem_cons_zero]
    go_simp
    have hB1 := Below.alloc hd0 hd0.size (.cells #[] 33)
    have hL1 := World.ownsRow_lit (base := w.heap.size) (e := 33) (size := 2) w.drew #[] 0 hd0.size (by unfold maxLen; omega) rfl
    refine hK.out _ _ hB1 (fun hHeld => ?_)
    clear hK KK
    refine wpAnyH_ready (rs := [4]) (by kernel_rfl) (by simp) ?_
    refine AllReadyH.cons rfl (fun KK hK => ?_) AllReadyH.nil
    refine step_append_srcN rfl (.tmp 5) (.tmp 8) 26 26 rfl w.heap.size 33 i0 (.agg #[.int .i64 0, .int .i64 0]) 2 16 Try.underlying26 hi0 hz0 hz1 hz2 rfl _ _ _ (by rfl) hL1 _ _ _ (by rfl) (HS1 _ hB1) q1 q2 hB1.size ?_
    intro va wa howna hgra
    have hba : Below w.heap.size w wa := Below.grown hB1 hgra hB1.size (fun k hk => ((hL1).lt k hk).1)
    refine hK.out _ _ hba (fun hHeld => ?_)
    clear hK KK
    try simp only [Act.put, List.setIfInBounds_toArray, List.set_cons_zero, List.set_cons_succ]
    refine wpAnyH_ready (rs := [9]) (by kernel_rfl) (by simp) ?_
    refine AllReadyH.cons rfl (fun KK hK => ?_) AllReadyH.nil
    refine step_append_srcN rfl (.tmp 9) (.tmp 13) 26 26 rfl w.heap.size 33 i0 (.agg #[.int .i64 0, .int .i64 0]) 2 16 Try.underlying26 hi0 hz0 hz1 hz2 rfl _ _ _ (by rfl) howna _ _ _ (by rfl) (HS2 wa hba) q3 q4 hba.size ?_
    intro vb wb hownb hgrb
    have hbb : Below w.heap.size w wb := Below.grown hba hgrb hba.size (fun k hk => ((howna).lt k hk).1)
    refine hK.out _ _ hbb (fun hHeld => ?_)
    clear hK KK
    try simp only [Act.put, List.setIfInBounds_toArray, List.set_cons_zero, List.set_cons_succ]
    refine wpAnyH_ready (rs := [10]) (by kernel_rfl) (by simp) ?_
    refine AllReadyH.cons rfl (fun KK hK => ?_) AllReadyH.nil
    simp only [List.getElem_toArray, List.getElem_cons_succ, List.getElem_cons_zero]
    go_simp
    refine hK.out _ _ hbb (fun hHeld => ?_)
    clear hK KK
    refine wpAnyH_done (by kernel_rfl) ?_ _
    go_wp2_with fail
    go_ret
    exact WoOwn.mk hownb (by rw [Hres.out, List.length_append, List.length_take, List.length_drop]; omega) (by rw [Hres.out, icells_append]; rfl) hbb

/-- hands out a row (the one that came in, or a new one), and whether it did something -/
def UpRet (A : Option Addr) (l : List It) (b : Bool) (w : World) (e : Ending) (w' : World) : Prop := ∃ A' c', e = .returned (.tuple #[.slice A' l.length c', .bool b]) ∧ Its2 w' w'.heap.size A' l ∧ l.length ≤ c' ∧ (A' = A ∨ ∀ ad, A' = some ad → w.heap.size ≤ ad.block ∧ ad.block < w'.heap.size) ∧ Below w.heap.size w w'
theorem UpRet.mk {A : Option Addr} {l : List It} {b : Bool} {w w' : World} {n : Nat} {e : TypeId} {v : Value} {xs : List Value} (h : w'.ownsRow w.heap.size e 2 v n xs) (hn : n = l.length) (hx : xs = icells l) (hb : Below w.heap.size w w') : UpRet A l b w (.returned (.tuple #[v, .bool b])) w' := by
  subst hn; subst hx
  obtain ⟨A', c, rfl, hr, hc, hA⟩ := own_rdN h
  exact ⟨A', c, rfl, hr, hc, .inr hA, hb⟩
theorem fnd_pos {l : List It} {key : Int} {k : Nat} (h : Pil.find l key = some k) : fnd l key = (k : Int) := by unfold fnd; rw [h]
theorem fnd_neg {l : List It} {key : Int} (h : Pil.find l key = none) : fnd l key = -1 := by unfold fnd; rw [h]

set_option maxRecDepth 20000 in
set_option maxHeartbeats 4000000 in
theorem r_Push (A : Option Addr) (n c : Nat) (l : List It) (hn : l.length = n) (hcap : n ≤ c) (hm : n ≤ 1000000) (key rank : Int) (B : Nat) (w : World) (hB : B ≤ w.heap.size) (h : Its2 w B A l) :
    Calls Try.prog 12 #[.slice A n c, .int .i64 key, .int .i64 rank] w (UpRet A (if (Pil.find l key).isSome then l else l ++ [(key, rank)]) (!(Pil.find l key).isSome) w) := by
  subst hn
  obtain ⟨i0, hi0, hz0, hz1, hz2⟩ := info_parts Try.info_item
  have F := hid (r_Find A l.length c l rfl hm key B w h)
  unfold IxRet at F
  cases hf : Pil.find l key with
  | some k =>
    have H := hid h
    rw [fnd_pos hf] at F
    have i1 : (0 : Int) ≤ (k : Int) := by omega
    clear h hf
    go_enter Try.func12, Try.ntmps12
    go_wp2_with fail
    refine (F.out).mono ?_
    rintro e w' ⟨rfl, rfl⟩
    go_wp2_with fail
    go_ret2
    exact ⟨A, c, rfl, H.out.more hB, hcap, .inl rfl, Below.refl _ _⟩
  | none =>
    rw [fnd_neg hf] at F
    have hB1 := (Below.refl w.heap.size w).alloc (Nat.le_refl _) (.cells #[] 33)
    have hL1 := World.ownsRow_lit (base := w.heap.size) (e := 33) (size := 2) w #[] 0 (Nat.le_refl _) (by unfold maxLen; omega) rfl
    have HS1 := src_its2 (P := Try.prog) _ Try.underlying26 (c := c) (rfl : l.length = l.length) (h.below hB1 hB)
    have q1 : 0 + l.length ≤ maxLen := by unfold maxLen; omega
    have q2 : (0 + l.length) * 16 ≤ 140737488355328 := by omega
    have q3 : 0 + l.length + 1 ≤ maxLen := by unfold maxLen; omega
    have q4 : (0 + l.length + 1) * 16 ≤ 140737488355328 := by omega
    have hone : ∀ u ∈ [Value.int .i64 key, .int .i64 rank], u.oneCell' = true := icells_one [(key, rank)]
    clear h hf
    go_enter Try.func12, Try.ntmps12
    go_wp2_with fail
    refine (F.out).mono ?_
    rintro e w' ⟨rfl, rfl⟩
    go_wp2_with (first
      | (at_builtin; refine wpList_append_srcN rfl (.tmp 13) (.tmp 14) 26 26 rfl w.heap.size 33 i0 (.agg #[.int .i64 0, .int .i64 0]) 2 16 Try.underlying26 hi0 hz0 hz1 hz2 rfl _ _ _ (by rfl) hL1 _ _ _ (by rfl) HS1 q1 q2 hB1.size ?_; intro va wa howna hgra; have hba : Below w.heap.size w wa := Below.grown hB1 hgra hB1.size (fun k hk => (hL1.lt k hk).1))
      | (at_builtin; refine wpList_append_srcN rfl (.tmp 15) (.tmp 19) 26 26 rfl w.heap.size 33 i0 (.agg #[.int .i64 0, .int .i64 0]) 2 16 Try.underlying26 hi0 hz0 hz1 hz2 rfl _ _ _ (by rfl) (howna.alloc _) _ 1 [.int .i64 key, .int .i64 rank] (by rfl) (Src.ofSlice _ Try.underlying26 ⟨wa.heap.size, 0, none⟩ 1 1 _ rfl (lit_cells wa [.int .i64 key, .int .i64 rank] 33 (by show 2 ≤ maxLen; unfold maxLen; omega)) hone) q3 q4 (le_alloc hba.size _) ?_; intro vb wb hownb hgrb; have hbb : Below w.heap.size w wb := Below.grown (hba.alloc hba.size _) hgrb (le_alloc hba.size _) (fun k hk => (howna.lt k hk).1)))
    go_ret2
    exact UpRet.mk hownb (by simp) (by simp [icells_append]; rfl) hbb

set_option maxRecDepth 20000 in
set_option maxHeartbeats 4000000 in
theorem r_Move (A : Option Addr) (n c : Nat) (l : List It) (hn : l.length = n) (hcap : n ≤ c) (hm : n ≤ 1000000) (key rank : Int) (B : Nat) (w : World) (hB : B ≤ w.heap.size) (h : Its2 w B A l) :
    Calls Try.prog 14 #[.slice A n c, .int .i64 key, .int .i64 rank] w (UpRet A (match Pil.find l key with | some k => l.eraseIdx k ++ [(key, rank)] | none => l) (Pil.find l key).isSome w) := by
  subst hn
  obtain ⟨i0, hi0, hz0, hz1, hz2⟩ := info_parts Try.info_item
  have F := hid (r_Find A l.length c l rfl hm key B w h)
  unfold IxRet at F
  cases hf : Pil.find l key with
  | none =>
    have H := hid h
    rw [fnd_neg hf] at F
    clear h hf
    go_enter Try.func14, Try.ntmps14
    go_wp2_with fail
    refine (F.out).mono ?_
    rintro e w' ⟨rfl, rfl⟩
    go_wp2_with fail
    go_ret2
    exact ⟨A, c, rfl, H.out.more hB, hcap, .inl rfl, Below.refl _ _⟩
  | some k =>
    rw [fnd_pos hf] at F
    obtain ⟨_, _, hk⟩ := Pil.find_some hf
    have W := hid (r_Without A l.length c l rfl hcap hm k hk B w hB h)
    unfold WoOwn at W
    have hle : (l.eraseIdx k).length ≤ 1000000 := Nat.le_trans (List.length_eraseIdx_le ..) hm
    have i1 : (0 : Int) ≤ (k : Int) := by omega
    show Calls _ _ _ _ (UpRet A (l.eraseIdx k ++ [(key, rank)]) _ w)
    generalize l.eraseIdx k = l2 at *
    have q3 : l2.length + 1 ≤ maxLen := by unfold maxLen; omega
    have q4 : (l2.length + 1) * 16 ≤ 140737488355328 := by omega
    have hone : ∀ u ∈ [Value.int .i64 key, .int .i64 rank], u.oneCell' = true := icells_one [(key, rank)]
    clear h hf hk
    go_enter Try.func14, Try.ntmps14
    go_wp2_with fail
    refine (F.out).mono ?_
    rintro e w' ⟨rfl, rfl⟩
    go_wp2_with fail
    refine (W.out).mono ?_
    rintro e wa ⟨va, rfl, howna, hba⟩
    go_wp2_with (at_builtin; refine wpList_append_srcN rfl (.tmp 17) (.tmp 21) 26 26 rfl w.heap.size 33 i0 (.agg #[.int .i64 0, .int .i64 0]) 2 16 Try.underlying26 hi0 hz0 hz1 hz2 rfl _ _ _ (by rfl) (howna.alloc _) _ 1 [.int .i64 key, .int .i64 rank] (by rfl) (Src.ofSlice _ Try.underlying26 ⟨wa.heap.size, 0, none⟩ 1 1 _ rfl (lit_cells wa [.int .i64 key, .int .i64 rank] 33 (by show 2 ≤ maxLen; unfold maxLen; omega)) hone) q3 q4 (le_alloc hba.size _) ?_; intro vb wb hownb hgrb; have hbb : Below w.heap.size w wb := Below.grown (hba.alloc hba.size _) hgrb (le_alloc hba.size _) (fun k hk => (howna.lt k hk).1))
    go_ret2
    exact UpRet.mk hownb (by simp) (by simp [icells_append]; rfl) hbb
end Go.Proofs.Ytojballaghkojaa
