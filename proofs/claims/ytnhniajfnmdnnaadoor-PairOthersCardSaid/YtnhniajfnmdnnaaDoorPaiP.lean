/- The table of the names in memory (layer 15); the program's Name, Kind over it. -/
import Derived.Test.YtnhniajfnmdnnaaDoorPaiF
import Derived.Lib.LaidTab
import Derived.Deep.MidRow
namespace Go.Proofs.YtnhniajfnmdnnaaDoor
open Go.RowKit
open Whn (Gr Wh)

/-- an array of texts that reads as a row of texts holds them, cell for cell -/
theorem cells_of_texts {H : Type} {enc : TypeId × Value → H} {P : Program} {w : World} {base : Nat} {sp : Nat → Bool} {held : Bool} {fuel : Nat} {t e : TypeId} {n : Nat} {cs : List Value} {zs : List (List UInt8)} {p : List MemPlace}
    (ht : P.underlying t = some (.array n e)) (he : P.underlying e = some .string) (hce : P.cellsOf e = 1) (hct : P.cellsOf t = n)
    (h : DataW.trod enc P w base sp held fuel t cs = some (.agg (zs.map fun z => .lit (.string z)), p)) : cs = zs.map fun z => txt z := by
  cases fuel with
  | zero => simp [DataW.trod] at h
  | succ fuel =>
    simp only [DataW.trod, ht, hce, hct, Nat.mul_one] at h
    split at h
    · rename_i hl
      obtain ⟨xs, hm, hx⟩ := Option.map_eq_some_iff.1 h
      have hxs : xs.map (·.1) = zs.map fun z => (DataW.lit (.string z) : DataW H) := by
        have := congrArg Prod.fst hx
        simpa using this
      have hxl : xs.length = n := by simpa using Lib.mapM_length hm
      have hzl : zs.length = n := by
        have := congrArg List.length hxs
        simp at this
        omega
      apply List.ext_getElem?
      intro i
      by_cases hi : i < n
      · obtain ⟨b, hb, hf⟩ := Lib.mapM_at hm i i (by simp [hi])
        obtain ⟨s, hc, rfl, _⟩ := DataW.trod_string he hf
        have h1 : cs[i]? = some (.string s) := by
          have := congrArg (·[0]?) hc
          simpa [List.getElem?_take, List.getElem?_drop] using this
        have h2 : (xs.map (·.1))[i]? = some (DataW.lit (.string s.data.toList) : DataW H) := by simp [hb]
        rw [hxs] at h2
        simp only [List.getElem?_map, Option.map_eq_some_iff, DataW.lit.injEq, Lit.string.injEq] at h2
        obtain ⟨z', hz', hz2⟩ := h2
        rw [h1, List.getElem?_map, hz', hz2]
        exact congrArg (fun b => some (Value.string b)) (of_bs s).symm
      · rw [List.getElem?_eq_none (by omega), List.getElem?_eq_none (by simp; omega)]
    · cases h
/-- the names, as the table has them -/
def Tn (w : World) : Prop := ∀ i : Nat, i < 25 → w.cell? ⟨0, i, none⟩ = some (txt (nmB (i : Int)))
theorem Tn.next {w w' : World} (h : Tn w) (hb : Below w.heap.size w w') : Tn w' := fun i hi => (hb.cell (p := ⟨0, i, none⟩) (World.block_lt_of_cell? _ _ (h i hi))).trans (h i hi)
def Tbn (w : World) : Prop := Tb w ∧ Tn w
theorem Tbn.next {w w' : World} (h : Tbn w) (hb : Below w.heap.size w w') : Tbn w' := ⟨h.1.next hb, h.2.next hb⟩
theorem nmB_out {k : Int} (h : k < 0 ∨ 25 ≤ k) : nmB k = [] := by
  unfold nmB
  rw [if_neg (by omega), if_neg (by omega)]
set_option maxRecDepth 8000 in
theorem p_NameP (k : Int) (hk : I64 k) (w : World) (hT : Tn w) : Calls Tryd.prog 23 #[.int .i64 k] w (Did (txt (nmB k)) w) := by
  unfold I64 at hk
  by_cases h1 : k < 0
  · rw [nmB_out (.inl h1)]
    clear hT
    go_enter Tryd.func23, Tryd.ntmps23
    go_wp2_with fail
    go_ret
    exact Did.mk rfl (Below.refl _ _)
  by_cases h2 : 25 ≤ k
  · rw [nmB_out (.inr h2)]
    clear hT
    go_enter Tryd.func23, Tryd.ntmps23
    go_wp2_with fail
    go_ret
    exact Did.mk rfl (Below.refl _ _)
  obtain ⟨i, rfl⟩ : ∃ i : Nat, k = i := ⟨k.toNat, by omega⟩
  have hi : i < 25 := by omega
  have hc := hT i hi
  generalize nmB (i : Int) = nm at *
  have b1 : ¬ (25 : Int) ≤ (i : Int) := by omega
  have b2 : (i : Int) < 25 := by omega
  clear hT hk h1 h2
  go_enter Tryd.func23, Tryd.ntmps23
  go_wp2_with fail
  go_ret
  exact Did.mk rfl (Below.refl _ _)
def nmL : List Value := (List.range 25).map fun i => txt (nmB ((i : Nat) : Int))
theorem nmL_at {j : Nat} (h : j < 25) : nmL[j]? = some (txt (nmB (j : Int))) := by
  unfold nmL
  rw [List.getElem?_map, List.getElem?_range h]
  rfl
theorem Tn.row {w : World} (h : Tn w) : w.rangeAt 0 0 nmL := by
  intro j v hv
  have hj : j < 25 := by
    have := (List.getElem?_eq_some_iff.1 hv).1
    unfold nmL at this
    simpa using this
  rw [nmL_at hj] at hv
  rw [Nat.zero_add, ← hv]
  exact h j hj
theorem run_name_at {L : List Value} {j : Nat} {nm : List UInt8} (hj : j < 25) (h : L[j]? = some (txt nm)) (w : World) : (Instr.index 47 (.agg L.toArray) (.int .i64 (j : Int))).run Tryd.prog w = .ok (txt nm) w := by
  have h1 : (0 : Int) ≤ (j : Int) ∧ (j : Int) < 25 := by omega
  simp [Instr.index, run_underlying Tryd.underlying47, asIntOf, h1, go_sem, part, h]
  intro h2
  omega
set_option maxRecDepth 20000 in
set_option maxHeartbeats 2000000 in
theorem p_KindP (s : List UInt8) (hs : s.length ≤ maxLen) (w : World) (hT : Tn w) : Calls Tryd.prog 19 #[txt s] w (Did (kdV s) w) := by
  have hrow := hid hT.row
  have HA := hid (fun j hj => nmL_at (j := j) hj)
  have hl : nmL.length = 25 := rfl
  have hi := hid (show (Tryd.prog.info? 47).map (·.size) = some nmL.length by kernel_rfl)
  generalize nmL = L at *
  clear hT
  have Hsm := hid (fun j hs hj hno h => kd_some (s := s) (j := j) hs hj hno h)
  have Hnn := hid (fun hno => kd_none (s := s) hno)
  have H0 := hid (show nmB ((0 : Nat) : Int) = [] from rfl)
  have Hz := hid (show kdV [] = .tuple #[.int .i64 0, .bool false] from rfl)
  have Hse := hid (fun (h : s = []) => congrArg kdV h)
  generalize kdV s = q at *
  go_enter Tryd.func19, Tryd.ntmps19
  go_wp2_with (refine wpList_load_mid rfl 47 _ rfl 0 0 rfl L _ hrow.out Tryd.underlying47 rfl hi.out ?_)
  clear hrow hi
  go_loopw [7] (fun i wr => ∃ (j : Nat), i = .int .i64 (j : Int) ∧ j ≤ 25 ∧ w = wr ∧ Hid (∀ i : Nat, i < j → ¬ (nmB (i : Int) = s ∧ s ≠ []))) (fun i _ => 25 - (intOf i).toNat)
  case atStart => exact ⟨0, rfl, Nat.zero_le _, rfl, hid (fun i hi => absurd hi (Nat.not_lt_zero i))⟩
  case round =>
    obtain ⟨j, rfl, hj, rfl, hno⟩ := hrel
    by_cases hlt : j < 25
    · have b1 : (j : Int) < 25 := by omega
      have hAj := HA.out j hlt
      obtain ⟨nm, hnm⟩ : ∃ nm, nmB (j : Int) = nm := ⟨_, rfl⟩
      rw [hnm] at hAj
      have hix := run_name_at hlt hAj w
      have hn1 := hno.out
      have hgo : Hid ((¬ (nm = s ∧ s ≠ [])) → ∀ i : Nat, i < j + 1 → ¬ (nmB (i : Int) = s ∧ s ≠ [])) := hid (fun h i hi => by
        rcases Nat.lt_or_ge i j with h' | h'
        · exact hn1 i h'
        · obtain rfl : i = j := by omega
          rw [hnm]
          exact h)
      have hfound : Hid (nm = s → s ≠ [] → q = .tuple #[.int .i64 (j : Int), .bool true]) := hid (fun h1 h2 => by
        cases j with
        | zero => exact absurd (h1.symm.trans (hnm.symm.trans H0.out)) h2
        | succ i =>
          have := Hsm.out i h2 (by omega) (fun i' hi' h' => hn1 (i' + 1) (by omega) ⟨by rw [← h']; push_cast; rfl, h2⟩) (by rw [← h1, ← hnm]; push_cast; rfl)
          rw [this]
          push_cast
          rfl)
      clear HA Hsm Hnn H0 Hz Hse hn1 hno hAj hnm hl
      by_cases hR : nm = s
      · have q3 : ((bs nm).toList == (bs s).toList) = true := by rw [list_of, list_of, bs_data, bs_data, beq_iff_eq]; exact hR
        by_cases hse : s = []
        · have q0 : (bs nm).toList.isEmpty = true := by rw [hR, hse, list_of, bs_data]; rfl
          have hgo2 := hid (hgo.out (fun h => h.2 hse))
          clear hR hse hgo hfound
          go_wp2_with fail
          exact ⟨⟨j + 1, by go_num, by omega, trivial, hgo2⟩, by simp [intOf]; omega⟩
        · have q0 : (bs nm).toList.isEmpty = false := by
            rw [hR, list_of, bs_data]
            cases s with
            | nil => exact absurd rfl hse
            | cons a r => rfl
          have Hres := hid (hfound.out hR hse)
          clear hR hse hgo hfound
          go_wp2_with fail
          go_ret2
          exact Did.mk Hres.out.symm (Below.refl _ _)
      · have q3 : ((bs nm).toList == (bs s).toList) = false := by rw [list_of, list_of, bs_data, bs_data, beq_eq_false_iff_ne]; exact hR
        have hgo2 := hid (hgo.out (fun h => hR h.1))
        clear hR hgo hfound
        go_wp2_with fail
        exact ⟨⟨j + 1, by go_num, by omega, trivial, hgo2⟩, by simp [intOf]; omega⟩
    · have b1 : ¬ (j : Int) < 25 := by omega
      have hn1 := hno.out
      clear HA
      have Hres : Hid (q = .tuple #[.int .i64 0, .bool false]) := by
        refine hid ?_
        by_cases hse : s = []
        · rw [Hse.out hse, Hz.out]
        · exact Hnn.out (fun i hi h => hn1 (i + 1) (by omega) ⟨by rw [← h]; push_cast; rfl, hse⟩)
      clear Hsm Hnn H0 Hz Hse hn1 hno
      go_wp2_with fail
      go_ret2
      exact Did.mk Hres.out.symm (Below.refl _ _)
end Go.Proofs.YtnhniajfnmdnnaaDoor
