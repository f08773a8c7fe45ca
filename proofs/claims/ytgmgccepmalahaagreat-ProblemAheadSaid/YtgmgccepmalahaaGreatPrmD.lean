/- Problem's own wrong, over whatever function it is handed. -/
import Derived.Test.YtgmgccepmalahaaGreatPrmC
namespace Go.Proofs.YtgmgccepmalahaaGreat
open Go.RowKit
open Whn (Gr Wh)

def fwB (most : Int) (rt : Nat → Bool) (i : Nat) : Bool := decide ((i : Int) = most) || !rt i
def fwV (n : Nat) (most : Int) (rt : Nat → Bool) : Int := match (List.range n).find? (fwB most rt) with | some i => (i : Int) | none => -1
theorem fw_some {n : Nat} {most : Int} {rt : Nat → Bool} {i : Nat} (hi : i < n) (h : fwB most rt i = true) (hb : ∀ j, j < i → fwB most rt j = false) : fwV n most rt = (i : Int) := by
  unfold fwV; rw [find_range hi h hb]
theorem fw_none {n : Nat} {most : Int} {rt : Nat → Bool} (hb : ∀ j, j < n → fwB most rt j = false) : fwV n most rt = -1 := by
  unfold fwV
  rw [List.find?_eq_none.2 (fun j hj => by rw [hb j (List.mem_range.1 hj)]; decide)]
theorem fnd_miss (ns : List (List UInt8)) (s : List UInt8) : decide (fnd ns s = -1) = !ns.any (fun u => decide (u = s)) := by
  cases h : ns.any (fun u => decide (u = s)) with
  | false =>
    rw [fnd_none, decide_eq_true rfl]; rfl
    intro j z _ hz e
    rw [List.any_eq_false] at h
    exact h z (List.mem_of_getElem? hz) (by rw [e]; simp)
  | true =>
    rw [List.any_eq_true] at h
    obtain ⟨z, hz, e⟩ := h
    have e := of_decide_eq_true e
    subst e
    obtain ⟨i, hi⟩ := List.mem_iff_getElem?.1 hz
    obtain ⟨k, hk, hkm⟩ : ∃ k, ns[k]? = some z ∧ ∀ j u, j < k → ns[j]? = some u → u ≠ z := by
      induction i using Nat.strongRecOn with
      | _ i ih =>
        by_cases hex : ∃ j u, j < i ∧ ns[j]? = some u ∧ u = z
        · obtain ⟨j, u, hj, hu, rfl⟩ := hex
          exact ih j hj hu
        · exact ⟨i, hi, fun j u hj hu e => hex ⟨j, u, hj, hu, e⟩⟩
    rw [fnd_some hk hkm, decide_eq_false (by omega)]; rfl
def nmB (ns : List (List UInt8)) (rs : List Bool) (i : Nat) : Bool := rs.getD i false && decide (fnd (ns.take i) (ns.getD i []) = -1)
theorem fw_fst (ns : List (List UInt8)) (rs : List Bool) (most : Int) : fwV ns.length most (nmB ns rs) = fst17 ns rs most := by
  have e : fwB most (nmB ns rs) = badAt ns rs most := by
    funext i
    unfold fwB nmB badAt
    rw [fnd_miss, Bool.not_and, Bool.not_not]
  unfold fwV fst17
  rw [e]
  rfl
theorem es_take {α : Type} {en : α → List Value} {w : World} {B : Nat} {A : Option Addr} {l : List α} (h : Es en w B A l) (k : Nat) : Es en w B A (l.take k) := fun hn => by
  have e1 : ecells en l = ecells en (l.take k) ++ ecells en (l.drop k) := by rw [← ecells_append, List.take_append_drop]
  obtain ⟨ad, e, hb, hc⟩ := h (fun e => hn (by rw [e] at e1; exact (List.append_eq_nil_iff.1 e1.symm).1))
  refine ⟨ad, e, hb, fun j v hv => hc j v ?_⟩
  rw [e1, List.getElem?_append_left (List.getElem?_eq_some_iff.1 hv).1]
  exact hv
set_option maxRecDepth 20000 in
set_option maxHeartbeats 4000000 in
theorem p_wrong3 (F : Nat) (c0 c1 c2 : Value) (n : Nat) (hn : n ≤ 1000000) (most : Int) (rt : Nat → Bool) (w : World) (HE : ∀ a X, Sem.run Tryz.prog (callFunc F #[a, c0, c1, c2]) X = .ok (.enter F #[a, c0, c1, c2]) X) (HP : ∀ i, i < n → ∀ X, Below w.heap.size w X → Calls Tryz.prog F #[.int .i64 (i : Int), c0, c1, c2] X (Did (.bool (rt i)) X)) :
    Calls Tryz.prog 138 #[.int .i64 (n : Int), .int .i64 most, .func (.func F) #[] #[c0, c1, c2]] w (Did (.int .i64 (fwV n most rt)) w) := by
  have HF := hid HP
  have HC := hid HE
  have Hs := hid (fun i hi h hb => fw_some (n := n) (most := most) (rt := rt) (i := i) hi h hb)
  have Hn := hid (fun hb => fw_none (n := n) (most := most) (rt := rt) hb)
  have Hb := hid (fun i => show fwB most rt i = (decide ((i : Int) = most) || !rt i) from rfl)
  generalize fwV n most rt = rr at *
  generalize fwB most rt = bd at *
  clear HP HE
  go_enter Tryz.func138, Tryz.ntmps138
  go_wp2_with fail
  go_loopw [9] (fun iv wr => ∃ i : Nat, iv = .int .i64 i ∧ i ≤ n ∧ Hid (Below w.heap.size w wr) ∧ Hid (∀ j, j < i → bd j = false)) (fun iv _ => n - (intOf iv).toNat)
  case atStart => exact ⟨0, rfl, Nat.zero_le _, hid (Below.refl _ _), hid (fun j hj => absurd hj (Nat.not_lt_zero j))⟩
  case round =>
    obtain ⟨i, rfl, hi, HB, HA⟩ := hrel
    by_cases hlt : i < n
    · have i1 : (0 : Int) ≤ (i : Int) := by omega
      have i2 : (i : Int) < (n : Int) := by omega
      have HF1 := hid (HF.out i hlt wr HB.out)
      have he := HC.out (.int .i64 (i : Int)) wr
      have Hbi := hid (Hb.out i)
      by_cases hmo : (i : Int) = most
      · have e1 : ((i : Int) == most) = true := by rw [beq_iff_eq]; exact hmo
        have Hd := hid (Hs.out i hlt (by rw [Hbi.out, decide_eq_true hmo]; rfl) HA.out)
        clear hmo
        go_wp2_with fail
        go_ret
        exact Did.mk (by rw [Hd.out]; rfl) HB.out
      · have e1 : ((i : Int) == most) = false := by rw [beq_eq_false_iff_ne]; exact hmo
        rw [decide_eq_false hmo, Bool.false_or] at Hbi
        clear hmo
        generalize rt i = q at *
        cases q with
        | false =>
          have Hd := hid (Hs.out i hlt (by rw [Hbi.out]; rfl) HA.out)
          go_wp2_with fail
          refine (HF1.out).mono ?_
          rintro e w1 ⟨rfl, b1⟩
          have HB2 := hid (HB.out.trans (b1.mono HB.out.size))
          clear b1
          go_wp2_with fail
          go_ret
          exact Did.mk (by rw [Hd.out]; rfl) HB2.out
        | true =>
          have hn2 := hid (show ∀ j, j < i + 1 → bd j = false from fun j hj => by
            rcases Nat.lt_succ_iff_lt_or_eq.1 hj with h | rfl
            · exact HA.out j h
            · rw [Hbi.out]; rfl)
          go_wp2_with fail
          refine (HF1.out).mono ?_
          rintro e w1 ⟨rfl, b1⟩
          have HB2 := hid (HB.out.trans (b1.mono HB.out.size))
          clear b1
          go_wp2_with fail
          exact ⟨⟨i + 1, by go_num, by omega, HB2, hn2⟩, by simp [intOf]; omega⟩
    · have b2 : ¬ (i : Int) < (n : Int) := by omega
      have Hd := hid (Hn.out (fun j hj => HA.out j (by omega)))
      go_wp2_with fail
      go_ret
      exact Did.mk (by rw [Hd.out]; rfl) HB.out
set_option maxRecDepth 20000 in
set_option maxHeartbeats 4000000 in
theorem p_wrong1 (F : Nat) (c0 : Value) (n : Nat) (hn : n ≤ 1000000) (most : Int) (rt : Nat → Bool) (w : World) (HE : ∀ a X, Sem.run Tryz.prog (callFunc F #[a, c0]) X = .ok (.enter F #[a, c0]) X) (HP : ∀ i, i < n → ∀ X, Below w.heap.size w X → Calls Tryz.prog F #[.int .i64 (i : Int), c0] X (Did (.bool (rt i)) X)) :
    Calls Tryz.prog 138 #[.int .i64 (n : Int), .int .i64 most, .func (.func F) #[] #[c0]] w (Did (.int .i64 (fwV n most rt)) w) := by
  have HF := hid HP
  have HC := hid HE
  have Hs := hid (fun i hi h hb => fw_some (n := n) (most := most) (rt := rt) (i := i) hi h hb)
  have Hn := hid (fun hb => fw_none (n := n) (most := most) (rt := rt) hb)
  have Hb := hid (fun i => show fwB most rt i = (decide ((i : Int) = most) || !rt i) from rfl)
  generalize fwV n most rt = rr at *
  generalize fwB most rt = bd at *
  clear HP HE
  go_enter Tryz.func138, Tryz.ntmps138
  go_wp2_with fail
  go_loopw [9] (fun iv wr => ∃ i : Nat, iv = .int .i64 i ∧ i ≤ n ∧ Hid (Below w.heap.size w wr) ∧ Hid (∀ j, j < i → bd j = false)) (fun iv _ => n - (intOf iv).toNat)
  case atStart => exact ⟨0, rfl, Nat.zero_le _, hid (Below.refl _ _), hid (fun j hj => absurd hj (Nat.not_lt_zero j))⟩
  case round =>
    obtain ⟨i, rfl, hi, HB, HA⟩ := hrel
    by_cases hlt : i < n
    · have i1 : (0 : Int) ≤ (i : Int) := by omega
      have i2 : (i : Int) < (n : Int) := by omega
      have HF1 := hid (HF.out i hlt wr HB.out)
      have he := HC.out (.int .i64 (i : Int)) wr
      have Hbi := hid (Hb.out i)
      by_cases hmo : (i : Int) = most
      · have e1 : ((i : Int) == most) = true := by rw [beq_iff_eq]; exact hmo
        have Hd := hid (Hs.out i hlt (by rw [Hbi.out, decide_eq_true hmo]; rfl) HA.out)
        clear hmo
        go_wp2_with fail
        go_ret
        exact Did.mk (by rw [Hd.out]; rfl) HB.out
      · have e1 : ((i : Int) == most) = false := by rw [beq_eq_false_iff_ne]; exact hmo
        rw [decide_eq_false hmo, Bool.false_or] at Hbi
        clear hmo
        generalize rt i = q at *
        cases q with
        | false =>
          have Hd := hid (Hs.out i hlt (by rw [Hbi.out]; rfl) HA.out)
          go_wp2_with fail
          refine (HF1.out).mono ?_
          rintro e w1 ⟨rfl, b1⟩
          have HB2 := hid (HB.out.trans (b1.mono HB.out.size))
          clear b1
          go_wp2_with fail
          go_ret
          exact Did.mk (by rw [Hd.out]; rfl) HB2.out
        | true =>
          have hn2 := hid (show ∀ j, j < i + 1 → bd j = false from fun j hj => by
            rcases Nat.lt_succ_iff_lt_or_eq.1 hj with h | rfl
            · exact HA.out j h
            · rw [Hbi.out]; rfl)
          go_wp2_with fail
          refine (HF1.out).mono ?_
          rintro e w1 ⟨rfl, b1⟩
          have HB2 := hid (HB.out.trans (b1.mono HB.out.size))
          clear b1
          go_wp2_with fail
          exact ⟨⟨i + 1, by go_num, by omega, HB2, hn2⟩, by simp [intOf]; omega⟩
    · have b2 : ¬ (i : Int) < (n : Int) := by omega
      have Hd := hid (Hn.out (fun j hj => HA.out j (by omega)))
      go_wp2_with fail
      go_ret
      exact Did.mk (by rw [Hd.out]; rfl) HB.out
end Go.Proofs.YtgmgccepmalahaaGreat
