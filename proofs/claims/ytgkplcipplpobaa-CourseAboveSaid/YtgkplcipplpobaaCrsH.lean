/- The document's own holds for layer 14 (course). -/
import Derived.Test.YtgkplcipplpobaaCrsF
namespace Go.Proofs.Ytgkplcipplpobaa
open Go.RowKit
open Whn (Gr Wh)

/-- does a class of a load have what it asks for? -/
def holdN (l : List ClA) (ls : List (List Int)) (r : List Int) (n : Int) : Bool := ls.all fun p => !(decide (ovr l n ∈ p) && !decide (ovr l n ∈ r))
def holdC (l : List ClA) (ls : List (List Int)) (r : List Int) : Bool := r.all (holdN l ls r)
set_option maxRecDepth 20000 in
set_option maxHeartbeats 4000000 in
theorem r_holds (A : Option Addr) (c : Nat) (l : List ClA) (B : Option Addr) (d : Nat) (ls : List (List Int)) (hl : Lsok ls) (C : Option Addr) (e : Nat) (r : List Int) (hrm : r.length ≤ maxLen) (hrl : ∀ n ∈ r, 0 ≤ n ∧ n < (l.length : Nat)) (w : World) (h : Es enC w w.heap.size A l) (hB : Rows2 w w.heap.size B ls) (hC : Its w w.heap.size C r) :
    Calls Try.prog 41 #[.slice A l.length c, .agg #[.slice B ls.length d], .slice C r.length e] w (Did (.bool (holdC l ls r)) w) := by
  have hlm := hl.1
  unfold maxLen at hlm hrm
  have HHa := hid (fun B n k l hn hm y X C h => r_Has B n k l hn hm y X C h)
  have HL := hid hl.2
  have HRl := hid hrl
  have Hr := hid (show holdC l ls r = r.all (holdN l ls r) from rfl)
  have Hh := hid (fun n => show holdN l ls r n = ls.all (fun p => !(decide (ovr l n ∈ p) && !decide (ovr l n ∈ r))) from rfl)
  have Hov := hid (fun (i : Nat) y (hy : l[i]? = some y) => show ovr l (i : Int) = y.x.o by
    have hil := (List.getElem?_eq_some_iff.1 hy).1
    unfold ovr
    rw [if_pos (by omega), Int.toNat_natCast, List.getD_eq_getElem?_getD, hy]
    rfl)
  generalize holdC l ls r = q at *
  generalize holdN l ls r = hn at *
  generalize ovr l = ov at *
  obtain ⟨P, W, hP, hW, K, hb0⟩ := (Mem.nil w).one [.slice B ls.length d] 42
  have e0 := K.out.cell (b := P) (cs := [.slice B ls.length d]) (t := 42) (by simp) (k := 0) rfl
  have H := hid (h.below K.out.2 (Nat.le_refl _))
  have H2 := hid (hB.below K.out.2 (Nat.le_refl _))
  have H3 := hid (hC.below K.out.2 (Nat.le_refl _))
  clear h hB hC hl hrl hb0
  go_enter Try.func41, Try.ntmps41
  go_wp2_with fail
  clear hP hW
  go_loopw [7] (fun i wr => ∃ (k : Nat), i = .int .i64 k ∧ k ≤ r.length ∧ W = wr ∧ Hid (∀ i, i < k → ∀ n, r[i]? = some n → hn n = true)) (fun i _ => r.length - (intOf i).toNat)
  case atStart => exact ⟨0, rfl, Nat.zero_le _, rfl, hid (fun i hi => absurd hi (Nat.not_lt_zero i))⟩
  case round =>
    obtain ⟨k, rfl, hk, rfl, hsame⟩ := hrel
    by_cases hlt : k < r.length
    · obtain ⟨ar, n, hae, _, hx, hcx⟩ := Its.get H3.out hlt
      obtain ⟨hn0, hnl⟩ := HRl.out n (List.mem_of_getElem? hx.out)
      obtain ⟨a, rfl⟩ := Int.eq_ofNat_of_zero_le hn0
      have hal : a < l.length := by omega
      obtain ⟨ad, y, hbe, hadb, hy, _, hcell⟩ := Es.get enC_len (by decide) H.out hal
      have d6 : W.cell? ⟨(ad.add (a * 7)).block, (ad.add (a * 7)).off + 6, none⟩ = some (.int .i64 y.x.o) := by have := hcell 6 _ rfl; rwa [add_add _ _ _ (by omega)] at this
      have b1 : (0 : Int) ≤ (k : Int) := by omega
      have b2 : (k : Int) < r.length := by omega
      have i1 : (0 : Int) ≤ (a : Int) := by omega
      have i2 : (a : Int) < l.length := by omega
      have Hbad := hid (fun (h : hn (a : Int) = false) => all_no hx.out h)
      have Hnx := hid (fun (h : hn (a : Int) = true) => all_next hx.out h hsame.out)
      have Hha := hid (Hh.out (a : Int))
      rw [Hov.out a y hy.out] at Hha
      obtain ⟨o, ho⟩ : ∃ o, y.x.o = o := ⟨_, rfl⟩
      rw [ho] at d6 Hha
      have Hall1 := hid (fun (k : Nat) (p : List Int) (hp : ls[k]? = some p) (h : (!(decide (o ∈ p) && !decide (o ∈ r))) = false) => Hbad.out (by rw [Hha.out]; exact all_no (f := fun p => !(decide (o ∈ p) && !decide (o ∈ r))) hp h))
      have Hend1 := hid (fun (h : ∀ i, i < ls.length → ∀ p, ls[i]? = some p → (!(decide (o ∈ p) && !decide (o ∈ r))) = true) => Hnx.out (by rw [Hha.out]; exact all_yes (f := fun p => !(decide (o ∈ p) && !decide (o ∈ r))) h))
      have Hae := hid hae
      rw [hae, hbe]
      clear hcell ho hy hn0 hnl hx hsame Hbad Hnx Hha
      go_wp2_with fail
      go_loopw [9] (fun i wr => ∃ (j : Nat), i = .int .i64 j ∧ j ≤ ls.length ∧ W = wr ∧ Hid (∀ i, i < j → ∀ p, ls[i]? = some p → (!(decide (o ∈ p) && !decide (o ∈ r))) = true)) (fun i _ => ls.length - (intOf i).toNat)
      case atStart => exact ⟨0, rfl, Nat.zero_le _, rfl, hid (fun i hi => absurd hi (Nat.not_lt_zero i))⟩
      case round =>
        obtain ⟨j, rfl, hj, rfl, hsame⟩ := hrel
        by_cases hlt2 : j < ls.length
        · obtain ⟨ae, Bk, dk, v, hce, haeb, hy, hyl, hcy, hry, hdky⟩ := H2.out.get hlt2
          have hvl := (HL.out v hyl).1
          have b3 : (0 : Int) ≤ (j : Int) := by omega
          have b4 : (j : Int) < ls.length := by omega
          have HH1 := hid (HHa.out Bk v.length dk v rfl hvl o W _ hry)
          have HH2 := hid (HHa.out C r.length e r rfl (by unfold maxLen; omega) o W _ H3.out)
          have Hb2 := hid (Hall1.out j v hy.out)
          have Hn2 := hid (fun h => all_next (f := fun p => !(decide (o ∈ p) && !decide (o ∈ r))) hy.out h hsame.out)
          unfold maxLen at hvl
          rw [hce] at e0
          clear hry hdky hsame hce Hall1 Hend1
          go_wp2_with fail
          refine (HH1.out).mono ?_
          rintro e2 w1 ⟨rfl, rfl⟩
          cases hR : decide (o ∈ v) with
          | false =>
            have hn2 := hid (Hn2.out (by rw [hR]; rfl))
            clear Hb2 Hn2 hR
            go_wp2_with fail
            exact ⟨⟨j + 1, by go_num, by omega, trivial, hn2⟩, by simp [intOf]; omega⟩
          | true =>
            go_wp2_with fail
            rw [Hae.out] at HH2
            refine (HH2.out).mono ?_
            rintro e2 w1 ⟨rfl, rfl⟩
            cases hS : decide (o ∈ r) with
            | true =>
              have hn2 := hid (Hn2.out (by rw [hR, hS]; rfl))
              clear Hb2 Hn2 hR hS
              go_wp2_with fail
              exact ⟨⟨j + 1, by go_num, by omega, trivial, hn2⟩, by simp [intOf]; omega⟩
            | false =>
              have hb := hid (Hb2.out (by rw [hR, hS]; rfl))
              clear Hb2 Hn2 hR hS
              go_wp2_with fail
              go_ret
              exact Did.mk (by rw [Hr.out, hb.out]; rfl) K.out.2
        · have b4 : ¬ (j : Int) < ls.length := by omega
          have hn2 := hid (Hend1.out (fun i hi => hsame.out i (by omega)))
          clear Hall1 Hend1 hsame
          go_wp2_with fail
          exact ⟨⟨k + 1, by go_num, by omega, trivial, hn2⟩, by simp [intOf]; omega⟩
    · have b2 : ¬ (k : Int) < r.length := by omega
      have hn2 := hid (all_yes (fun i hi => hsame.out i (by omega)))
      clear hsame
      go_wp2_with fail
      go_ret
      exact Did.mk (by rw [Hr.out, hn2.out]; rfl) K.out.2
end Go.Proofs.Ytgkplcipplpobaa
