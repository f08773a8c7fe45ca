/- The laws' own helper for layer 13 (class): few. -/
import Derived.Test.YtcnpfchopjopeaaClsF
namespace Go.Proofs.Ytcnpfchopjopeaa
open Go.RowKit
open Whn (Gr Wh)

def tame (c : Int) : Bool := decide (-1000000 ≤ c) && decide (c ≤ 1000000)
theorem tame_iff (c : Int) : tame c = true ↔ -1000000 ≤ c ∧ c ≤ 1000000 := by
  unfold tame
  rw [Bool.and_eq_true, decide_eq_true_iff, decide_eq_true_iff]
def fewB (x : Cl) : Bool := decide (x.t.length ≤ 20) && decide (x.l.length ≤ 20) && decide (x.p.length ≤ 20) && x.t.all (fun y => tame y.c) && x.l.all (fun y => tame y.c)
theorem fewB_tame {x : Cl} (h : fewB x = true) : Tame x := by
  unfold fewB at h
  simp only [Bool.and_eq_true, List.all_eq_true] at h
  exact ⟨fun y hy => (tame_iff y.c).1 (h.1.2 y hy), fun y hy => (tame_iff y.c).1 (h.2 y hy)⟩
theorem all_no {α : Type} {f : α → Bool} {l : List α} {k : Nat} {a : α} (h : l[k]? = some a) (hf : f a = false) : l.all f = false := by
  rw [List.all_eq_false]
  exact ⟨a, List.mem_of_getElem? h, by rw [hf]; simp⟩
theorem all_yes {α : Type} {f : α → Bool} {l : List α} (h : ∀ i, i < l.length → ∀ y, l[i]? = some y → f y = true) : l.all f = true := by
  rw [List.all_eq_true]
  intro y hy
  obtain ⟨i, hi, e⟩ := List.mem_iff_getElem.1 hy
  exact h i hi y (by rw [List.getElem?_eq_getElem hi, e])
set_option maxRecDepth 20000 in
set_option maxHeartbeats 4000000 in
theorem l_few (x : Cl) (r : Cw) (w : World) (h : Clw w w.heap.size x r) :
    Calls Try.prog 12 #[cv x r] w (Did (.bool (fewB x)) w) := by
  have H := hid h
  have Hr := hid (show fewB x = (decide (x.t.length ≤ 20) && decide (x.l.length ≤ 20) && decide (x.p.length ≤ 20) && x.t.all (fun y => tame y.c) && x.l.all (fun y => tame y.c)) from rfl)
  clear h
  obtain ⟨P, W, hP, hW, K1, hb0⟩ := (Mem.nil w).one (ccl x r) 30
  clear hb0
  obtain ⟨e0, e1, e2, e3, e4, e5, e6⟩ := K1.out.cl (B := P) (x := x) (r := r) (t := 30) (by simp)
  generalize fewB x = q at *
  go_enter Try.func12, Try.ntmps12
  by_cases c1 : x.t.length ≤ 20
  · rw [decide_eq_true c1, Bool.true_and] at Hr
    have m1 : ¬ ((x.t.length : Int) > 20) := by omega
    by_cases c2 : x.l.length ≤ 20
    · rw [decide_eq_true c2, Bool.true_and] at Hr
      have m2 : ¬ ((x.l.length : Int) > 20) := by omega
      by_cases c3 : x.p.length ≤ 20
      · rw [decide_eq_true c3, Bool.true_and] at Hr
        have m3 : ¬ ((x.p.length : Int) > 20) := by omega
        go_wp2_with fail
        clear e0 e1 e2 e3 e4 e5 e6
        go_loopw [3] (fun i wr => ∃ (k : Nat), i = .int .i64 k ∧ k ≤ x.t.length ∧ Hid (Mem w wr [(P, ccl x r, 30)]) ∧ Hid (∀ i, i < k → ∀ y, x.t[i]? = some y → tame y.c = true)) (fun i _ => x.t.length - (intOf i).toNat)
        case atStart => exact ⟨0, rfl, Nat.zero_le _, K1, hid (fun i hi => absurd hi (Nat.not_lt_zero i))⟩
        case round =>
          clear K1
          obtain ⟨k, rfl, hk, KB, hsame⟩ := hrel
          obtain ⟨e0, e1, e2, e3, e4, e5, e6⟩ := KB.out.cl (B := P) (x := x) (r := r) (t := 30) (by simp)
          by_cases hlt : k < x.t.length
          · have b1 : (0 : Int) ≤ (k : Int) := by omega
            have b2 : (k : Int) < x.t.length := by omega
            obtain ⟨ad, a, hae, hadb, ha, _, hcell⟩ := Es.get enT_len (by decide) H.out.2.1 hlt
            have hbc : (ad.add (k * 5)).block < w.heap.size := by rw [add_block]; exact hadb
            have c0 : w.cell? ⟨(ad.add (k * 5)).block, (ad.add (k * 5)).off + 4, none⟩ = some (.int .i64 a.c) := by have := hcell 4 _ rfl; rwa [add_add _ _ _ (by omega)] at this
            have z0 := (KB.out.2.cell (p := ⟨(ad.add (k * 5)).block, (ad.add (k * 5)).off + 4, none⟩) hbc).trans c0
            clear hcell c0
            rw [hae] at e4
            have Hnext := hid (fun (h : tame a.c = true) => show ∀ i, i < k + 1 → ∀ y, x.t[i]? = some y → tame y.c = true from fun i hi y hy => by
              rcases Nat.lt_or_ge i k with h' | h'
              · exact hsame.out i h' y hy
              · obtain rfl : i = k := by omega
                rw [ha.out] at hy
                rw [← Option.some.inj hy]; exact h)
            have Hbad := hid (fun (h : tame a.c = false) => all_no (f := fun (y : Tm) => tame y.c) ha.out h)
            clear hsame
            by_cases g1 : a.c < -1000000
            · have hb1 : decide (a.c < -1000000) = true := decide_eq_true g1
              rw [Hbad.out (by unfold tame; rw [decide_eq_false (show ¬ -1000000 ≤ a.c by omega), Bool.false_and]), Bool.false_and] at Hr
              clear Hbad Hnext
              go_wp2_with fail
              go_ret
              exact Did.mk (by rw [Hr.out]; rfl) KB.out.2
            · by_cases g2 : a.c > 1000000
              · have hb2 : decide (1000000 < a.c) = true := decide_eq_true g2
                rw [Hbad.out (by unfold tame; rw [decide_eq_false (show ¬ a.c ≤ 1000000 by omega), Bool.and_false]), Bool.false_and] at Hr
                clear Hbad Hnext
                go_wp2_with fail
                go_ret
                exact Did.mk (by rw [Hr.out]; rfl) KB.out.2
              · have hn := hid (Hnext.out (by unfold tame; rw [decide_eq_true (show -1000000 ≤ a.c by omega), decide_eq_true (show a.c ≤ 1000000 by omega)]; rfl))
                clear Hbad Hnext
                go_wp2_with fail
                exact ⟨⟨k + 1, by go_num, by omega, hid KB.out, hn⟩, by simp [intOf]; omega⟩
          · rw [all_yes (f := fun (y : Tm) => tame y.c) (fun i hi => hsame.out i (by omega)), Bool.true_and] at Hr
            clear hsame
            have b2 : ¬ (k : Int) < x.t.length := by omega
            go_wp2_with fail
            have K4 := hid (show Mem w wr [(P, ccl x r, 30)] from KB.out)
            clear KB e0 e1 e2 e3 e4 e5 e6 b2 hlt hk
            go_loopw [4] (fun i wr => ∃ (k : Nat), i = .int .i64 k ∧ k ≤ x.l.length ∧ Hid (Mem w wr [(P, ccl x r, 30)]) ∧ Hid (∀ i, i < k → ∀ y, x.l[i]? = some y → tame y.c = true)) (fun i _ => x.l.length - (intOf i).toNat)
            case atStart => exact ⟨0, rfl, Nat.zero_le _, K4, hid (fun i hi => absurd hi (Nat.not_lt_zero i))⟩
            case round =>
              clear K4
              obtain ⟨k, rfl, hk, KD, hsame⟩ := hrel
              obtain ⟨e0, e1, e2, e3, e4, e5, e6⟩ := KD.out.cl (B := P) (x := x) (r := r) (t := 30) (by simp)
              by_cases hlt : k < x.l.length
              · have b1 : (0 : Int) ≤ (k : Int) := by omega
                have b2 : (k : Int) < x.l.length := by omega
                obtain ⟨ad, a, hae, hadb, ha, _, hcell⟩ := Es.get enP_len (by decide) H.out.2.2 hlt
                have hbc : (ad.add (k * 2)).block < w.heap.size := by rw [add_block]; exact hadb
                have c0 : w.cell? ⟨(ad.add (k * 2)).block, (ad.add (k * 2)).off + 1, none⟩ = some (.int .i64 a.c) := by have := hcell 1 _ rfl; rwa [add_add _ _ _ (by omega)] at this
                have z0 := (KD.out.2.cell (p := ⟨(ad.add (k * 2)).block, (ad.add (k * 2)).off + 1, none⟩) hbc).trans c0
                clear hcell c0
                rw [hae] at e5
                have Hnext := hid (fun (h : tame a.c = true) => show ∀ i, i < k + 1 → ∀ y, x.l[i]? = some y → tame y.c = true from fun i hi y hy => by
                  rcases Nat.lt_or_ge i k with h' | h'
                  · exact hsame.out i h' y hy
                  · obtain rfl : i = k := by omega
                    rw [ha.out] at hy
                    rw [← Option.some.inj hy]; exact h)
                have Hbad := hid (fun (h : tame a.c = false) => all_no (f := fun (y : Pl) => tame y.c) ha.out h)
                clear hsame
                by_cases g1 : a.c < -1000000
                · have hb1 : decide (a.c < -1000000) = true := decide_eq_true g1
                  rw [Hbad.out (by unfold tame; rw [decide_eq_false (show ¬ -1000000 ≤ a.c by omega), Bool.false_and])] at Hr
                  clear Hbad Hnext
                  go_wp2_with fail
                  go_ret
                  exact Did.mk (by rw [Hr.out]; rfl) KD.out.2
                · by_cases g2 : a.c > 1000000
                  · have hb2 : decide (1000000 < a.c) = true := decide_eq_true g2
                    rw [Hbad.out (by unfold tame; rw [decide_eq_false (show ¬ a.c ≤ 1000000 by omega), Bool.and_false])] at Hr
                    clear Hbad Hnext
                    go_wp2_with fail
                    go_ret
                    exact Did.mk (by rw [Hr.out]; rfl) KD.out.2
                  · have hn := hid (Hnext.out (by unfold tame; rw [decide_eq_true (show -1000000 ≤ a.c by omega), decide_eq_true (show a.c ≤ 1000000 by omega)]; rfl))
                    clear Hbad Hnext
                    go_wp2_with fail
                    exact ⟨⟨k + 1, by go_num, by omega, hid KD.out, hn⟩, by simp [intOf]; omega⟩
              · rw [all_yes (f := fun (y : Pl) => tame y.c) (fun i hi => hsame.out i (by omega))] at Hr
                clear hsame
                have b2 : ¬ (k : Int) < x.l.length := by omega
                go_wp2_with fail
                go_ret
                exact Did.mk (by rw [Hr.out]; rfl) KD.out.2
      · rw [decide_eq_false c3] at Hr
        have m3 : ((x.p.length : Int) > 20) := by omega
        go_wp2_with fail
        go_ret
        exact Did.mk (by rw [Hr.out]; rfl) K1.out.2
    · rw [decide_eq_false c2] at Hr
      have m2 : ((x.l.length : Int) > 20) := by omega
      go_wp2_with fail
      go_ret
      exact Did.mk (by rw [Hr.out]; rfl) K1.out.2
  · rw [decide_eq_false c1] at Hr
    have m1 : ((x.t.length : Int) > 20) := by omega
    go_wp2_with fail
    go_ret
    exact Did.mk (by rw [Hr.out]; rfl) K1.out.2
end Go.Proofs.Ytcnpfchopjopeaa
