/- The document's own Above for layer 14 (course). -/
import Derived.Test.YtgkplcipplpobaaCrsD
namespace Go.Proofs.Ytgkplcipplpobaa
open Go.RowKit
open Whn (Gr Wh)

/-- the Over of a class of the row; -1 of none -/
def ovr (l : List ClA) (i : Int) : Int := if 0 ≤ i ∧ i < (l.length : Nat) then (l.getD i.toNat ⟨⟨[], 0, 0, [], [], [], 0⟩, ⟨none, 0, none, 0, none, 0⟩⟩).x.o else -1
/-- the way up: where one stands, and what was met; -2 where one has left -/
def abv (l : List ClA) (n : Int) : Nat → Int × List Int
  | 0 => (n, [])
  | k + 1 =>
    let s := abv l n k
    if s.1 < 0 ∨ (l.length : Nat) ≤ s.1 then (-2, s.2) else
    if ovr l s.1 < 0 ∨ (l.length : Nat) ≤ ovr l s.1 ∨ ovr l s.1 = n ∨ ovr l s.1 ∈ s.2 then (-2, s.2) else (ovr l s.1, s.2 ++ [ovr l s.1])
def aboveC (l : List ClA) (n : Int) : List Int := (abv l n l.length).2
theorem abv_out (l : List ClA) (n : Int) (k : Nat) (h : (abv l n k).1 < 0 ∨ (l.length : Nat) ≤ (abv l n k).1) : abv l n (k + 1) = (-2, (abv l n k).2) := by
  rw [abv]; try simp only
  rw [if_pos h]
theorem abv_end (l : List ClA) (n : Int) (k : Nat) (h0 : ¬ ((abv l n k).1 < 0 ∨ (l.length : Nat) ≤ (abv l n k).1)) (h : ovr l (abv l n k).1 < 0 ∨ (l.length : Nat) ≤ ovr l (abv l n k).1 ∨ ovr l (abv l n k).1 = n ∨ ovr l (abv l n k).1 ∈ (abv l n k).2) : abv l n (k + 1) = (-2, (abv l n k).2) := by
  rw [abv]; try simp only
  rw [if_neg h0, if_pos h]
theorem abv_go (l : List ClA) (n : Int) (k : Nat) (h0 : ¬ ((abv l n k).1 < 0 ∨ (l.length : Nat) ≤ (abv l n k).1)) (h : ¬ (ovr l (abv l n k).1 < 0 ∨ (l.length : Nat) ≤ ovr l (abv l n k).1 ∨ ovr l (abv l n k).1 = n ∨ ovr l (abv l n k).1 ∈ (abv l n k).2)) : abv l n (k + 1) = (ovr l (abv l n k).1, (abv l n k).2 ++ [ovr l (abv l n k).1]) := by
  rw [abv]; try simp only
  rw [if_neg h0, if_neg h]
theorem abv_stay (l : List ClA) (n : Int) (k j : Nat) (h : (abv l n k).1 = -2) : (abv l n (k + j)).2 = (abv l n k).2 ∧ (abv l n (k + j)).1 = -2 := by
  induction j with
  | zero => exact ⟨rfl, h⟩
  | succ j ih =>
    rw [← Nat.add_assoc, abv_out l n (k + j) (.inl (by rw [ih.2]; omega))]
    exact ⟨ih.1, rfl⟩
theorem abv_len (l : List ClA) (n : Int) : ∀ k, (abv l n k).2.length ≤ k
  | 0 => Nat.le_refl _
  | k + 1 => by
    have ih := abv_len l n k
    rw [abv]
    try simp only
    split
    · simp only; omega
    · split
      · simp only; omega
      · simp only [List.length_append, List.length_cons, List.length_nil]; omega
theorem above_left {l : List ClA} {n : Int} {k : Nat} (hk : k < l.length) (h : abv l n (k + 1) = (-2, (abv l n k).2)) : aboveC l n = (abv l n k).2 := by
  have h1 := abv_stay l n (k + 1) (l.length - (k + 1)) (by rw [h])
  rw [show k + 1 + (l.length - (k + 1)) = l.length by omega, h] at h1
  exact h1.1
/-- hands out a row of numbers of its own -/
def OwI (m : List Int) (w : World) (e : Ending) (w' : World) : Prop := ∃ v, e = .returned v ∧ w'.ownsRow w.heap.size 3 1 v m.length (m.map (Value.int .i64)) ∧ Below w.heap.size w w'
set_option maxRecDepth 20000 in
set_option maxHeartbeats 4000000 in
theorem r_Above (A : Option Addr) (c : Nat) (l : List ClA) (hm : l.length ≤ 1000000) (n : Int) (w : World) (h : Es enC w w.heap.size A l) :
    Calls Try.prog 24 #[.slice A l.length c, .int .i64 n] w (OwI (aboveC l n) w) := by
  have HHa := hid (fun B k l hm y X C h => r_Has B l.length k l rfl hm y X C h)
  have H := hid h
  have Hout := hid (fun k => abv_out l n k)
  have Hend := hid (fun k => abv_end l n k)
  have Hgo := hid (fun k => abv_go l n k)
  have Hlen := hid (fun k => abv_len l n k)
  have Hleft := hid (fun k hk h => above_left (l := l) (n := n) (k := k) hk h)
  have Hall := hid (show (abv l n l.length).2 = aboveC l n from rfl)
  have Hz := hid (show abv l n 0 = (n, []) from rfl)
  have Hov := hid (fun (i : Nat) y (hy : l[i]? = some y) => show ovr l (i : Int) = y.x.o by
    have hil := (List.getElem?_eq_some_iff.1 hy).1
    unfold ovr
    rw [if_pos (by omega), Int.toNat_natCast, List.getD_eq_getElem?_getD, hy]
    rfl)
  generalize aboveC l n = res at *
  generalize abv l n = ab at *
  generalize ovr l = ov at *
  obtain ⟨i0, hi0, hz0, hz1, hz2⟩ := info_parts Try.info_int14
  have own0 := hid (World.ownsRow_nil w w.heap.size 3 1)
  clear h
  go_enter Try.func24, Try.ntmps24
  go_wp2_with fail
  go_loopw [5, 6, 7] (fun mv av i wr => ∃ (k : Nat), i = .int .i64 k ∧ k ≤ l.length ∧ av = .int .i64 (ab k).1 ∧ Hid (wr.ownsRow w.heap.size 3 1 mv (ab k).2.length ((ab k).2.map (Value.int .i64))) ∧ Hid (Below w.heap.size w wr)) (fun _ _ i _ => l.length - (intOf i).toNat)
  case atStart => exact ⟨0, rfl, Nat.zero_le _, by rw [Hz.out], by rw [Hz.out]; exact own0, hid (Below.refl _ _)⟩
  case round =>
    clear own0
    obtain ⟨k, rfl, hk, rfl, HO, HB⟩ := hrel
    by_cases hlt : k < l.length
    · have b1 : (0 : Int) ≤ (k : Int) := by omega
      have b2 : (k : Int) < l.length := by omega
      have Hout1 := hid (Hout.out k)
      have Hend1 := hid (Hend.out k)
      have Hgo1 := hid (Hgo.out k)
      have Hleft1 := hid (Hleft.out k hlt)
      have hlen := Hlen.out k
      obtain ⟨⟨at_, met⟩, hab⟩ : ∃ s, ab k = s := ⟨_, rfl⟩
      rw [hab] at Hout1 Hend1 Hgo1 Hleft1 hlen HO ⊢
      simp only at Hout1 Hend1 Hgo1 Hleft1 hlen HO ⊢
      clear hab Hout Hend Hgo Hlen Hleft Hall Hz
      by_cases c1 : at_ < 0
      · have Hres := hid (Hleft1.out (Hout1.out (.inl c1)))
        clear Hout1 Hend1 Hgo1 Hleft1
        go_wp2_with fail
        go_ret
        exact ⟨_, rfl, by rw [Hres.out]; exact HO.out, HB.out⟩
      · by_cases c2 : (l.length : Int) ≤ at_
        · have Hres := hid (Hleft1.out (Hout1.out (.inr c2)))
          clear Hout1 Hend1 Hgo1 Hleft1
          go_wp2_with fail
          go_ret
          exact ⟨_, rfl, by rw [Hres.out]; exact HO.out, HB.out⟩
        · obtain ⟨a, rfl⟩ := Int.eq_ofNat_of_zero_le (show 0 ≤ at_ by omega)
          have hal : a < l.length := by omega
          obtain ⟨ad, y, rfl, hadb, hy, _, hcell⟩ := Es.get enC_len (by decide) (H.out.below HB.out (Nat.le_refl _)) hal
          have d6 : wr.cell? ⟨(ad.add (a * 7)).block, (ad.add (a * 7)).off + 6, none⟩ = some (.int .i64 y.x.o) := by have := hcell 6 _ rfl; rwa [add_add _ _ _ (by omega)] at this
          have i1 : (0 : Int) ≤ (a : Int) := by omega
          have i2 : (a : Int) < l.length := by omega
          rw [Hov.out a y hy.out] at Hend1 Hgo1
          have Hend2 := hid (Hend1.out (by omega))
          have Hgo2 := hid (Hgo1.out (by omega))
          obtain ⟨o, ho⟩ : ∃ o, y.x.o = o := ⟨_, rfl⟩
          rw [ho] at d6 Hend2 Hgo2
          obtain ⟨A1, c1', hv, hr1, hc1⟩ := own_rd HO.out
          subst hv
          have HM := hid hr1
          clear hcell ho hy Hend1 Hgo1 Hout1 hr1
          by_cases g1 : o < 0
          · have Hres := hid (Hleft1.out (Hend2.out (.inl g1)))
            clear Hend2 Hgo2 Hleft1
            go_wp2_with fail
            go_ret
            exact ⟨_, rfl, by rw [Hres.out]; exact HO.out, HB.out⟩
          · by_cases g2 : (l.length : Int) ≤ o
            · have Hres := hid (Hleft1.out (Hend2.out (.inr (.inl g2))))
              clear Hend2 Hgo2 Hleft1
              go_wp2_with fail
              go_ret
              exact ⟨_, rfl, by rw [Hres.out]; exact HO.out, HB.out⟩
            · by_cases g3 : o = n
              · have q1 : (o == n) = true := by rw [beq_iff_eq]; exact g3
                have Hres := hid (Hleft1.out (Hend2.out (.inr (.inr (.inl g3)))))
                clear Hend2 Hgo2 Hleft1 g3
                go_wp2_with fail
                go_ret
                exact ⟨_, rfl, by rw [Hres.out]; exact HO.out, HB.out⟩
              · have q1 : (o == n) = false := by rw [beq_eq_false_iff_ne]; exact g3
                have HH1 := hid (HHa.out A1 c1' met (by unfold maxLen; omega) o wr _ HM.out)
                have HE := hid (fun h => Hend2.out (.inr (.inr (.inr h))))
                have HG := hid (fun (h : o ∉ met) => Hgo2.out (fun e => by rcases e with e | e | e | e; exact g1 e; exact g2 e; exact g3 e; exact h e))
                clear Hend2 Hgo2 g3
                go_wp2_with fail
                refine (HH1.out).mono ?_
                rintro e2 w1 ⟨rfl, rfl⟩
                cases hR : decide (o ∈ met) with
                | true =>
                  have Hres := hid (Hleft1.out (HE.out (of_decide_eq_true hR)))
                  clear HE HG hR
                  go_wp2_with fail
                  go_ret
                  exact ⟨_, rfl, by rw [Hres.out]; exact HO.out, HB.out⟩
                | false =>
                  have Hn := hid (HG.out (of_decide_eq_false hR))
                  have hn3 : met.length + 1 ≤ maxLen := by unfold maxLen; omega
                  have hn4 : (met.length + 1) * 8 ≤ 140737488355328 := by omega
                  have hB4 := HB.out.size
                  clear HE HG hR
                  go_wp2_with (at_builtin; refine wpList_append_own _ rfl _ _ 29 rfl w.heap.size 3 i0 (.int .i64 0) 1 8 Try.underlying29 hi0 hz0 hz1 hz2 rfl (by decide) _ _ _ rfl (HO.out.alloc _) ⟨_, 0, none⟩ 1 1 [.int .i64 o] rfl rfl (lit_one _ _ _) (int_one _ _) hn3 hn4 (le_alloc hB4 _) ?_; intro v1 w5 hown2 hgrow _)
                  have bb : Below w.heap.size wr w5 := ((Below.refl w.heap.size wr).alloc hB4 _).grown hgrow (le_alloc hB4 _) (fun k hk => (HO.out.lt k hk).1)
                  refine ⟨⟨k + 1, by go_num, by omega, by rw [Hn.out], ?_, hid (HB.out.trans bb)⟩, by simp [intOf]; omega⟩
                  rw [Hn.out]
                  simp only [List.length_append, List.map_append]
                  exact hid hown2
    · obtain rfl : k = l.length := by omega
      have b2 : ¬ (l.length : Int) < l.length := by omega
      have Ha := hid Hall.out
      obtain ⟨⟨at_, met⟩, hab⟩ : ∃ s, ab l.length = s := ⟨_, rfl⟩
      rw [hab] at HO Ha ⊢
      clear Hout Hend Hgo Hlen Hleft Hall Hz hab
      go_wp2_with fail
      go_ret
      exact ⟨_, rfl, by rw [← Ha.out]; exact HO.out, HB.out⟩
end Go.Proofs.Ytgkplcipplpobaa
