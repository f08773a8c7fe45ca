/- up of the library's heap over items (layer 7). -/
import Derived.Test.YtojballaghkojaaHepB
import Derived.Handy
namespace Go.Proofs.Ytojballaghkojaa
open Go.RowKit Go.Shelf
open Pil (It)

/-- the items as the library's heap has them -/
abbrev ifc (q : Nat) : Value := .iface 46 (ptr q)
theorem St.lt_q {w : World} {q g c bm : Nat} {l : List It} (h : St w q g c bm l) : q < w.heap.size := (Array.getElem?_eq_some_iff.1 h.hd).1
theorem kept_below {F : Nat → Prop} {w w1 w2 : World} (h : Kept F w w1) (hb : Below w1.heap.size w1 w2) : Kept F w w2 := h.trans (Kept.of hb (F := fun _ => False)) (fun _ h => h.elim)
theorem kept_same {F : Nat → Prop} {w w1 w2 : World} (h : Kept F w w1) (k : Kept F w1 w2) : Kept F w w2 := h.trans k fun _ h => .inl h
/-- a row that was ordered, up to what stands behind it -/
def UpPost (q g c bm : Nat) (t r : List It) (w : World) (e : Ending) (w' : World) : Prop := e = .returned (.tuple #[]) ∧ ∃ t', St w' q g c bm (t' ++ r) ∧ t'.Perm t ∧ Hep.Ok t' ∧ Kept (fun k => k = g ∨ k = bm) w w'
set_option maxRecDepth 20000 in
set_option maxHeartbeats 4000000 in
theorem h_up {w : World} {q g c bm : Nat} {t r : List It} (h : St w q g c bm (t ++ r)) {i : Nat} (hi : i < t.length) (hu : Hep.Up t i) :
    Calls Try.prog 29 #[ifc q, .int .i64 (i : Int)] w (UpPost q g c bm t r w) := by
  have H := hid h
  have HU := hid hu
  have hl := h.len
  rw [List.length_append] at hl
  clear h hu
  go_enter Try.func29, Try.ntmps29
  go_wp2_with fail
  go_loopw [1] (fun iv wr => ∃ (k : Nat) (t' : List It), iv = .int .i64 k ∧ k < t'.length ∧ Hid (St wr q g c bm (t' ++ r)) ∧ Hid (t'.Perm t) ∧ Hid (Hep.Up t' k) ∧ Hid (Kept (fun k => k = g ∨ k = bm) w wr)) (fun iv _ => (intOf iv).toNat)
  case atStart => exact ⟨i, t, rfl, hi, H, hid (.refl _), HU, hid (Kept.refl _ _)⟩
  case round =>
    obtain ⟨k, t', rfl, hk, HS, HP, HI, HK⟩ := hrel
    have hlen := HP.out.length_eq
    cases k with
    | zero =>
      have Fin : Hid (Hep.Ok t') := hid (HI.out.ok (.inl rfl))
      clear hlen hl
      go_wp2_with fail
      go_end0
      exact ⟨rfl, t', HS.out, HP.out, Fin.out, HK.out⟩
    | succ m =>
      have i1 : (0 : Int) < ((m + 1 : Nat) : Int) := by omega
      have e1 : wrap64 (m : Int) = (m : Int) := by unfold wrap64; omega
      have e2 : wrap64 ((m : Int) / 2) = (m : Int) / 2 := by unfold wrap64; omega
      have e3 : ((m / 2 : Nat) : Int) = (m : Int) / 2 := by omega
      have e4 : ((m : Int) / 2 == (m : Int) + 1) = false := by rw [beq_eq_false_iff_ne]; omega
      have hm2 : m / 2 < t'.length := by omega
      have L := hid (h_less HS.out (Hep.lt_app r hk) (Hep.lt_app r hm2))
      rw [Hep.g_app r hk, Hep.g_app r hm2] at L
      obtain ⟨bb, Hb⟩ : ∃ b, Hid (decide (Pil.lt (Hep.g t' (m + 1)) (Hep.g t' (m / 2))) = b) := ⟨_, hid rfl⟩
      rw [Hb.out, show ((m + 1 : Nat) : Int) = (m : Int) + 1 from rfl, e3] at L
      clear e3
      cases bb with
      | false =>
        have hnl : ¬ Pil.lt (Hep.g t' (m + 1)) (Hep.g t' (m / 2)) := of_decide_eq_false Hb.out
        have Fin : Hid (Hep.Ok t') := hid (HI.out.ok (.inr hnl))
        clear hnl hlen hl
        go_wp2_with fail
        with_reducible refine (L.out).mono ?_
        rintro e w2 ⟨rfl, b2⟩
        have HK2 := hid (kept_below HK.out b2)
        have HS2 := hid (HS.out.below b2)
        clear b2
        go_wp2_with fail
        go_end0
        exact ⟨rfl, t', HS2.out, HP.out, Fin.out, HK2.out⟩
      | true =>
        have hlt : Pil.lt (Hep.g t' (m + 1)) (Hep.g t' (m / 2)) := of_decide_eq_true Hb.out
        have HU2 := hid (HI.out.ud.up hk (by omega) (show Pil.lt (Hep.g t' (m + 1)) (Hep.g t' ((m + 1 - 1) / 2)) from hlt))
        clear hlt
        go_wp2_with fail
        with_reducible refine (L.out).mono ?_
        rintro e w2 ⟨rfl, b2⟩
        have HK2 := hid (kept_below HK.out b2)
        have SW := hid (h_swap (HS.out.below b2) (Hep.lt_app r hm2) (Hep.lt_app r hk))
        rw [Hep.sw_app r hm2 hk, Hep.sw_comm hm2 hk, show ((m + 1 : Nat) : Int) = (m : Int) + 1 from rfl, show ((m / 2 : Nat) : Int) = (m : Int) / 2 by omega] at SW
        clear b2 L
        go_wp2_with fail
        with_reducible refine (SW.out).mono ?_
        rintro e w3 ⟨rfl, h3, k3⟩
        have HS3 := hid h3
        have HK3 := hid (kept_same HK2.out k3)
        have HP3 := hid ((Hep.sw_perm hk hm2).trans HP.out)
        have hl3 : m / 2 < (Hep.sw t' (m + 1) (m / 2)).length := by rw [Hep.sw_len]; exact hm2
        clear h3 k3 SW
        go_wp2_with fail
        exact ⟨⟨m / 2, _, by go_num, hl3, HS3, HP3, HU2, HK3⟩, by simp [intOf]; omega⟩
end Go.Proofs.Ytojballaghkojaa
