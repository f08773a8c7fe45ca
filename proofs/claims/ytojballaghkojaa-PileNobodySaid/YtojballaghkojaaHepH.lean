/- The library's heap over items: Push, Pop, Remove, Fix (layer 7). -/
import Derived.Test.YtojballaghkojaaHepG
namespace Go.Proofs.Ytojballaghkojaa
open Go.RowKit Go.Shelf
open Pil (It)

theorem h_up0 {w : World} {q g c bm : Nat} {t : List It} (h : St w q g c bm t) {i : Nat} (hi : i < t.length) (hu : Hep.Up t i) :
    Calls Try.prog 29 #[ifc q, .int .i64 (i : Int)] w (UpPost q g c bm t [] w) := h_up (r := []) (by rw [List.append_nil]; exact h) hi hu
theorem h_down0 {w : World} {q g c bm : Nat} {t : List It} (h : St w q g c bm t) {i n : Nat} (hi : i ≤ t.length) (hn : n = t.length) (hu : Hep.Ud t i) :
    Calls Try.prog 30 #[ifc q, .int .i64 (i : Int), .int .i64 (n : Int)] w (DnPost q g c bm t [] i w) := h_down (r := []) (by rw [List.append_nil]; exact h) hi hn hu

def HpPost (q bm : Nat) (v : Value) (l : List It) (w : World) (e : Ending) (w' : World) : Prop := e = .returned (.tuple #[]) ∧ ∃ v' l', Sv w' q v' bm l' ∧ l'.Perm l ∧ Hep.Ok l' ∧ (∀ k, v'.ownBlock = some k → v.ownBlock = some k ∨ w.heap.size ≤ k) ∧ Kept (fun k => k = q ∨ v.ownBlock = some k ∨ k = bm) w w'
set_option maxRecDepth 20000 in
set_option maxHeartbeats 4000000 in
theorem hp_Push {w : World} {q bm : Nat} {v : Value} {l : List It} (h : Sv w q v bm l) (hok : Hep.Ok l) (x : It) (hx1 : I64 x.1) (hx2 : I64 x.2) (hnew : x.1 ∉ Pil.keys l) (hl : l.length < 20000) :
    Calls Try.prog 24 #[ifc q, ifi x] w (HpPost q bm v (l ++ [x]) w) := by
  have C1 := hid (i_Push h x hx1 hx2 hnew hl)
  have HU := hid (hok.push x)
  obtain ⟨n, hn⟩ : ∃ n, l.length = n := ⟨_, rfl⟩
  have hlen : (l ++ [x]).length = n + 1 := by rw [List.length_append, hn]; rfl
  rw [hn] at HU hl
  obtain ⟨l1, Hl1⟩ : ∃ l1, Hid (l ++ [x] = l1) := ⟨_, hid rfl⟩
  rw [Hl1.out] at C1 HU hlen ⊢
  obtain ⟨xv, Hxv⟩ : ∃ xv, Hid (ifi x = xv) := ⟨_, hid rfl⟩
  rw [Hxv.out] at C1 ⊢
  clear h hok hx1 hx2 hnew hn
  have w1 : wrap64 (n : Int) = (n : Int) := by unfold wrap64; omega
  have Hlen := hid hlen
  clear hlen
  go_enter Try.func24, Try.ntmps24
  go_wp2_with fail
  with_reducible refine (C1.out).mono ?_
  rintro e w1 ⟨rfl, v1, s1, o1, k1⟩
  have C2 := hid (i_Len s1)
  rw [Hlen.out] at C2
  obtain ⟨g1, c1, hv1, st1⟩ := s1.st (by intro e; have := Hlen.out; rw [e] at this; simp at this)
  have C3 := hid (h_up0 st1 (i := n) (by have := Hlen.out; omega) HU.out)
  subst hv1
  have O1 := hid o1
  have K1 := hid k1
  clear o1 k1 s1 st1 C1
  go_wp2_with fail
  with_reducible refine (C2.out).mono ?_
  rintro e w2 ⟨rfl, rfl⟩
  go_wp2_with fail
  with_reducible refine (C3.out).mono ?_
  rintro e w3 ⟨rfl, t', s3, p3, ok3, k3⟩
  go_wp2_with fail
  go_end0
  rw [List.append_nil] at s3
  refine ⟨rfl, _, t', s3.sv, p3, ok3, fun k hk => ?_, K1.out.trans k3 fun b hb => ?_⟩
  · exact O1.out k hk
  · rcases hb with rfl | rfl
    · rcases O1.out b rfl with h | h
      · exact .inl (.inr (.inl h))
      · exact .inr h
    · exact .inl (.inr (.inr rfl))
/-- x was taken out of l -/
def HoPost (q g c bm : Nat) (l : List It) (x : It) (w : World) (e : Ending) (w' : World) : Prop := e = .returned (ifi x) ∧ ∃ l', St w' q g c bm l' ∧ (x :: l').Perm l ∧ Hep.Ok l' ∧ Kept (fun k => k = q ∨ k = g ∨ k = bm) w w'
theorem kept_more {q g bm : Nat} {w w' : World} (h : Kept (fun k => k = g ∨ k = bm) w w') : Kept (fun k => k = q ∨ k = g ∨ k = bm) w w' := h.more fun _ h => .inl (.inr h)
theorem kept_qb {q g bm : Nat} {w w' : World} (h : Kept (fun k => k = q ∨ k = bm) w w') : Kept (fun k => k = q ∨ k = g ∨ k = bm) w w' := h.more fun _ h => .inl (h.elim .inl fun h => .inr (.inr h))
theorem ho_fin {q g c bm : Nat} {l t t' : List It} {x : It} {w w3 w4 : World} {e : Ending} (hp : (x :: t).Perm l) (p : t'.Perm t) (ok : Hep.Ok t') (k3 : Kept (fun k => k = q ∨ k = g ∨ k = bm) w w3) (h : IoPost q g c bm t' x w3 e w4) : HoPost q g c bm l x w e w4 := by
  obtain ⟨h1, h2, h3⟩ := h
  exact ⟨h1, t', h2, (p.cons x).trans hp, ok, kept_same k3 (kept_qb h3)⟩
set_option maxRecDepth 20000 in
set_option maxHeartbeats 4000000 in
theorem hp_Pop {w : World} {q g c bm : Nat} {l : List It} (h : St w q g c bm l) (hok : Hep.Ok l) (hl : 0 < l.length) :
    Calls Try.prog 28 #[ifc q] w (HoPost q g c bm l (Hep.g l 0) w) := by
  have C1 := hid (i_Len h.sv)
  have C2 := hid (h_swap h hl (j := l.length - 1) (by omega))
  rw [Hep.sw_last hl, show ((0 : Nat) : Int) = 0 from rfl] at C2
  have HU := hid (hok.lst hl)
  have HP := hid (Hep.lst_perm hl)
  obtain ⟨t, Ht⟩ : ∃ t, Hid (Hep.lst l 0 = t) := ⟨_, hid rfl⟩
  have htl : t.length = l.length - 1 := by rw [← Ht.out, Hep.lst_len]
  have hll := h.len
  obtain ⟨x, Hx⟩ : ∃ x, Hid (Hep.g l 0 = x) := ⟨_, hid rfl⟩
  rw [Ht.out, Hx.out] at C2 HP
  rw [Ht.out] at HU
  rw [Hx.out]
  obtain ⟨n, hn⟩ : ∃ n, l.length = n + 1 := ⟨l.length - 1, by omega⟩
  rw [hn] at C1 C2 htl hll
  simp only [Nat.add_sub_cancel] at C2 htl
  have Htl := hid htl
  clear h hok hl hn htl
  have w1 : wrap64 (n : Int) = (n : Int) := by unfold wrap64; omega
  go_enter Try.func28, Try.ntmps28
  go_wp2_with fail
  with_reducible refine (C1.out).mono ?_
  rintro e w2 ⟨rfl, rfl⟩
  go_wp2_with fail
  with_reducible refine (C2.out).mono ?_
  rintro e w3 ⟨rfl, s3, k3⟩
  have C3 := hid (h_down s3 (i := 0) (n := n) (Nat.zero_le _) Htl.out.symm HU.out)
  rw [show ((0 : Nat) : Int) = 0 from rfl] at C3
  have K3 := hid k3
  clear s3 k3 C1 C2
  go_wp2_with fail
  with_reducible refine (C3.out).mono ?_
  rintro e w4 ⟨b, t', rfl, s4, p4, o4, k4⟩
  have C4 := hid (i_Pop s4)
  have OK : Hid (Hep.Ok t') := hid (by
    rcases o4 with ⟨_, h⟩ | ⟨_, h, h2⟩
    · exact h
    · rw [h]; exact h2.ok (.inl rfl))
  have P4 := hid p4
  have K4 := hid (kept_same K3.out k4)
  clear s4 p4 o4 k4 C3
  go_wp2_with fail
  with_reducible refine (C4.out).mono ?_
  rintro e w5 ⟨rfl, s5, k5⟩
  have F := hid (ho_fin HP.out P4.out OK.out (kept_more K4.out) ⟨rfl, s5, k5⟩)
  clear s5 k5 C4
  go_wp2_with fail
  go_ret
  exact F.out
def HfPost (q g c bm : Nat) (l : List It) (w : World) (e : Ending) (w' : World) : Prop := e = .returned (.tuple #[]) ∧ ∃ l', St w' q g c bm l' ∧ l'.Perm l ∧ Hep.Ok l' ∧ Kept (fun k => k = q ∨ k = g ∨ k = bm) w w'
set_option maxRecDepth 20000 in
set_option maxHeartbeats 4000000 in
theorem hp_Fix {w : World} {q g c bm : Nat} {l : List It} (h : St w q g c bm l) {i : Nat} (hi : i < l.length) (hu : Hep.Ud l i) :
    Calls Try.prog 25 #[ifc q, .int .i64 (i : Int)] w (HfPost q g c bm l w) := by
  have C1 := hid (i_Len h.sv)
  have C2 := hid (h_down0 h (i := i) (n := l.length) (by omega) rfl hu)
  obtain ⟨n, hn⟩ : ∃ n, l.length = n := ⟨_, rfl⟩
  rw [hn] at C1 C2
  have HI := hid hi
  clear h hu hn hi
  go_enter Try.func25, Try.ntmps25
  go_wp2_with fail
  with_reducible refine (C1.out).mono ?_
  rintro e w2 ⟨rfl, rfl⟩
  go_wp2_with fail
  with_reducible refine (C2.out).mono ?_
  rintro e w3 ⟨b, t', rfl, s3, p3, o3, k3⟩
  rw [List.append_nil] at s3
  rcases o3 with ⟨rfl, ok⟩ | ⟨rfl, rfl, up⟩
  · have F : Hid (HfPost q g c bm l w2 (.returned (.tuple #[])) w3) := hid ⟨rfl, t', s3, p3, ok, kept_more k3⟩
    clear s3 p3 ok k3 C1 C2
    go_wp2_with fail
    go_end0
    exact F.out
  · have C3 := hid (h_up0 s3 HI.out up)
    have K3 := hid k3
    clear s3 k3 up C1 C2 p3
    go_wp2_with fail
    with_reducible refine (C3.out).mono ?_
    rintro e w4 ⟨rfl, t', s4, p4, ok, k4⟩
    rw [List.append_nil] at s4
    have F : Hid (HfPost q g c bm _ w2 (.returned (.tuple #[])) w4) := hid ⟨rfl, t', s4, p4, ok, kept_more (kept_same K3.out k4)⟩
    clear s4 p4 ok k4 C3
    go_wp2_with fail
    go_end0
    exact F.out
set_option maxRecDepth 20000 in
set_option maxHeartbeats 4000000 in
theorem hp_Remove {w : World} {q g c bm : Nat} {l : List It} (h : St w q g c bm l) (hok : Hep.Ok l) {i : Nat} (hi : i < l.length) :
    Calls Try.prog 26 #[ifc q, .int .i64 (i : Int)] w (HoPost q g c bm l (Hep.g l i) w) := by
  have C1 := hid (i_Len h.sv)
  have HP := hid (Hep.lst_perm hi)
  have hll := h.len
  by_cases hin : i = l.length - 1
  · have he := Hep.lst_end (l := l) (by intro e; rw [e] at hi; simp at hi)
    have HO := hid (hok.lst_end (by intro e; rw [e] at hi; simp at hi))
    rw [← hin] at he HO
    have C2 := hid (i_Pop (t := Hep.lst l i) (x := Hep.g l i) (by rw [he]; exact h))
    obtain ⟨t, Ht⟩ : ∃ t, Hid (Hep.lst l i = t) := ⟨_, hid rfl⟩
    obtain ⟨x, Hx⟩ : ∃ x, Hid (Hep.g l i = x) := ⟨_, hid rfl⟩
    rw [Ht.out, Hx.out] at C2 HP
    rw [Ht.out] at HO
    rw [Hx.out]
    obtain ⟨n, hn⟩ : ∃ n, l.length = n + 1 := ⟨l.length - 1, by omega⟩
    rw [hn] at C1 hll
    have hin : i = n := by omega
    subst hin
    clear h hok hi hn he
    have w1 : wrap64 (i : Int) = (i : Int) := by unfold wrap64; omega
    go_enter Try.func26, Try.ntmps26
    go_wp2_with fail
    with_reducible refine (C1.out).mono ?_
    rintro e w2 ⟨rfl, rfl⟩
    go_wp2_with fail
    with_reducible refine (C2.out).mono ?_
    rintro e w5 ⟨rfl, s5, k5⟩
    have F := hid (ho_fin HP.out (.refl _) HO.out (Kept.refl _ _) ⟨rfl, s5, k5⟩)
    clear s5 k5 C2
    go_wp2_with fail
    go_ret
    exact F.out
  · have C2 := hid (h_swap h hi (j := l.length - 1) (by omega))
    rw [Hep.sw_last hi] at C2
    have HU := hid (hok.lst hi)
    obtain ⟨t, Ht⟩ : ∃ t, Hid (Hep.lst l i = t) := ⟨_, hid rfl⟩
    have htl : t.length = l.length - 1 := by rw [← Ht.out, Hep.lst_len]
    obtain ⟨x, Hx⟩ : ∃ x, Hid (Hep.g l i = x) := ⟨_, hid rfl⟩
    rw [Ht.out, Hx.out] at C2 HP
    rw [Ht.out] at HU
    rw [Hx.out]
    obtain ⟨n, hn⟩ : ∃ n, l.length = n + 1 := ⟨l.length - 1, by omega⟩
    have hit : i < n := by omega
    rw [hn] at C1 C2 htl hll
    simp only [Nat.add_sub_cancel] at C2 htl
    have Htl := hid htl
    have hne : ((n : Int) == (i : Int)) = false := by rw [beq_eq_false_iff_ne]; omega
    clear h hok hi hn htl hin
    have w1 : wrap64 (n : Int) = (n : Int) := by unfold wrap64; omega
    go_enter Try.func26, Try.ntmps26
    go_wp2_with fail
    with_reducible refine (C1.out).mono ?_
    rintro e w2 ⟨rfl, rfl⟩
    go_wp2_with fail
    with_reducible refine (C2.out).mono ?_
    rintro e w3 ⟨rfl, s3, k3⟩
    have C3 := hid (h_down s3 (i := i) (n := n) (by have := Htl.out; omega) Htl.out.symm HU.out)
    have K3 := hid k3
    clear s3 k3 C1 C2
    go_wp2_with fail
    with_reducible refine (C3.out).mono ?_
    rintro e w4 ⟨b, t', rfl, s4, p4, o4, k4⟩
    rcases o4 with ⟨rfl, ok⟩ | ⟨rfl, rfl, up⟩
    · have C4 := hid (i_Pop s4)
      have OK := hid ok
      have P4 := hid p4
      have K4 := hid (kept_same K3.out k4)
      clear s4 p4 ok k4 C3
      go_wp2_with fail
      with_reducible refine (C4.out).mono ?_
      rintro e w5 ⟨rfl, s5, k5⟩
      have F := hid (ho_fin HP.out P4.out OK.out (kept_more K4.out) ⟨rfl, s5, k5⟩)
      clear s5 k5 C4
      go_wp2_with fail
      go_ret
      exact F.out
    · have C5 := hid (h_up s4 (by have := Htl.out; omega) up)
      have K4 := hid (kept_same K3.out k4)
      clear s4 p4 k4 C3 up
      go_wp2_with fail
      with_reducible refine (C5.out).mono ?_
      rintro e w6 ⟨rfl, t', s4, p4, ok, k6⟩
      have C4 := hid (i_Pop s4)
      have OK := hid ok
      have P4 := hid p4
      have K6 := hid (kept_same K4.out k6)
      clear s4 p4 ok k6 C5
      go_wp2_with fail
      with_reducible refine (C4.out).mono ?_
      rintro e w5 ⟨rfl, s5, k5⟩
      have F := hid (ho_fin HP.out P4.out OK.out (kept_more K6.out) ⟨rfl, s5, k5⟩)
      clear s5 k5 C4
      go_wp2_with fail
      go_ret
      exact F.out
end Go.Proofs.Ytojballaghkojaa
