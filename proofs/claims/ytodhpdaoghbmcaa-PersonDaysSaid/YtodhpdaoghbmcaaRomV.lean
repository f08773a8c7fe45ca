/- Contracts of the program's own Close and Reopen (layer 11). -/
import Derived.Test.YtodhpdaoghbmcaaRomU
import Derived.Test.YtodhpdaoghbmcaaRomM
namespace Go.Proofs.Ytodhpdaoghbmcaa
open Go.RowKit
open Whn (Gr Wh)

/-- a room, and an Errno -/
def RmRet (r : Rm) (k : Int) (w : World) (e : Ending) (w' : World) : Prop := ∃ A c, e = .returned (.tuple #[rv r A c, .int .i64 k]) ∧ Whs w' w'.heap.size A r.l ∧ r.l.length ≤ c ∧ Below w.heap.size w w'
def rm0 : Rm := ⟨[], 0, 0, []⟩
theorem RmRet.zero {w w' : World} (k : Int) (hb : Below w.heap.size w w') : RmRet rm0 k w (.returned (.tuple #[zr, .int .i64 k])) w' :=
  ⟨none, 0, rfl, Rd.none_ _ _ _, Nat.le_refl _, hb⟩
abbrev zrc : List Value := [.string ⟨#[]⟩, .int .i64 0, .int .u16 0, .slice none 0 0]
theorem own_whs {w : World} {base : Nat} {v : Value} {l : List Wh} (h : w.ownsRow base 29 4 v l.length (wcells l)) : ∃ A c, v = .slice A l.length c ∧ Whs w w.heap.size A l ∧ l.length ≤ c := by
  rcases h.2 with ⟨rfl, h0⟩ | ⟨g, cap, cur, rfl, hb', hg, hn, _⟩
  · have h1 : l = [] := List.eq_nil_of_length_eq_zero h0
    subst h1
    exact ⟨none, 0, rfl, Rd.none_ _ _ _, Nat.le_refl _⟩
  · exact ⟨some ⟨g, 0, none⟩, cap, rfl, fun _ => ⟨_, rfl, (Array.getElem?_eq_some_iff.1 hg).1, fun k l hk => h.cells rfl k _ hk⟩, hn⟩
theorem own_set {w : World} {base : Nat} {e : TypeId} {size : Nat} {v : Value} {n : Nat} {xs : List Value} (h : w.ownsRow base e size v n xs) {p : Addr} (hp : p.block < base) (u : Value) : (w.setCell p u).ownsRow base e size v n xs := by
  obtain ⟨h1, h2⟩ := h
  refine ⟨h1, ?_⟩
  rcases h2 with h | ⟨g, cap, cur, rfl, hbg, hg, r⟩
  · exact .inl h
  · refine .inr ⟨g, cap, cur, rfl, hbg, ?_, r⟩
    obtain ⟨hq, e⟩ := Array.getElem?_eq_some_iff.1 hg
    rw [← e]
    simp [World.setCell, hq, Array.getElem_modify, show p.block ≠ g by omega]
theorem own_four {w : World} {base : Nat} {e : TypeId} {size : Nat} {v : Value} {n : Nat} {xs : List Value} (h : w.ownsRow base e size v n xs) {R : Nat} (hp : R < base) (u0 u1 u2 u3 : Value) :
    ((((w.setCell ⟨R, 0, none⟩ u0).setCell ⟨R, 1, none⟩ u1).setCell ⟨R, 2, none⟩ u2).setCell ⟨R, 3, none⟩ u3).ownsRow base e size v n xs :=
  own_set (own_set (own_set (own_set h (p := ⟨R, 0, none⟩) hp u0) (p := ⟨R, 1, none⟩) hp u1) (p := ⟨R, 2, none⟩) hp u2) (p := ⟨R, 3, none⟩) hp u3
set_option maxRecDepth 4000 in
set_option maxHeartbeats 2000000 in
theorem p_CloseFull (r : Rm) (A : Option Addr) (c : Nat) (hm : 16 ≤ r.l.length) (x : Wh) (w : World) :
    Calls Try.prog 54 #[rv r A c, wv x] w (RmRet rm0 9 w) := by
  obtain ⟨P, W, hP, hW, K, hb0⟩ := (Mem.nil w).one (rc r A c) 63
  obtain ⟨G, V, hG, hV, K1, hb1⟩ := K.out.one (wc x) 29
  obtain ⟨R, U, hR, hU, K2, hb2⟩ := K1.out.one zrc 63
  obtain ⟨r0, r1, r2, r3⟩ := K2.out.rm (B := P) (r := r) (A := A) (c := c) (by simp)
  have h1 : (16 : Int) ≤ (r.l.length : Int) := by omega
  have hRw : w.heap.size ≤ R := by have := K1.out.2.size; omega
  have hO := K2.out.at_ (b := R) (cs := zrc) (t := 63) (by simp)
  have z0 := hO.cell (k := 0) rfl
  have z1 := hO.cell (k := 1) rfl
  have z2 := hO.cell (k := 2) rfl
  have z3 := hO.cell (k := 3) rfl
  have f0 := hO.free 0
  have f1 := hO.free 1
  have f2 := hO.free 2
  have f3 := hO.free 3
  have hne : ∀ p ∈ ([(G, wc x, 29), (P, rc r A c, 63)] : Obs), p.1 ≠ R := by
    have q1 := (K1.out.at_ (b := G) (cs := wc x) (t := 29) (by simp)).lt
    have q2 := (K1.out.at_ (b := P) (cs := rc r A c) (t := 63) (by simp)).lt
    intro p hp
    simp only [List.mem_cons, List.not_mem_nil, or_false] at hp
    rcases hp with rfl | rfl
    · show G ≠ R; omega
    · show P ≠ R; omega
  have K3 := hid (K2.out.four hRw hne (.string ⟨#[]⟩) (.int .i64 0) (.int .u16 0) (.slice none 0 0))
  obtain ⟨X, hX⟩ : ∃ X, ((((U.setCell ⟨R, 0, none⟩ (.string ⟨#[]⟩)).setCell ⟨R, 1, none⟩ (.int .i64 0)).setCell ⟨R, 2, none⟩ (.int .u16 0)).setCell ⟨R, 3, none⟩ (.slice none 0 0)) = X := ⟨_, rfl⟩
  rw [hX] at K3
  have y0 := K3.out.cell (b := R) (cs := zrc) (t := 63) (by simp) (k := 0) rfl
  have y1 := K3.out.cell (b := R) (cs := zrc) (t := 63) (by simp) (k := 1) rfl
  have y2 := K3.out.cell (b := R) (cs := zrc) (t := 63) (by simp) (k := 2) rfl
  have y3 := K3.out.cell (b := R) (cs := zrc) (t := 63) (by simp) (k := 3) rfl
  clear hm hne hRw
  go_enter Try.func54, Try.ntmps54
  go_wp2_with fail
  exact bodyPost_ret (v := .tuple #[zr, .int .i64 9]) (by simp [results, Try.results54, go_sem, y0, y1, y2, y3]) rfl (RmRet.zero 9 K3.out.2)
set_option maxRecDepth 4000 in
set_option maxHeartbeats 4000000 in
theorem p_Close (r : Rm) (A : Option Addr) (c : Nat) (hm : r.l.length < 16) (x : Wh) (w : World) (h : Whs w w.heap.size A r.l) :
    Calls Try.prog 54 #[rv r A c, wv x] w (RmRet ⟨r.n, r.s, r.g, r.l ++ [x]⟩ 0 w) := by
  have HC := hid (fun p c2 A2 w h h2 hp c0 c1 => p_Concat p A A2 c c2 r.l [x] (by omega) (by rw [List.length_singleton]; decide) w h h2 hp c0 c1)
  have H := hid h
  obtain ⟨P, W, hP, hW, K, hb0⟩ := (Mem.nil w).one (rc r A c) 63
  obtain ⟨G, V, hG, hV, K1, hb1⟩ := K.out.one (wc x) 29
  obtain ⟨R, U, hR, hU, K2, hb2⟩ := K1.out.one zrc 63
  obtain ⟨D, T, hD, hT, K3, hb3⟩ := K2.out.one (wc x) 29
  obtain ⟨E, S, hE, hS, K4, hb4⟩ := K3.out.one [.slice A r.l.length c, .slice (some ⟨D, 0, none⟩) 1 1] 24
  obtain ⟨r0, r1, r2, r3⟩ := K2.out.rm (B := P) (r := r) (A := A) (c := c) (by simp)
  obtain ⟨c0, c1, c2, c3⟩ := K2.out.wh (B := G) (x := x) (by simp)
  have h1 : ¬ (16 : Int) ≤ (r.l.length : Int) := by omega
  go_enter Try.func54, Try.ntmps54
  go_wp2_with fail
  have hPR : P < R ∧ w.heap.size ≤ P ∧ R < S.heap.size ∧ D < S.heap.size := by
    have q1 := (K1.out.at_ (b := P) (cs := rc r A c) (t := 63) (by simp)).lt
    have q2 := (K4.out.at_ (b := R) (cs := zrc) (t := 63) (by simp)).lt
    have q3 := (K4.out.at_ (b := D) (cs := wc x) (t := 29) (by simp)).lt
    omega
  have hE := K4.out.at_ (b := E) (cs := [.slice A r.l.length c, .slice (some ⟨D, 0, none⟩) 1 1]) (t := 24) (by simp)
  have hDo := K4.out.at_ (b := D) (cs := wc x) (t := 29) (by simp)
  have hxw : Whs S S.heap.size (some ⟨D, 0, none⟩) [x] := fun _ => ⟨_, rfl, hPR.2.2.2, fun j u hj => by
    have e1 : (⟨D, 0, none⟩ : Addr).add j = ⟨D, j, none⟩ := by simp [Addr.add_lit]
    rw [e1]
    exact hDo.cell hj⟩
  refine (HC.out ⟨E, 0, none⟩ 1 (some ⟨D, 0, none⟩) S ((H.out.below K4.out.2 (Nat.le_refl _)).more K4.out.2.size) hxw hE.lt (hE.cell (k := 0) rfl) (hE.cell (k := 1) rfl)).mono ?_
  rintro e w1 ⟨v, rfl, hown, b1⟩
  have K5 := hid ((K4.out.next b1).sub (l' := [(P, rc r A c, 63), (R, zrc, 63)]) (by simp))
  obtain ⟨A1, c1', rfl, hw1, hc1⟩ := own_whs hown
  have K6 := hid ((K5.out.set hPR.2.1 (by
    intro p hp
    simp only [List.mem_cons, List.not_mem_nil, or_false] at hp
    subst hp
    show R ≠ P; omega) 3 (.slice A1 (r.l ++ [x]).length c1')).sub (l' := [(R, zrc, 63), (P, rc ⟨r.n, r.s, r.g, r.l ++ [x]⟩ A1 c1', 63)]) (by
      intro p hp
      simp only [List.mem_cons, List.not_mem_nil, or_false] at hp
      rcases hp with rfl | rfl
      · simp
      · exact List.mem_cons_self ..))
  have O6 := hid (own_set hown (p := ⟨P, 3, none⟩) (show P < S.heap.size by omega) (.slice A1 (r.l ++ [x]).length c1'))
  have p3 := (K5.out.at_ (b := P) (cs := rc r A c) (t := 63) (by simp)).free 3
  have p4 := (K5.out.at_ (b := P) (cs := rc r A c) (t := 63) (by simp)).cell (k := 3) rfl
  obtain ⟨X, hX⟩ : ∃ X, w1.setCell ⟨P, 3, none⟩ (.slice A1 (r.l ++ [x]).length c1') = X := ⟨_, rfl⟩
  rw [hX] at K6 O6
  obtain ⟨s0, s1, s2, s3⟩ := K6.out.rm (B := P) (r := ⟨r.n, r.s, r.g, r.l ++ [x]⟩) (A := A1) (c := c1') (by simp)
  have hO := K6.out.at_ (b := R) (cs := zrc) (t := 63) (by simp)
  have z0 := hO.cell (k := 0) rfl
  have z1 := hO.cell (k := 1) rfl
  have z2 := hO.cell (k := 2) rfl
  have z3 := hO.cell (k := 3) rfl
  have f0 := hO.free 0
  have f1 := hO.free 1
  have f2 := hO.free 2
  have f3 := hO.free 3
  have K7 := hid (K6.out.four (show w.heap.size ≤ R by omega) (by
    intro p hp
    simp only [List.mem_cons, List.not_mem_nil, or_false] at hp
    subst hp
    show P ≠ R; omega) (txt r.n) (.int .i64 r.s) (.int .u16 (r.g : Int)) (.slice A1 (r.l ++ [x]).length c1'))
  have O7 := hid (own_four O6.out (R := R) hPR.2.2.1 (txt r.n) (.int .i64 r.s) (.int .u16 (r.g : Int)) (.slice A1 (r.l ++ [x]).length c1'))
  obtain ⟨Z, hZ⟩ : ∃ Z, ((((X.setCell ⟨R, 0, none⟩ (txt r.n)).setCell ⟨R, 1, none⟩ (.int .i64 r.s)).setCell ⟨R, 2, none⟩ (.int .u16 (r.g : Int))).setCell ⟨R, 3, none⟩ (.slice A1 (r.l ++ [x]).length c1')) = Z := ⟨_, rfl⟩
  rw [hZ] at K7 O7
  have y0 := K7.out.cell (b := R) (cs := [txt r.n, .int .i64 r.s, .int .u16 (r.g : Int), .slice A1 (r.l ++ [x]).length c1']) (t := 63) (by simp) (k := 0) rfl
  have y1 := K7.out.cell (b := R) (cs := [txt r.n, .int .i64 r.s, .int .u16 (r.g : Int), .slice A1 (r.l ++ [x]).length c1']) (t := 63) (by simp) (k := 1) rfl
  have y2 := K7.out.cell (b := R) (cs := [txt r.n, .int .i64 r.s, .int .u16 (r.g : Int), .slice A1 (r.l ++ [x]).length c1']) (t := 63) (by simp) (k := 2) rfl
  have y3 := K7.out.cell (b := R) (cs := [txt r.n, .int .i64 r.s, .int .u16 (r.g : Int), .slice A1 (r.l ++ [x]).length c1']) (t := 63) (by simp) (k := 3) rfl
  clear r0 r1 r2 r3 c0 c1 c2 c3 hxw hDo hE hO
  generalize (r.l ++ [x]) = ll at *
  go_wp2_with fail
  obtain ⟨A2, c2', e2, hw2, hc2⟩ := own_whs O7.out
  injection e2 with e3 _ e5
  subst e3; subst e5
  exact bodyPost_ret (v := .tuple #[.agg #[txt r.n, .int .i64 r.s, .int .u16 (r.g : Int), .slice A1 ll.length c1'], .int .i64 0]) (by simp [results, Try.results54, go_sem, y0, y1, y2, y3]) rfl ⟨A1, c1', rfl, hw2, hc2, K7.out.2⟩
end Go.Proofs.Ytodhpdaoghbmcaa
