/- The document's own answers for layer 12 (person): Right, Same, Gone; few; and persons and rows of times as a law's arguments. -/
import Derived.Test.YtodhpdaoghbmcaaPerB
import Derived.Test.YtodhpdaoghbmcaaRomZ
namespace Go.Proofs.Ytodhpdaoghbmcaa
open Go.RowKit Go.ChangeShapes Go.WideShapes
open Whn (Gr Wh)

theorem psRight_eq (g : Gr) (p : Ps) : rmRight g (rmOf p) = (Whn.rgrid g && nameOk p.n && (p.l.all (Whn.right g) && decide ((p.l.length : Int) ≤ 16))) := by
  show (Whn.rgrid g && nameOk p.n && decide ((0 : Int) ≤ 0) && decide ((0 : Int) ≤ 10000) && (p.l.all (Whn.right g) && decide ((p.l.length : Int) ≤ 16))) = _
  rw [decide_eq_true (by omega), decide_eq_true (by omega), Bool.and_true, Bool.and_true]
set_option maxRecDepth 4000 in
set_option maxHeartbeats 4000000 in
theorem r_RightP (g : Gr) (p : Ps) (A : Option Addr) (c : Nat) (hok : Pok p) (hm : p.l.length ≤ maxLen) (w : World) (h : Whs w w.heap.size A p.l) :
    Calls Try.prog 11 #[gv g, pv p A c] w (Did (.bool (rmRight g (rmOf p))) w) := by
  have HG := hid (fun w => r_RightGrid g w)
  have HN := hid (fun w => r_Name (bs p.n) w)
  rw [bs_data] at HN
  have HW := hid (fun w h => r_Whens g A p.l.length c p.l rfl hm hok.2 16 w h)
  have H := hid h
  have Hr := hid (psRight_eq g p)
  clear h hok hm
  obtain ⟨P, W, hP, hW, K, hb0⟩ := (Mem.nil w).one (gc g) 23
  obtain ⟨R, V, hR, hV, K1, hb1⟩ := K.out.one (pc p A c) 26
  clear K hb0 hb1
  obtain ⟨g0, g1, g2⟩ := K1.out.gr (B := P) (g := g) (by simp)
  generalize (p.l.all (Whn.right g) && decide ((p.l.length : Int) ≤ 16)) = ww at *
  generalize rmRight g (rmOf p) = q at *
  generalize nameOk p.n = nn at *
  generalize Whn.rgrid g = gg at *
  cases gg with
  | false =>
    go_enter Try.func11, Try.ntmps11
    go_wp2_with fail
    refine (HG.out _).mono ?_
    rintro e w1 ⟨rfl, b1⟩
    go_wp2_with fail
    go_ret
    exact Did.mk (by rw [Hr.out]; rfl) (K1.out.next b1).2
  | true =>
    go_enter Try.func11, Try.ntmps11
    go_wp2_with fail
    refine (HG.out _).mono ?_
    rintro e w1 ⟨rfl, b1⟩
    have K2 := K1.out.next b1
    clear g0 g1 g2
    obtain ⟨r0, r1⟩ := K2.ps (B := R) (p := p) (A := A) (c := c) (by simp)
    obtain ⟨g0, g1, g2⟩ := K2.gr (B := P) (g := g) (by simp)
    go_wp2_with fail
    refine (HN.out _).mono ?_
    rintro e w2 ⟨rfl, rfl⟩
    cases nn with
    | false =>
      go_wp2_with fail
      go_ret
      exact Did.mk (by rw [Hr.out]; rfl) K2.2
    | true =>
      go_wp2_with fail
      refine (HW.out _ (H.out.below K2.2 (Nat.le_refl _) |>.more K2.2.size)).mono ?_
      rintro e w3 ⟨rfl, b3⟩
      have K3 := K2.next b3
      go_wp2_with fail
      go_ret
      exact Did.mk (by rw [Hr.out]; rfl) K3.2
theorem psEq_eq (x y : Ps) : psEq x y = (decide (x.n = y.n) && decide (x.l = y.l)) := by
  show (decide (x.n = y.n) && decide ((0 : Int) = 0) && decide ((0 : Nat) = 0) && decide (x.l = y.l)) = _
  rw [decide_eq_true rfl, decide_eq_true rfl, Bool.and_true, Bool.and_true]
set_option maxRecDepth 4000 in
set_option maxHeartbeats 4000000 in
theorem r_SameP (x y : Ps) (A A2 : Option Addr) (c c2 : Nat) (hm : x.l.length ≤ maxLen) (w : World) (h : Whs w w.heap.size A x.l) (h2 : Whs w w.heap.size A2 y.l) :
    Calls Try.prog 29 #[pv x A c, pv y A2 c2] w (Did (.bool (psEq x y)) w) := by
  have HR := hid (fun w h h2 => r_Rows A A2 x.l.length y.l.length c c2 x.l y.l rfl rfl hm w h h2)
  have H := hid h
  have H2 := hid h2
  have Hr := hid (psEq_eq x y)
  clear h h2 hm
  obtain ⟨P, W, hP, hW, K, hb0⟩ := (Mem.nil w).one (pc x A c) 26
  obtain ⟨R, V, hR, hV, K1, hb1⟩ := K.out.one (pc y A2 c2) 26
  clear K hb0 hb1
  obtain ⟨r0, r1⟩ := K1.out.ps (B := P) (p := x) (A := A) (c := c) (by simp)
  obtain ⟨s0, s1⟩ := K1.out.ps (B := R) (p := y) (A := A2) (c := c2) (by simp)
  generalize decide (x.l = y.l) = ww at *
  generalize psEq x y = q at *
  by_cases e1 : x.n = y.n
  · have q1 : ((bs x.n).toList == (bs y.n).toList) = true := by rw [e1]; simp
    rw [decide_eq_true e1] at Hr
    clear e1
    go_enter Try.func29, Try.ntmps29
    go_wp2_with fail
    refine (HR.out _ (H.out.below K1.out.2 (Nat.le_refl _) |>.more K1.out.2.size) (H2.out.below K1.out.2 (Nat.le_refl _) |>.more K1.out.2.size)).mono ?_
    rintro e w1 ⟨rfl, b1⟩
    have K2 := K1.out.next b1
    go_wp2_with fail
    go_ret
    exact Did.mk (by rw [Hr.out]; rfl) K2.2
  · have q1 : ((bs x.n).toList == (bs y.n).toList) = false := by rw [list_of, list_of, bs_data, bs_data, beq_eq_false_iff_ne]; exact e1
    rw [decide_eq_false e1] at Hr
    clear e1
    go_enter Try.func29, Try.ntmps29
    go_wp2_with fail
    go_ret
    exact Did.mk (by rw [Hr.out]; rfl) K1.out.2
abbrev zpv : Value := .agg #[.string ⟨#[]⟩, .slice none 0 0]
set_option maxRecDepth 4000 in
set_option maxHeartbeats 4000000 in
theorem r_Gone0 (p : Ps) (A A2 : Option Addr) (c n2 c2 : Nat) (w : World) :
    Calls Try.prog 30 #[pv p A c, .slice A2 n2 c2, .int .i64 0] w (Did (.agg #[txt p.n, .slice A2 n2 c2]) w) := by
  go_enter Try.func30, Try.ntmps30
  go_wp2_with fail
  go_returns
  exact Did.mk rfl ((below_alloc _ _).alloc (below_alloc _ _).size _)
set_option maxRecDepth 4000 in
set_option maxHeartbeats 4000000 in
theorem r_GoneE (p : Ps) (A A2 : Option Addr) (c n2 c2 : Nat) (e : Int) (he : (e != 0) = true) (w : World) :
    Calls Try.prog 30 #[pv p A c, .slice A2 n2 c2, .int .i64 e] w (Did zpv w) := by
  go_enter Try.func30, Try.ntmps30
  go_wp2_with fail
  go_returns
  exact Did.mk rfl ((below_alloc _ _).alloc (below_alloc _ _).size _)
def fewL (n : Nat) : Bool := decide ((n : Int) ≤ 30)
set_option maxRecDepth 4000 in
theorem p_fewL (A : Option Addr) (n c : Nat) (w : World) : Calls Try.prog 9 #[.slice A n c] w (fun e w' => e = .returned (.bool (fewL n)) ∧ w = w') := by
  have Hr := hid (show decide ((n : Int) ≤ 30) = fewL n from rfl)
  go_enter Try.func9, Try.ntmps9
  go_wp2_with fail
  go_ret
  exact ⟨congrArg (fun b => Ending.returned (.bool b)) Hr.out, rfl⟩
structure PsA where
  r : Ps
  a : Option Addr
  c : Nat
abbrev pvA (x : PsA) : Value := pv x.r x.a x.c
def PsIn (w : World) (x : PsA) : Prop := Pok x.r ∧ Whs w w.heap.size x.a x.r.l ∧ x.r.l.length ≤ x.c ∧ x.c ≤ maxLen
structure WsA where
  l : List Wh
  a : Option Addr
  c : Nat
abbrev wsA (x : WsA) : Value := .slice x.a x.l.length x.c
def WsIn (w : World) (x : WsA) : Prop := Whs w w.heap.size x.a x.l ∧ x.l.length ≤ x.c ∧ x.c ≤ maxLen ∧ ∀ y ∈ x.l, Wok y
section
variable {H : Type} {enc : TypeId × Value → H} {W : World} {base : Nat} {spare : Nat → Bool} {held : Bool} {r : Reach} {b0 : Nat} {v : Value} {d : DataW H} {p : List MemPlace}
set_option maxRecDepth 20000 in
theorem open_personA (hv : Value.okWide Try.prog W r b0 26 v) (h : DataW.Trod enc Try.prog W base spare held 26 v d p) : ∃ x : PsA, v = pvA x ∧ PsIn W x := by
  obtain ⟨v0, v1, y0, y1, n, rfl, _, _, h0, h1⟩ := Joins.open_agg2 Try.underlying26 (by kernel_rfl) (by kernel_rfl) hv h
  obtain ⟨s0, e0, _, k0⟩ := DataW.trod_string Try.underlying9 h0
  obtain ⟨A, c, l, e3, hw, hl, hc, hok⟩ := open_whs Try.underlying24 Try.underlying29 (by kernel_rfl) (by kernel_rfl) Try.underlying27 Try.underlying5 Try.underlying3 Try.underlying3 h1
  simp only [List.cons.injEq, and_true] at e0 e3
  subst e0; subst e3
  refine ⟨⟨⟨s0.data.toList, l⟩, A, c⟩, ?_, ⟨by rw [data_len]; exact k0, hok⟩, hw, hl, hc⟩
  show Value.agg #[.string s0, _] = .agg #[txt s0.data.toList, _]
  unfold txt
  rw [of_bs]
set_option maxRecDepth 20000 in
theorem open_wsA (hv : Value.okWide Try.prog W r b0 24 v) (h : DataW.Trod enc Try.prog W base spare held 24 v d p) : ∃ x : WsA, v = wsA x ∧ WsIn W x := by
  obtain ⟨a, n, c, rfl⟩ := okWide_slice Try.underlying24 hv
  obtain ⟨fuel, hf⟩ := h
  obtain ⟨A, c', l, e, hw, hl, hc, hok⟩ := open_whs Try.underlying24 Try.underlying29 (by kernel_rfl) (by kernel_rfl) Try.underlying27 Try.underlying5 Try.underlying3 Try.underlying3 hf
  have e1 : Value.slice a n c = .slice A l.length c' := by
    have e0 : (Value.slice a n c).cells.toList = [.slice a n c] := rfl
    have := e0.symm.trans e
    injection this
  exact ⟨⟨l, A, c'⟩, e1, hw, hl, hc, hok⟩
end
end Go.Proofs.Ytodhpdaoghbmcaa
