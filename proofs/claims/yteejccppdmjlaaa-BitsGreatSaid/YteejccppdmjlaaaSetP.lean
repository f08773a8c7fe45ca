/- The program's Without; sets that are known whole (layer 5). -/
import Derived.Test.YteejccppdmjlaaaBitP
import Derived.Test.YteejccppdmjlaaaBitG
import Derived.Test.YteejccppdmjlaaaBitN
namespace Go.Proofs.Yteejccppdmjlaaa
open Go.RowKit

def SetIs (l : List Nat) (w : World) (e : Ending) (w' : World) : Prop := ∃ A c, e = .returned (.slice A l.length c) ∧ Us w' w'.heap.size A l ∧ Below w.heap.size w w'
theorem SetRet.is {p : Nat → Bool} {w w' : World} {e : Ending} (h : SetRet p w e w') (l : List Nat) (ho : Bst.Ok l) (hs : Bst.Short l) (hm : ∀ i, Bst.mem l i = p i) : SetIs l w e w' := by
  obtain ⟨A, c, l', h1, h2, h3, h4, h5, h6, h7⟩ := h
  obtain rfl : l' = l := Bst.ext h4 ho h5 hs fun i => by rw [h6, hm]
  exact ⟨A, c, h1, h2, h7⟩

set_option maxRecDepth 20000 in
set_option maxHeartbeats 2000000 in
theorem p_Without (A : Option Addr) (n c : Nat) (s : List Nat) (hn : s.length = n) (hm : n ≤ 10000) (hok : Bst.Ok s) (i : Int) (hi : I64 i) (B : Nat) (w : World) (hB : B ≤ w.heap.size) (h : Us w B A s) :
    Calls Try.prog 14 #[.slice A n c, .int .i64 i] w (SetRet (pWithout s i) w) := by
  subst hn
  have HC := hid (p_Clone A s.length c s rfl (by omega) B w hB h)
  unfold WordsRet at HC
  have HH := hid (fun (A1 : Option Addr) (c1 : Nat) (w1 : World) (hu : Us w1 w1.heap.size A1 s) => p_Has A1 s.length c1 s rfl (by omega) hok i hi _ w1 hu)
  unfold BoolRet at HH
  have HS := hid (fun (A1 : Option Addr) (c1 : Nat) (L : List Nat) (w1 : World) (hl : L.length = s.length) (hc : s.length ≤ c1) (hu : Us w1 w1.heap.size A1 L) => p_short A1 s.length c1 L hl hc (by omega) _ w1 hu)
  unfold ShortRet at HS
  have Hok := hid hok
  clear h
  by_cases hmem : Bst.memI s i = true
  · have h0 : 0 ≤ i := by
      unfold Bst.memI at hmem
      rw [Bool.and_eq_true, decide_eq_true_iff] at hmem
      exact hmem.1
    obtain ⟨k, rfl⟩ : ∃ k : Nat, i = k := ⟨i.toNat, by omega⟩
    have hlt := Bst.mem_lt (s := s) (i := k) (by rw [memI_nat] at hmem; exact hmem)
    rw [hmem] at HH
    have hk : k / 64 < s.length := by omega
    have Hb := hid (fun w => p_bit k (by omega) w)
    unfold WordRet at Hb
    have hxl := hok.getD (k / 64)
    obtain ⟨x, Hx⟩ : ∃ x, Hid (s.getD (k / 64) 0 = x) := ⟨_, hid rfl⟩
    rw [Hx.out] at hxl
    have hsx : s[k / 64]? = some x := by
      rw [List.getElem?_eq_getElem hk, ← Hx.out, List.getD_eq_getElem?_getD, List.getElem?_eq_getElem hk]
      rfl
    have Hand := hid (bits_andNot_nat x (2 ^ (k % 64)) hxl (two_lt k))
    have Hout := hid (fun j => Bst.mem_out (L := s) (i := k) hk j)
    have Hos := hid (hok.set (k / 64) (Bst.andNot x (2 ^ (k % 64))) (Bst.andNot_lt hxl))
    rw [Hx.out] at Hout
    generalize 2 ^ (k % 64) = y at *
    have i1 : (0 : Int) ≤ (k : Int) / 64 := by omega
    have i2 : (k : Int) / 64 < (s.length : Int) := by omega
    have i3 : (0 : Int) ≤ (k : Int) := by omega
    have hoff : ((k : Int) / 64).toNat = k / 64 := by omega
    have hwr : IntKind.i64.wrap ((k : Int) / 64) = (k : Int) / 64 := by rw [IntKind.wrap_i64]; omega
    clear hi hok hxl hmem h0 hlt
    go_enter Try.func14, Try.ntmps14
    go_wp2_with fail
    refine (HC.out).mono ?_
    rintro e w1 ⟨A1, c1, rfl, hown1, hc1, hb1⟩
    have Hu := hid (Rd.of_own hown1)
    obtain ⟨g, rfl⟩ : ∃ g, A1 = some ⟨g, 0, none⟩ := by
      rcases hown1.2 with ⟨_, h0⟩ | ⟨g, cap, _, hv, _⟩
      · omega
      · injection hv with hv; exact ⟨g, hv⟩
    have hget := hown1.cellAt (k / 64) (by omega)
    have hfz := hown1.frozenAt (k / 64)
    rw [List.getElem?_map, hsx] at hget
    change _ = some (Value.int .u64 (x : Int)) at hget
    have Hst := hid (World.ownsRow.stored hown1 (k / 64) (ucell (Bst.andNot x y))).1
    have hbb := hid (hown1.lt g rfl)
    clear hown1
    go_wp2_with fail
    refine (HH.out _ _ _ Hu.out).mono ?_
    rintro e w' ⟨rfl, rfl⟩
    go_wp2_with fail
    go_region_law (first | (go_simp; go_at_call 28; with_reducible refine (Hb.out _).mono ?_; rintro e w' ⟨rfl, rfl⟩))
    all_goals
      have Hc := hid (HS.out (some ⟨g, 0, none⟩) c1 (s.set (k / 64) (Bst.andNot x y)) ((w1.setCell ⟨g, k / 64, none⟩ (.int .u64 ((Bst.andNot x y : Nat) : Int))).drew) (List.length_set ..) hc1 (by
        have h2 : ((w1.setCell ⟨g, k / 64, none⟩ (.int .u64 ((Bst.andNot x y : Nat) : Int))).drew).ownsRow w.heap.size 34 1 (.slice (some ⟨g, 0, none⟩) s.length c1) s.length ((s.set (k / 64) (Bst.andNot x y)).map ucell) := by
          rw [List.map_set]; exact Hst.out
        exact Rd.of_own h2))
      rw [Hand.out]
      have hown2 : ((w1.setCell ⟨g, k / 64, none⟩ (.int .u64 ((Bst.andNot x y : Nat) : Int))).drew).ownsRow w.heap.size 34 1 (.slice (some ⟨g, 0, none⟩) (s.set (k / 64) (Bst.andNot x y)).length c1) (s.set (k / 64) (Bst.andNot x y)).length ((s.set (k / 64) (Bst.andNot x y)).map ucell) := by
        rw [List.length_set, List.map_set]; exact Hst.out
      have hb2 := (hb1.setCell (p := ⟨g, k / 64, none⟩) hbb.out.1 (.int .u64 ((Bst.andNot x y : Nat) : Int))).drew
      have hll : (s.set (k / 64) (Bst.andNot x y)).length = s.length := List.length_set ..
      go_wp2_with fail
      refine (Hc.out).mono ?_
      rintro e w' ⟨m, hm, rfl, rfl, hz, hl⟩
      have Hm := hid (And.intro hz hl)
      clear hz hl
      go_wp2_with fail
      go_ret
      refine SetRet.mk ((s.set (k / 64) (Bst.andNot x y)).take m) (own_short hown2 hm) (by rw [List.length_take]; omega) rfl (Hos.out.take m) (Bst.short_trim hm Hm.out.2) (fun j => ?_) hb2
      rw [Bst.mem_trim Hm.out.1, Hout.out]
      unfold pWithout
      congr 2
      rw [decide_eq_decide]
      omega
  · rw [Bool.not_eq_true] at hmem
    rw [hmem] at HH
    have Hno := hid (show ∀ j, Bst.mem s j = pWithout s i j by
      intro j
      unfold pWithout
      by_cases hj : (j : Int) = i
      · rw [decide_eq_true hj, ← memI_nat, hj, hmem]; rfl
      · rw [decide_eq_false hj, Bool.not_false, Bool.and_true])
    clear hi hok hmem
    go_enter Try.func14, Try.ntmps14
    go_wp2_with fail
    refine (HC.out).mono ?_
    rintro e w1 ⟨A1, c1, rfl, hown1, hc1, hb1⟩
    have Hu := hid (Rd.of_own hown1)
    have Ho := hid hown1
    clear hown1
    go_wp2_with fail
    refine (HH.out _ _ _ Hu.out).mono ?_
    rintro e w' ⟨rfl, rfl⟩
    go_wp2_with fail
    refine (HS.out A1 c1 s w1 rfl hc1 Hu.out).mono ?_
    rintro e w' ⟨k, hk, rfl, rfl, hz, hl⟩
    have Hk := hid (And.intro hz hl)
    clear hz hl
    go_wp2_with fail
    go_ret
    refine SetRet.mk (s.take k) (own_short Ho.out hk) (by rw [List.length_take]; omega) rfl (Hok.out.take k) (Bst.short_trim hk Hk.out.2) (fun j => ?_) hb1
    rw [Bst.mem_trim Hk.out.1, Hno.out]
end Go.Proofs.Yteejccppdmjlaaa
