/- Contracts of layer 10 (clock): the lowest bit of a word, Weeks. -/
import Derived.Test.YtfnjnkmdifigdaaDoorClkF
namespace Go.Proofs.YtfnjnkmdifigdaaDoor
open Go.RowKit

namespace Clk
theorem ctz_bits {n y : Nat} (h0 : y ≠ 0) (h : y < 2 ^ n) : y.testBit (Lib.ctz n y) = true ∧ (∀ j, j < Lib.ctz n y → y.testBit j = false) ∧ Lib.ctz n y < n := by
  have e : Lib.ctz n y = Lib.ctzFrom n y := by unfold Lib.ctz; rw [if_neg h0]
  obtain ⟨m, hy, hc⟩ := Lib.ctzFrom_spec n y (by omega) h
  rw [e]
  generalize Lib.ctzFrom n y = c at *
  have h1 : ∀ j, y.testBit j = if j < c then false else (2 * m + 1).testBit (j - c) := fun j => by
    have := Nat.testBit_two_pow_mul_add (i := c) (2 * m + 1) (b := 0) (Nat.two_pow_pos c) j
    rw [Nat.add_zero] at this
    rw [hy, this, Nat.zero_testBit]
  refine ⟨?_, fun j hj => ?_, hc⟩
  · rw [h1, if_neg (by omega), Nat.sub_self, Nat.testBit_zero]
    simp
  · rw [h1, if_pos hj]
/-- the first run, as the two lowest bits tell it -/
theorem first_run {v : Nat} (h0 : v ≠ 0) (hv : v < 2 ^ 20) : ∃ f t, Lib.ctz 32 v = f ∧ Lib.ctz 32 (4294967295 - v / 2 ^ f) = t ∧ f + t ≤ 20 ∧ 0 < t ∧ v / 2 ^ f < 2 ^ 20 ∧ ∀ v' : Nat, (∀ j, v'.testBit j = (v.testBit j && !(2 ^ (f + t) - 2 ^ f).testBit j)) → wr v = (f + 1, f + t) :: wr v' := by
  obtain ⟨b1, b2, b3⟩ := ctz_bits (n := 32) h0 (by omega)
  generalize hf : Lib.ctz 32 v = f at *
  have hx : v / 2 ^ f < 2 ^ 20 := Nat.lt_of_le_of_lt (Nat.div_le_self _ _) hv
  have hxb : ∀ j, (v / 2 ^ f).testBit j = v.testBit (f + j) := fun j => by rw [Nat.testBit_div_two_pow, Nat.add_comm]
  obtain ⟨c1, c2, c3⟩ := ctz_bits (n := 32) (y := 4294967295 - v / 2 ^ f) (by omega) (Nat.lt_of_le_of_lt (Nat.sub_le _ _) (by decide))
  have hub : ∀ j, (4294967295 - v / 2 ^ f).testBit j = (decide (j < 32) && !v.testBit (f + j)) := fun j => by
    have := Nat.testBit_two_pow_sub_succ (x := v / 2 ^ f) (n := 32) (by omega) j
    rw [hxb, show 2 ^ 32 - (v / 2 ^ f + 1) = 4294967295 - v / 2 ^ f by omega] at this
    exact this
  generalize ht : Lib.ctz 32 (4294967295 - v / 2 ^ f) = t at *
  rw [hub, Bool.and_eq_true, Bool.not_eq_true'] at c1
  have hon : ∀ j, f ≤ j → j < f + t → v.testBit j = true := fun j j1 j2 => by
    have := c2 (j - f) (by omega)
    rw [hub, decide_eq_true (by omega), Bool.true_and, Bool.not_eq_false', show f + (j - f) = j by omega] at this
    exact this
  have hpos : 0 < t := by
    rcases Nat.eq_zero_or_pos t with h | h
    · subst h
      rw [Nat.add_zero, b1] at c1
      cases c1.2
    · exact h
  have hle : f + t ≤ 20 := by
    apply Classical.byContradiction
    intro hn
    have := hon (max f 20) (by omega) (by omega)
    rw [Nat.testBit_lt_two_pow (Nat.lt_of_lt_of_le hv (Nat.pow_le_pow_right (by decide) (by omega)))] at this
    cases this
  refine ⟨f, t, rfl, ht, hle, hpos, hx, fun v' hv' => ?_⟩
  exact wr_step hv (by omega) b2 hon c1.2 fun j => by rw [hv', span_bit _ _ _ (by omega)]
end Clk

theorem tz_key (x a : Nat) (hx : x < 4294967296) (hx0 : x ≠ 0) (hlow : x &&& (4294967296 - x) = a) :
    bits BinOp.and IntKind.u32 (x : Int) (-(x : Int) % 4294967296) * 125613361 % 4294967296 / 134217728 = ((a * 125613361 % 4294967296 / 134217728 : Nat) : Int) := by
  have e1 : -(x : Int) % 4294967296 = ((4294967296 - x : Nat) : Int) := by omega
  rw [e1, o_and32 x _ hx (by omega), hlow]
  omega
set_option maxHeartbeats 1000000 in
theorem tz_core (y k idx : Nat) (w : World) (hx0 : ((y : Int) == 0) = false)
    (key : bits BinOp.and IntKind.u32 (y : Int) (-(y : Int) % 4294967296) * 125613361 % 4294967296 / 134217728 = (idx : Int))
    (hi : idx < 32) (hk : k < 32) (hcell : w.cell? ⟨0, idx, none⟩ = some (.int .u8 (k : Nat))) :
    Calls Tryd.prog 40 #[.int .u32 (y : Int)] w fun e w' => e = .returned (.int .i64 (k : Nat)) ∧ w = w' := by
  have hw := hid (show wrap64 (k : Int) = (k : Int) by unfold wrap64; omega)
  have i1 : (0 : Int) ≤ (idx : Int) := by omega
  have i2 : (idx : Int) < 32 := by omega
  clear hk hi
  go_enter Tryd.func40, Tryd.ntmps40
  go_wp2_with fail
  go_ret
  exact ⟨by show Ending.returned (.int .i64 (wrap64 (k : Int))) = _; rw [hw.out], rfl⟩
theorem p_tz (y : Nat) (hy : y < 4294967296) (h0 : y ≠ 0) (w : World) (hE : Env w) :
    Calls Tryd.prog 40 #[.int .u32 (y : Int)] w fun e w' => e = .returned (.int .i64 (Lib.ctz 32 y : Nat)) ∧ w = w' := by
  obtain ⟨hlow, hk⟩ := Lib.lowest_bit 32 y h0 hy
  obtain ⟨hi, htab⟩ := Lib.deBruijn32_at _ hk
  have hcell := hE.2 _ hi
  rw [htab] at hcell
  exact tz_core y _ _ w (by simp; omega) (tz_key y _ hy h0 hlow) hi hk hcell
/-- strings.Join over a row of the call's own -/
theorem p_join {w : World} {base : Nat} {e : TypeId} {v : Value} {ls : List (List UInt8)} (hown : w.ownsRow base e 1 v ls.length (ls.map txt)) (sep : UInt8) (hn : ls.length ≤ 1000000) (hlen : ([sep].intercalate ls).length ≤ 1000000) :
    Calls Tryd.prog 26 #[v, .string ⟨#[sep]⟩] w (Did (txt ([sep].intercalate ls)) w) := by
  rcases hown.2 with ⟨rfl, h0⟩ | ⟨g, cap, cur, rfl, _, hg, hc, _⟩
  · have hl := List.eq_nil_of_length_eq_zero h0
    subst hl
    refine (Tryd.strings_Join_none none 0 ⟨#[sep]⟩ w).mono ?_
    rintro e w' ⟨rfl, rfl⟩
    exact Did.mk (by simp [List.intercalate, txt, bs]) (Below.refl _ _)
  · have hlen' : (Lib.join ((ls.map bs).map (·.data.toList)) [sep]) = [sep].intercalate ls := by
      unfold Lib.join
      congr 1
      rw [List.map_map]
      exact (List.map_congr_left (fun a _ => rfl)).trans (List.map_id ls)
    have hcs := hown.cells (g := g) rfl
    have := Tryd.strings_Join g 0 cap (ls.map bs) ⟨#[sep]⟩ w (fun j x hx => by
      have := hcs j (.string x) (by rw [List.getElem?_map] at hx ⊢; cases hz : ls[j]? with
        | none => rw [hz] at hx; cases hx
        | some l => rw [hz] at hx; injection hx with hx; subst hx; rfl)
      have ea : (⟨g, 0, none⟩ : Addr).add j = ⟨g, 0 + j, none⟩ := by
        unfold Addr.add
        split
        · rename_i h0; subst h0; rfl
        · rfl
      rw [ea] at this
      exact this) (hown.lt g rfl).2 (by rw [List.length_map]; omega) (by rw [List.length_map]; exact hc) (by
        show (Lib.join ((ls.map bs).map (·.data.toList)) [sep]).length ≤ _
        rw [hlen']; omega)
    rw [List.length_map] at this
    refine this.mono ?_
    rintro e w' ⟨rfl, hb⟩
    refine Did.mk ?_ hb
    show Value.string ⟨(Lib.join ((ls.map bs).map (·.data.toList)) [sep]).toArray⟩ = _
    rw [hlen']
    rfl
set_option maxRecDepth 10000 in
set_option maxHeartbeats 1000000 in
theorem p_Weeks (v0 : Nat) (hv0 : v0 < 4294967296) (w : World) (hE : Env w) : Calls Tryd.prog 18 #[.int .u32 (v0 : Int)] w (Did (txt (Clk.wk v0)) w) := by
  have hm : bits .and .u32 (v0 : Int) 1048575 = ((v0 % 2 ^ 20 : Nat) : Int) := by
    rw [show (1048575 : Int) = ((1048575 : Nat) : Int) from rfl, o_and32 v0 1048575 hv0 (by decide), show (1048575 : Nat) = 2 ^ 20 - 1 from rfl, Nat.and_two_pow_sub_one_eq_mod]
  have hlt : v0 % 2 ^ 20 < 2 ^ 20 := Nat.mod_lt _ (by decide)
  have Hk := hid (show Clk.wk v0 = Clk.wt (Clk.wr (v0 % 2 ^ 20)) from rfl)
  generalize v0 % 2 ^ 20 = v at *
  have HE := hid hE
  obtain ⟨i0, hi, hz0, hz1, hz2⟩ := info_parts Tryd.info_str
  clear hE
  go_enter Tryd.func18, Tryd.ntmps18
  go_wp2_with fail
  go_loopw [0, 3] (fun xv rv wr => ∃ (x : Nat) (dn : List (Nat × Nat)), x < 2 ^ 20 ∧ xv = .int .u32 (x : Int) ∧ Hid (Clk.wr v = dn ++ Clk.wr x) ∧ wr.ownsRow w.heap.size 9 1 rv dn.length ((dn.map Clk.rt).map txt) ∧ Below w.heap.size w wr) (fun xv _ _ => (intOf xv).toNat)
  case atStart => exact ⟨v, [], hlt, by rfl, rfl, World.ownsRow_nil _ _ _ _, Below.refl _ _⟩
  case round =>
    obtain ⟨x, dn, hx, rfl, Hdn, hown, hb⟩ := hrel
    have hbs := hb.size
    have hcnt := Clk.wr_count v
    have hdn : dn.length ≤ 11 := by rw [Hdn.out, List.length_append] at hcnt; omega
    have HE1 := hid (HE.out.next hb)
    by_cases h0 : x = 0
    · subst h0
      have Hd := hid (show dn = Clk.wr v by rw [Hdn.out, Clk.wr_zero, List.append_nil])
      have hlen : ([44].intercalate (dn.map Clk.rt)).length ≤ 1000000 := by
        have := Clk.wt_len dn
        unfold Clk.wt at this
        omega
      have HJ := hid (p_join (ls := dn.map Clk.rt) (by rw [List.length_map]; exact hown) 44 (by rw [List.length_map]; omega) hlen)
      clear hown
      go_wp2_with fail
      refine (HJ.out).mono ?_
      rintro e w1 ⟨rfl, b1⟩
      go_wp2_with fail
      go_ret
      exact Did.mk (by rw [Hk.out, ← Hd.out]; rfl) (hb.trans (b1.mono hbs))
    · obtain ⟨f, t, hf, ht, hft, hpos, hxf, hstep⟩ := Clk.first_run h0 hx
      have HT1 := hid (fun w (hE : Env w) => p_tz x (by omega) h0 w hE)
      rw [hf] at HT1
      have HT2 := hid (fun w (hE : Env w) => p_tz (4294967295 - x / 2 ^ f) (Nat.lt_of_le_of_lt (Nat.sub_le _ _) (by decide)) (by omega) w hE)
      rw [ht] at HT2
      obtain ⟨c, hc⟩ : ∃ c : Nat, 4294967295 - x / 2 ^ f = c := ⟨_, rfl⟩
      rw [hc] at HT2
      have hxor : bits .xor .u32 IntKind.u32.max ((x : Int) / 2 ^ f) = (c : Int) := by
        rw [show ((x : Int) / 2 ^ f) = ((x / 2 ^ f : Nat) : Int) by rw [Int.natCast_ediv, Int.natCast_pow]; rfl, o_xor32 _ (by omega), hc]
      clear hc
      have hne : ((x : Int) != 0) = true := by rw [bne_iff_ne]; omega
      have HPR := hid (show ∀ w, Calls Tryd.prog 41 #[.int .i64 ((f : Int) + 1), .int .i64 ((f : Int) + (t : Int))] w (Did (txt (Clk.rt (f + 1, f + t))) w) from fun w => by
        have := p_printRun (f + 1) (f + t) (by omega) (by omega) w
        rw [Int.natCast_add, Int.natCast_add] at this
        exact this)
      have HSP := hid (show ∀ w, Calls Tryd.prog 38 #[.int .i64 (f : Int), .int .i64 ((f : Int) + (t : Int))] w (Did (.int .u32 ((2 ^ (f + t) - 2 ^ f : Nat) : Int)) w) from fun w => by
        have := p_span f (f + t) (by omega) hft w
        rw [Int.natCast_add] at this
        exact this)
      have hsp : 2 ^ (f + t) - 2 ^ f < 4294967296 := Nat.lt_of_le_of_lt (Nat.sub_le _ _) (Nat.lt_of_le_of_lt (Nat.pow_le_pow_right (by decide) hft) (by decide))
      obtain ⟨z, hz, hzx, hzb⟩ := o_andn32 x (2 ^ (f + t) - 2 ^ f) (by omega) hsp
      have Hst := hid (hstep z hzb)
      have hne2 : z ≠ x := fun e => by
        have := hstep x (fun j => by rw [← hzb, e])
        have := congrArg List.length this
        simp at this
      generalize 2 ^ (f + t) - 2 ^ f = sp at *
      have hn3 : dn.length + 1 ≤ maxLen := by unfold maxLen; omega
      have hn4 : (dn.length + 1) * 16 ≤ 140737488355328 := by omega
      have Hx := hid hx
      clear h0 hf ht hstep hx hxf hlt hzb hsp
      go_wp2_with fail
      refine (HT1.out _ HE1.out).mono ?_
      rintro e w1 ⟨rfl, rfl⟩
      go_wp2_with fail
      refine (HT2.out _ HE1.out).mono ?_
      rintro e w1 ⟨rfl, rfl⟩
      go_wp2_with fail
      refine (HPR.out _).mono ?_
      rintro e w1 ⟨rfl, b1⟩
      have hown1 := own_below hown b1
      have hb1 := hb.trans (b1.mono hbs)
      have hbs1 := hb1.size
      clear hown
      go_wp2_with (at_builtin; refine wpList_append_own _ rfl (.tmp 19) (.tmp 24) 55 rfl w.heap.size 9 i0 (.string ⟨#[]⟩) 1 16 Tryd.underlying55 hi hz0 hz1 hz2 rfl (by decide) _ _ _ rfl (hown1.alloc _) ⟨w1.heap.size, 0, none⟩ 1 1 [txt (Clk.rt (f + 1, f + t))] rfl rfl (lit_one _ _ _) (string_one _) hn3 hn4 (le_alloc (w := w1) hbs1 _) ?_; intro v1 w2 hown2 hgrow _)
      have hb2 : Below w.heap.size w w2 := (hb1.alloc hbs1 _).grown hgrow (le_alloc (w := w1) hbs1 _) (fun g hg => (hown1.lt g hg).1)
      refine (HSP.out _).mono ?_
      rintro e w3 ⟨rfl, b3⟩
      have hb3 := hb2.trans (b3.mono hb2.size)
      have hown3 := own_below hown2 b3
      clear hown2
      go_wp2_with fail
      refine ⟨⟨z, dn ++ [(f + 1, f + t)], by have := Hx.out; omega, by go_num, ?_, ?_, hb3⟩, by simp [intOf]; omega⟩
      · show _ = _
        rw [Hdn.out, Hst.out, List.append_assoc]
        rfl
      · rw [List.length_append, List.map_append, List.map_append]
        exact hown3
end Go.Proofs.YtfnjnkmdifigdaaDoor
