/- Rows of words, of truths; what hands out a set. The document's own answer for layer 5: Has, Words, Bools, Made. -/
import Derived.Test.YteejccppdmjlaaaDoorRow
import Derived.Test.YteejccppdmjlaaaDoorSetM
namespace Go.Proofs.YteejccppdmjlaaaDoor
open Go.RowKit

def ucell (n : Nat) : Value := .int .u64 (n : Int)
abbrev Us (w : World) (B : Nat) (A : Option Addr) (l : List Nat) : Prop := Rd w B A (l.map ucell)
abbrev Tf (w : World) (B : Nat) (A : Option Addr) (l : List Bool) : Prop := Rd w B A (l.map Value.bool)
theorem Us.get {w : World} {B : Nat} {A : Option Addr} {l : List Nat} (h : Us w B A l) {k : Nat} (hk : k < l.length) : ∃ ad x, A = some ad ∧ ad.block < B ∧ Hid (l.getD k 0 = x) ∧ w.cell? (ad.add k) = some (.int .u64 (x : Int)) := by
  obtain ⟨ad, e, hb, hc⟩ := Rd.at_ h (k := k) (by rw [List.length_map]; exact hk)
  refine ⟨ad, _, e, hb, rfl, ?_⟩
  rw [hc, List.getElem_map, List.getD_eq_getElem?_getD, List.getElem?_eq_getElem hk]
  rfl
theorem Us.get' {w : World} {B : Nat} {A : Option Addr} {l : List Nat} (h : Us w B A l) {k : Nat} (hk : k < l.length) : ∃ ad x, A = some ad ∧ ad.block < B ∧ Hid (l[k]? = some x) ∧ w.cell? (ad.add k) = some (.int .u64 (x : Int)) := by
  obtain ⟨ad, e, hb, hc⟩ := Rd.at_ h (k := k) (by rw [List.length_map]; exact hk)
  exact ⟨ad, l[k], e, hb, List.getElem?_eq_getElem hk, by rw [hc, List.getElem_map]; rfl⟩
theorem bit_tmod (x j : Nat) : (((x : Int) / 2 ^ j).tmod 2 == 1) = decide (x / 2 ^ j % 2 = 1) := by
  have e : (x : Int) / 2 ^ j = ((x / 2 ^ j : Nat) : Int) := by rw [Int.natCast_ediv, Int.natCast_pow]; rfl
  rw [e]
  generalize x / 2 ^ j = y
  rw [Int.tmod_eq_emod_of_nonneg (by omega), Bool.eq_iff_iff, beq_iff_eq, decide_eq_true_iff]
  omega
theorem Tf.get {w : World} {B : Nat} {A : Option Addr} {l : List Bool} (h : Tf w B A l) {k : Nat} (hk : k < l.length) : ∃ ad x, A = some ad ∧ ad.block < B ∧ Hid (l.getD k false = x) ∧ w.cell? (ad.add k) = some (.bool x) := by
  obtain ⟨ad, e, hb, hc⟩ := Rd.at_ h (k := k) (by rw [List.length_map]; exact hk)
  refine ⟨ad, _, e, hb, rfl, ?_⟩
  rw [hc, List.getElem_map, List.getD_eq_getElem?_getD, List.getElem?_eq_getElem hk]
  rfl
theorem Tryd.info_u64 : (Tryd.prog.info? 35).map (fun i => (i.zero, i.size, i.bytes)) = some (some (.int .u64 0), 1, 8) := by kernel_rfl
theorem Tryd.info_bool : (Tryd.prog.info? 4).map (fun i => (i.zero, i.size, i.bytes)) = some (some (.bool false), 1, 1) := by kernel_rfl
theorem Tryd.info_int : (Tryd.prog.info? 3).map (fun i => (i.zero, i.size, i.bytes)) = some (some (.int .i64 0), 1, 8) := by kernel_rfl

theorem open_us {w : World} {a : Option Addr} {len cap : Nat} {zs : List Int} (h : (a = none ∧ len = 0 ∧ cap = 0 ∧ zs = []) ∨ ∃ x, a = some x ∧ len ≤ cap ∧ cap ≤ maxLen ∧ zs.length = cap ∧ (∀ i, i < zs.length → w.cell? (x.add i) = some (.int .u64 (zs.getD i 0))) ∧ ∀ n ∈ zs, (Lit.int .u64 n).wf = true) :
    ∃ l : List Nat, l.length = len ∧ Us w w.heap.size a l ∧ len ≤ cap ∧ cap ≤ maxLen ∧ Bst.Ok l := by
  rcases h with ⟨rfl, rfl, rfl, rfl⟩ | ⟨x, rfl, h1, h2, h3, h4, h5⟩
  · exact ⟨[], rfl, Rd.none_ _ _ _, Nat.le_refl _, Nat.zero_le _, Bst.ok_nil⟩
  · refine ⟨(zs.take len).map Int.toNat, by rw [List.length_map, List.length_take]; omega, fun hne => ?_, h1, h2, fun i hi => ?_⟩
    · have hp : 0 < zs.length := by
        rcases Nat.eq_zero_or_pos zs.length with h0 | h0
        · exact absurd (by rw [List.eq_nil_of_length_eq_zero h0, List.take_nil]; rfl) hne
        · exact h0
      refine ⟨x, rfl, ?_, fun k v hk => ?_⟩
      · have := World.block_lt_of_cell? _ _ (h4 0 hp)
        rwa [add_block] at this
      · rw [List.map_map, List.getElem?_map, List.getElem?_take] at hk
        split at hk
        · cases hz : zs[k]? with
          | none => rw [hz] at hk; cases hk
          | some n =>
            rw [hz] at hk
            injection hk with hk
            subst hk
            obtain ⟨hlt, hn⟩ := List.getElem?_eq_some_iff.1 hz
            have hb := bounds_u64 (h5 n (List.mem_iff_getElem?.2 ⟨k, hz⟩))
            rw [h4 k hlt, List.getD_eq_getElem?_getD, hz]
            show some (Value.int .u64 n) = some (Value.int .u64 (n.toNat : Int))
            rw [Int.toNat_of_nonneg hb.1]
        · cases hk
    · obtain ⟨z, hz, rfl⟩ := List.mem_map.1 hi
      have := bounds_u64 (h5 z (List.mem_of_mem_take hz))
      omega

/-- hands out a short set: the numbers of which p is so -/
def SetRet (p : Nat → Bool) (w : World) (e : Ending) (w' : World) : Prop := ∃ A c l, e = .returned (.slice A l.length c) ∧ Us w' w'.heap.size A l ∧ l.length ≤ c ∧ Bst.Ok l ∧ Bst.Short l ∧ (∀ i, Bst.mem l i = p i) ∧ Below w.heap.size w w'
theorem SetRet.mk {p : Nat → Bool} {w w' : World} {base n : Nat} {e : TypeId} {v : Value} {xs : List Value} (l : List Nat) (h : w'.ownsRow base e 1 v n xs) (hn : n = l.length) (hx : xs = l.map ucell) (ho : Bst.Ok l) (hs : Bst.Short l) (hm : ∀ i, Bst.mem l i = p i) (hb : Below w.heap.size w w') : SetRet p w (.returned v) w' := by
  subst hn; subst hx
  obtain ⟨A, c, rfl, hr, hc⟩ := own_rd h
  exact ⟨A, c, l, rfl, hr, hc, ho, hs, hm, hb⟩

set_option maxHeartbeats 1000000 in
theorem r_Has (A : Option Addr) (n c : Nat) (s : List Nat) (hn : s.length = n) (hm : n ≤ 1000000) (i : Int) (hi : I64 i) (B : Nat) (w : World) (h : Us w B A s) :
    Calls Tryd.prog 21 #[.slice A n c, .int .i64 i] w (BoolRet (Bst.memI s i) w) := by
  subst hn
  unfold I64 at hi
  by_cases h0 : i < 0
  · have Hres := hid (show Bst.memI s i = false by unfold Bst.memI; rw [decide_eq_false (by omega)]; rfl)
    clear h
    go_enter Tryd.func21, Tryd.ntmps21
    go_wp2_with fail
    go_ret
    exact BoolRet.mk (by rw [Hres.out]) _
  obtain ⟨k, rfl⟩ : ∃ k : Nat, i = k := ⟨i.toNat, by omega⟩
  have Hres := hid (show Bst.memI s (k : Int) = (s.getD (k / 64) 0).testBit (k % 64) by unfold Bst.memI; rw [decide_eq_true (by omega), Int.toNat_natCast]; rfl)
  have hg : (0 : Int) ≤ (k : Int) := by omega
  by_cases h1 : s.length ≤ k / 64
  · have h1' : ¬ (k : Int) / 64 < s.length := by omega
    rw [List.getD_eq_getElem?_getD, List.getElem?_eq_none (by omega)] at Hres
    clear h
    go_enter Tryd.func21, Tryd.ntmps21
    go_wp2_with fail
    go_ret
    exact BoolRet.mk (by rw [Hres.out]; exact (Nat.zero_testBit _).symm) _
  · have h1' : (k : Int) / 64 < s.length := by omega
    obtain ⟨ad, x, rfl, _, Hx, hc⟩ := Us.get h (k := k / 64) (by omega)
    rw [Hx.out, Nat.testBit_eq_decide_div_mod_eq] at Hres
    clear h
    go_enter Tryd.func21, Tryd.ntmps21
    go_wp2_with fail
    go_ret
    exact BoolRet.mk (by rw [Hres.out]; exact bit_tmod x (k % 64)) _

set_option maxHeartbeats 1000000 in
theorem r_Words (A A' : Option Addr) (n n' c c' : Nat) (ls ms : List Nat) (hn : ls.length = n) (hn' : ms.length = n') (w : World) (B B' : Nat) (h : Us w B A ls) (h' : Us w B' A' ms) (hm : ls.length ≤ maxLen) :
    Calls Tryd.prog 16 #[.slice A n c, .slice A' n' c'] w (BoolDraw (decide (ls = ms)) w) := by
  unfold maxLen at hm
  subst hn
  by_cases hlen : ls.length = n'
  · have H := hid h
    have H' := hid h'
    clear h h'
    subst hlen
    have Hn := hid hn'
    clear hn'
    go_enter Tryd.func16, Tryd.ntmps16
    go_wp2
    go_loopw [5] (fun i wr => ∃ (k m : Nat), i = .int .i64 k ∧ k ≤ ls.length ∧ wr = w.drewN m ∧ Hid (ls.take k = ms.take k)) (fun i _ => ls.length - (intOf i).toNat)
    case atStart => exact ⟨0, 0, rfl, Nat.zero_le _, rfl, rfl⟩
    case round =>
      obtain ⟨k, m, rfl, hk, rfl, hsame⟩ := hrel
      by_cases hlt : k < ls.length
      · have hlt' : k < ms.length := by rw [Hn.out]; exact hlt
        obtain ⟨ad, x, rfl, _, hx, hc⟩ := Us.get' H.out hlt
        obtain ⟨ad', y, rfl, _, hy, hc'⟩ := Us.get' H'.out hlt'
        have b1 : (0 : Int) ≤ (k : Int) := by omega
        have b2 : (k : Int) < ls.length := by omega
        by_cases hxy : x = y
        · have hxy' : ((x : Int) != (y : Int)) = false := by rw [hxy]; exact bne_self_eq_false _
          have Hxy := hid hxy
          clear hxy
          go_wp2_with fail
          go_quiet (fail)
          go_wp2_with fail
          refine ⟨⟨k + 1, _, by go_num, by omega, rfl, ?_⟩, by simp [intOf]; omega⟩
          show ls.take (k + 1) = ms.take (k + 1)
          rw [List.take_add_one, List.take_add_one, hsame.out, hx.out, hy.out, Hxy.out]
        · have hxy' : ((x : Int) != (y : Int)) = true := by rw [bne_iff_ne]; omega
          have Hxy := hid hxy
          clear hxy
          go_wp2_with fail
          go_quiet (fail)
          go_wp2_with fail
          go_ret
          refine BoolDraw.mk ?_ ⟨_, World.drewN_drewN _ _ _⟩
          symm
          rw [decide_eq_false_iff_not]
          intro e
          apply Hxy.out
          have e1 : ls[k]? = ms[k]? := by rw [e]
          rw [hx.out, hy.out] at e1
          injection e1
      · go_wp2_with fail
        go_ret
        refine BoolDraw.mk ?_ ⟨_, rfl⟩
        symm
        rw [decide_eq_true_iff]
        have e := hsame.out
        rwa [List.take_of_length_le (by omega), List.take_of_length_le (by rw [Hn.out]; omega)] at e
  · subst hn'
    have hne : ((ls.length : Int) != (ms.length : Int)) = true := by rw [bne_iff_ne]; omega
    have hres := hid (show decide (ls = ms) = false by rw [decide_eq_false_iff_not]; intro e; exact hlen (by rw [e]))
    go_enter Tryd.func16, Tryd.ntmps16
    go_wp2
    go_ret
    exact BoolDraw.mk hres.out.symm ⟨0, rfl⟩

/-! ### rows of truths -/
def tfl (n : Nat) (p : Nat → Bool) : List Bool := (List.range n).map p
theorem tfl_len (n : Nat) (p : Nat → Bool) : (tfl n p).length = n := by unfold tfl; rw [List.length_map, List.length_range]
theorem tfl_get (n : Nat) (p : Nat → Bool) (i : Nat) (h : i < n) : (tfl n p)[i]? = some (p i) := by
  unfold tfl
  rw [List.getElem?_map, List.getElem?_range h]
  rfl
theorem tfl_congr (n : Nat) (p q : Nat → Bool) (h : ∀ i, i < n → p i = q i) : tfl n p = tfl n q := by
  unfold tfl
  exact List.map_congr_left fun i hi => h i (List.mem_range.1 hi)
theorem tfl_set (n : Nat) (p : Nat → Bool) (k : Nat) (b : Bool) : (tfl n p).set k b = tfl n (fun i => if i = k then b else p i) := by
  apply List.ext_getElem?
  intro i
  rw [List.getElem?_set]
  by_cases h : i < n
  · rw [tfl_get _ _ _ h, tfl_get _ _ _ h, tfl_len]
    by_cases hk : k = i
    · subst hk; rw [if_pos rfl, if_pos h, if_pos rfl]
    · rw [if_neg hk, if_neg (fun e => hk (Eq.symm e))]
  · have e : ∀ q, (tfl n q)[i]? = none := fun q => List.getElem?_eq_none (by rw [tfl_len]; omega)
    rw [e, e, tfl_len]
    by_cases hk : k = i
    · subst hk; rw [if_pos rfl, if_neg h]
    · rw [if_neg hk]
theorem tfl_false (n : Nat) : tfl n (fun _ => false) = List.replicate n false := by
  unfold tfl
  rw [List.map_const', List.length_range]
theorem made_bool (n : Nat) : (madeCells (Value.bool false).cells (n * 1)).toList = List.replicate n (.bool false) := by
  rw [Nat.mul_one]; exact toList_madeCells_one _ _
/-- hands out a new row of truths -/
def TfRet (n : Nat) (p : Nat → Bool) (w : World) (e : Ending) (w' : World) : Prop := ∃ g, e = .returned (.slice (some ⟨g, 0, none⟩) n n) ∧ w.heap.size ≤ g ∧ w'.ownsRow w.heap.size 4 1 (.slice (some ⟨g, 0, none⟩) n n) n ((tfl n p).map Value.bool) ∧ Below w.heap.size w w'

theorem r_end (A : Option Addr) (n c : Nat) (hm : n ≤ 1000000) (w : World) : Calls Tryd.prog 20 #[.slice A n c] w fun e w' => e = .returned (.int .i64 (64 * (n : Int))) ∧ w = w' := by
  go_enter Tryd.func20, Tryd.ntmps20
  go_wp2_with fail
  go_ret
  exact ⟨rfl, rfl⟩

set_option maxHeartbeats 1000000 in
theorem r_Bools (A : Option Addr) (n c : Nat) (s : List Nat) (hn : s.length = n) (hm : n ≤ 10000) (m : Nat) (hm2 : m ≤ 1000000) (B : Nat) (w : World) (hB : B ≤ w.heap.size) (h : Us w B A s) :
    Calls Tryd.prog 25 #[.slice A n c, .int .i64 (m : Int)] w (TfRet (max (64 * n) m) (Bst.mem s) w) := by
  obtain ⟨N, hN⟩ : ∃ N, max (64 * n) m = N := ⟨_, rfl⟩
  have hmax : max (64 * (n : Int)) (m : Int) = (N : Int) := by omega
  have hN1 : N ≤ 1000000 := by omega
  rw [hN]
  have He := hid (fun w => r_end A n c (by omega) w)
  have Hh := hid (fun (i : Int) (hi : I64 i) (w' : World) (hb : Below w.heap.size w w') => r_Has A n c s hn (by omega) i hi B w' (h.below hb hB))
  unfold BoolRet at Hh
  obtain ⟨i0, hi, hz0, hz1, hz2⟩ := info_parts Tryd.info_bool
  have hb2 : i0.bytes * N ≤ 281474976710656 := by rw [hz2]; omega
  have hb3 : N ≤ maxLen := by unfold maxLen; omega
  clear h
  by_cases hle : (m : Int) ≤ 64 * (n : Int)
  all_goals
    go_enter Tryd.func25, Tryd.ntmps25
    go_wp2_with fail
    refine (He.out _).mono ?_
    rintro e w' ⟨rfl, rfl⟩
    go_wp2_with (at_make; refine wpList_make_full _ rfl _ _ 41 rfl w.heap.size 4 i0 (.bool false) 1 Tryd.underlying41 hi hz0 hz1 .i64 .i64 _ _ N rfl rfl (by omega) (by omega) hb2 hb3 (Nat.le_refl _) ?_; intro w1 hown hgrow)
    have hb : Below w.heap.size w w1 := (Below.refl _ _).grown hgrow (Nat.le_refl _) (fun k hk => by cases hk)
    have hown0 : w1.ownsRow w.heap.size 4 1 (.slice (some ⟨w.heap.size, 0, none⟩) N N) N ((tfl N (fun j => decide (j < 0) && Bst.mem s j)).map Value.bool) := by
      rw [show (fun j => decide (j < 0) && Bst.mem s j) = fun _ => false from rfl, tfl_false, List.map_replicate]
      rw [made_bool] at hown
      exact hown
    clear hown hgrow hb2 hb3 He hmax hN hle
    go_loopw [6] (fun i wr => ∃ k : Nat, i = .int .i64 k ∧ k ≤ N ∧ wr.ownsRow w.heap.size 4 1 (.slice (some ⟨w.heap.size, 0, none⟩) N N) N ((tfl N (fun j => decide (j < k) && Bst.mem s j)).map Value.bool) ∧ Below w.heap.size w wr) (fun i _ => N - (intOf i).toNat)
    case atStart => exact ⟨0, rfl, Nat.zero_le _, hown0, hb⟩
    case round =>
      clear hb hown0
      obtain ⟨k, rfl, hk, hown, hb⟩ := hrel
      by_cases hlt : k < N
      · have hget := hown.cellAt k (by omega)
        have hfz := hown.frozenAt k
        obtain ⟨u, hu⟩ : ∃ u, ((tfl N (fun j => decide (j < k) && Bst.mem s j)).map Value.bool)[k]? = some u := ⟨_, List.getElem?_eq_getElem (by rw [List.length_map, tfl_len]; omega)⟩
        rw [hu] at hget
        clear hu
        have Hown := hid hown
        have Hres := hid (show Bst.memI s (k : Int) = Bst.mem s k by unfold Bst.memI; rw [decide_eq_true (by omega), Int.toNat_natCast]; rfl)
        have Hc := hid (Hh.out (k : Int) (by unfold I64; omega) wr hb)
        rw [Hres.out] at Hc
        clear hown
        go_wp2_with fail
        refine (Hc.out).mono ?_
        rintro e w' ⟨rfl, rfl⟩
        go_wp2_with fail
        refine ⟨⟨k + 1, by go_num, by omega, ?_, hb.setCell (Nat.le_refl _) _⟩, by simp [intOf]; omega⟩
        have hst := World.ownsRow.stored Hown.out k (Value.bool (Bst.mem s k))
        rw [← List.map_set, tfl_set] at hst
        have e : tfl N (fun i => if i = k then Bst.mem s k else decide (i < k) && Bst.mem s i) = tfl N (fun j => decide (j < k + 1) && Bst.mem s j) := by
          apply tfl_congr
          intro j _
          by_cases hj : j = k
          · subst hj; rw [if_pos rfl, decide_eq_true (by omega)]; rfl
          · rw [if_neg hj]; congr 1; rw [decide_eq_decide]; omega
        rw [e] at hst
        exact hst.1
      · obtain rfl : k = N := by omega
        have e : tfl k (fun j => decide (j < k) && Bst.mem s j) = tfl k (Bst.mem s) := by
          apply tfl_congr
          intro j hj
          rw [decide_eq_true hj]; rfl
        rw [e] at hown
        go_wp2_with fail
        go_ret
        exact ⟨_, rfl, Nat.le_refl _, hown, hb⟩
end Go.Proofs.YteejccppdmjlaaaDoor
