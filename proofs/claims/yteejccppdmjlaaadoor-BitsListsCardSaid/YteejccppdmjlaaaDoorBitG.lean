/- The program's merge, And, Or, Less (layer 5). -/
import Derived.Test.YteejccppdmjlaaaDoorBitA
namespace Go.Proofs.YteejccppdmjlaaaDoor
open Go.RowKit

/-- row k of the first, so many words long, has come -/
def wd (n : Nat) (f : Nat → Nat) (k : Nat) : List Nat := (List.range n).map fun j => if j < k then f j else 0
theorem wd_len (n : Nat) (f : Nat → Nat) (k : Nat) : (wd n f k).length = n := by unfold wd; rw [List.length_map, List.length_range]
theorem wd_get (n : Nat) (f : Nat → Nat) (k j : Nat) (h : j < n) : (wd n f k)[j]? = some (if j < k then f j else 0) := by
  unfold wd
  rw [List.getElem?_map, List.getElem?_range h]
  rfl
theorem wd_zero (n : Nat) (f : Nat → Nat) : wd n f 0 = List.replicate n 0 := by
  unfold wd
  rw [show (fun j => if j < 0 then f j else 0) = fun _ => 0 from by funext j; rw [if_neg (by omega)], List.map_const', List.length_range]
theorem wd_set (n : Nat) (f : Nat → Nat) (k : Nat) (hk : k < n) : (wd n f k).set k (f k) = wd n f (k + 1) := by
  apply List.ext_getElem?
  intro j
  rw [List.getElem?_set]
  by_cases hj : j < n
  · rw [wd_get _ _ _ _ hj, wd_get _ _ _ _ hj, wd_len]
    by_cases e : k = j
    · subst e; rw [if_pos rfl, if_pos hk, if_pos (by omega)]
    · rw [if_neg e]
      congr 1
      by_cases h1 : j < k
      · rw [if_pos h1, if_pos (by omega)]
      · rw [if_neg h1, if_neg (by omega)]
  · have e : ∀ k, (wd n f k)[j]? = none := fun k => List.getElem?_eq_none (by rw [wd_len]; omega)
    rw [e, e, wd_len]
    by_cases e : k = j
    · subst e; omega
    · rw [if_neg e]
theorem wd_getD (n : Nat) (f : Nat → Nat) (j : Nat) : (wd n f n).getD j 0 = if j < n then f j else 0 := by
  rw [List.getD_eq_getElem?_getD]
  by_cases h : j < n
  · rw [wd_get _ _ _ _ h, if_pos h]; rfl
  · rw [List.getElem?_eq_none (by rw [wd_len]; omega), if_neg h]; rfl
theorem made_u64 (n : Nat) : (madeCells (Value.int .u64 0).cells (n * 1)).toList = List.replicate n (.int .u64 0) := made_one .u64 0 n


theorem ok_wd {n : Nat} {f : Nat → Nat} (h : ∀ j, f j < 18446744073709551616) : Bst.Ok (wd n f n) := fun y hy => by
  obtain ⟨j, hj, rfl⟩ := List.mem_iff_getElem.1 hy
  have := wd_getD n f j
  rw [List.getD_eq_getElem?_getD, List.getElem?_eq_getElem hj] at this
  rw [wd_len] at hj
  rw [if_pos hj] at this
  have e : (wd n f n)[j]'(by rw [wd_len]; exact hj) = f j := this
  rw [e]
  exact h j

theorem p_Or1 (x y : Nat) (hx : x < 18446744073709551616) (hy : y < 18446744073709551616) (w : World) : Calls Tryd.prog 31 #[.int .u64 (x : Int), .int .u64 (y : Int)] w (WordRet (x ||| y) w) := by
  have He := hid (bits_or_u64_nat x y hx hy)
  clear hx hy
  go_enter Tryd.func31, Tryd.ntmps31
  go_wp2_with fail
  go_ret
  exact ⟨by first | rfl | (rw [He.out]; rfl), rfl⟩

set_option maxRecDepth 20000 in
set_option maxHeartbeats 2000000 in
theorem p_mergeOr (A : Option Addr) (n c : Nat) (A' : Option Addr) (n' c' : Nat) (s t : List Nat) (hn : s.length = n) (hn' : t.length = n') (hm : n ≤ 10000) (hm' : n' ≤ 10000) (hok : Bst.Ok s) (hok' : Bst.Ok t) (B : Nat) (w : World) (hB : B ≤ w.heap.size) (h : Us w B A s) (h' : Us w B A' t) :
    Calls Tryd.prog 30 #[.slice A n c, .slice A' n' c', .func (.func 31) #[] #[]] w (SetRet (fun i => Bst.mem s i || Bst.mem t i) w) := by
  obtain ⟨N, hN⟩ : ∃ N, max n n' = N := ⟨_, rfl⟩
  have hmax : max (n : Int) (n' : Int) = (N : Int) := by omega
  have hN1 : N ≤ 10000 := by omega
  have Ha := hid (fun (k : Nat) (hk : k ≤ 1000000) (w' : World) (hb : Below w.heap.size w w') => p_word A n c s hn (by omega) k (by omega) B w' (h.below hb hB))
  have Hb := hid (fun (k : Nat) (hk : k ≤ 1000000) (w' : World) (hb : Below w.heap.size w w') => p_word A' n' c' t hn' (by omega) k (by omega) B w' (h'.below hb hB))
  have Hf := hid (fun (k : Nat) (w' : World) => p_Or1 (s.getD k 0) (t.getD k 0) (hok.getD k) (hok'.getD k) w')
  unfold WordRet at Hf
  have Hlt := hid (fun j => show (s.getD j 0 ||| t.getD j 0) < 18446744073709551616 from (Bst.or_lt (hok.getD j) (hok'.getD j)))
  have Hzero := hid (fun j (hj : N ≤ j) => And.intro (Bst.getD_ge (L := s) (j := j) (by omega)) (Bst.getD_ge (L := t) (j := j) (by omega)))
  obtain ⟨i0, hi, hz0, hz1, hz2⟩ := info_parts Tryd.info_u64
  have hb2 : i0.bytes * N ≤ 281474976710656 := by rw [hz2]; omega
  have hb3 : N ≤ maxLen := by unfold maxLen; omega
  clear h h' hok hok'
  by_cases hle : (n' : Int) ≤ (n : Int)
  all_goals
    go_enter Tryd.func30, Tryd.ntmps30
    go_wp2_with (at_make; refine wpList_make_full _ rfl _ _ 22 rfl w.heap.size 35 i0 (.int .u64 0) 1 Tryd.underlying22 hi hz0 hz1 .i64 .i64 _ _ N rfl rfl (by omega) (by omega) hb2 hb3 (Nat.le_refl _) ?_; intro w1 hown hgrow)
    have hb : Below w.heap.size w w1 := (Below.refl _ _).grown hgrow (Nat.le_refl _) (fun k hk => by cases hk)
    have hown0 : w1.ownsRow w.heap.size 35 1 (.slice (some ⟨w.heap.size, 0, none⟩) N N) N ((wd N (fun j => (s.getD j 0 ||| t.getD j 0)) 0).map ucell) := by
      rw [wd_zero, List.map_replicate]
      rw [made_u64] at hown
      exact hown
    clear hown hgrow hb2 hb3 hmax hN hle hm hm' hn hn'
    go_loopw [17] (fun iv wr => ∃ k : Nat, iv = .int .i64 k ∧ k ≤ N ∧ wr.ownsRow w.heap.size 35 1 (.slice (some ⟨w.heap.size, 0, none⟩) N N) N ((wd N (fun j => (s.getD j 0 ||| t.getD j 0)) k).map ucell) ∧ Below w.heap.size w wr) (fun iv _ => N - (intOf iv).toNat)
    case atStart => exact ⟨0, rfl, Nat.zero_le _, hown0, hb⟩
    case round =>
      clear hown0 hb
      obtain ⟨k, rfl, hk, hown, hb⟩ := hrel
      by_cases hlt : k < N
      · have hget := hown.cellAt k (by omega)
        have hfz := hown.frozenAt k
        obtain ⟨u, hu⟩ : ∃ u, ((wd N (fun j => (s.getD j 0 ||| t.getD j 0)) k).map ucell)[k]? = some u := ⟨_, List.getElem?_eq_getElem (by rw [List.length_map, wd_len]; omega)⟩
        rw [hu] at hget
        clear hu
        have Hst := hid (fun u => (World.ownsRow.stored (w := wr) hown k (ucell u)).1)
        clear hown
        have Hca := hid (Ha.out k (by omega) wr hb)
        have Hcb := hid (Hb.out k (by omega) wr hb)
        have Hcf := hid (Hf.out k wr)
        have Hnext := hid (wd_set N (fun j => (s.getD j 0 ||| t.getD j 0)) k hlt)
        have i1 : (0 : Int) ≤ (k : Int) := by omega
        have i2 : (k : Int) < (N : Int) := by omega
        obtain ⟨z, Hz⟩ : ∃ z, Hid ((s.getD k 0 ||| t.getD k 0) = z) := ⟨_, hid rfl⟩
        rw [Hz.out] at Hcf
        generalize s.getD k 0 = x at *
        generalize t.getD k 0 = y at *
        go_wp2_with fail
        refine (Hca.out).mono ?_
        rintro e w' ⟨rfl, rfl⟩
        go_wp2_with fail
        refine (Hcb.out).mono ?_
        rintro e w' ⟨rfl, rfl⟩
        go_wp2_with fail
        refine (Hcf.out).mono ?_
        rintro e w' ⟨rfl, rfl⟩
        go_wp2_with fail
        refine ⟨⟨k + 1, by go_num, by omega, ?_, hb.setCell (p := ⟨w.heap.size, k, none⟩) (Nat.le_refl _) _⟩, by simp [intOf]; omega⟩
        rw [← Hnext.out, Hz.out, List.map_set]
        exact Hst.out _
      · obtain rfl : k = N := by omega
        have hr := hid (show Us wr wr.heap.size (some ⟨w.heap.size, 0, none⟩) (wd k (fun j => (s.getD j 0 ||| t.getD j 0)) k) from Rd.of_own hown)
        have Hs := hid (p_short (some ⟨w.heap.size, 0, none⟩) k k (wd k (fun j => (s.getD j 0 ||| t.getD j 0)) k) (wd_len _ _ _) (Nat.le_refl _) (by omega) _ wr hr.out)
        have hget := wd_getD k (fun j => (s.getD j 0 ||| t.getD j 0))
        have hlen := wd_len k (fun j => (s.getD j 0 ||| t.getD j 0)) k
        have hokL := hid (ok_wd (n := k) Hlt.out)
        have hmem := hid (fun i => Bst.mem_words (L := wd k (fun j => (s.getD j 0 ||| t.getD j 0)) k) (a := s) (b := t) (f := fun x y => (x ||| y)) (g := fun a b => a || b) (fun j => by
          rw [hget]
          by_cases hj : j < k
          · rw [if_pos hj]
          · have := Hzero.out j (by omega)
            rw [if_neg hj, this.1, this.2]; rfl) (fun x y i => Nat.testBit_or x y i) i)
        clear hget hown
        generalize wd k (fun j => (s.getD j 0 ||| t.getD j 0)) k = L at *
        unfold ShortRet at Hs
        go_wp2_with fail
        refine (Hs.out).mono ?_
        rintro e w' ⟨m, hm, rfl, rfl, hz, hl⟩
        go_wp2_with fail
        go_ret
        have hml : (L.take m).length = m := by rw [List.length_take]; omega
        exact ⟨some ⟨w.heap.size, 0, none⟩, k, L.take m, by rw [hml]; rfl, Us.pre hr.out m, by omega, hokL.out.take m, Bst.short_trim hm hl, fun i => by rw [Bst.mem_trim hz, hmem.out], hb⟩

theorem p_Or (A : Option Addr) (n c : Nat) (A' : Option Addr) (n' c' : Nat) (s t : List Nat) (hn : s.length = n) (hn' : t.length = n') (hm : n ≤ 10000) (hm' : n' ≤ 10000) (hok : Bst.Ok s) (hok' : Bst.Ok t) (B : Nat) (w : World) (hB : B ≤ w.heap.size) (h : Us w B A s) (h' : Us w B A' t) :
    Calls Tryd.prog 17 #[.slice A n c, .slice A' n' c'] w (SetRet (fun i => Bst.mem s i || Bst.mem t i) w) := by
  have H := hid (p_mergeOr A n c A' n' c' s t hn hn' hm hm' hok hok' B w hB h h')
  generalize (fun i => Bst.mem s i || Bst.mem t i) = q at *
  clear h h' hok hok'
  go_enter Tryd.func17, Tryd.ntmps17
  go_wp2_with fail
  refine (H.out).mono ?_
  rintro e w' ⟨A1, c1, l, rfl, hr⟩
  go_wp2_with fail
  go_ret
  exact ⟨A1, c1, l, rfl, hr⟩

theorem p_Less1 (x y : Nat) (hx : x < 18446744073709551616) (hy : y < 18446744073709551616) (w : World) : Calls Tryd.prog 32 #[.int .u64 (x : Int), .int .u64 (y : Int)] w (WordRet (Bst.andNot x y) w) := by
  have He := hid (bits_andNot_nat x y hx hy)
  clear hx hy
  go_enter Tryd.func32, Tryd.ntmps32
  go_wp2_with fail
  go_ret
  exact ⟨by first | rfl | (rw [He.out]; rfl), rfl⟩

set_option maxRecDepth 20000 in
set_option maxHeartbeats 2000000 in
theorem p_mergeLess (A : Option Addr) (n c : Nat) (A' : Option Addr) (n' c' : Nat) (s t : List Nat) (hn : s.length = n) (hn' : t.length = n') (hm : n ≤ 10000) (hm' : n' ≤ 10000) (hok : Bst.Ok s) (hok' : Bst.Ok t) (B : Nat) (w : World) (hB : B ≤ w.heap.size) (h : Us w B A s) (h' : Us w B A' t) :
    Calls Tryd.prog 30 #[.slice A n c, .slice A' n' c', .func (.func 32) #[] #[]] w (SetRet (fun i => Bst.mem s i && !Bst.mem t i) w) := by
  obtain ⟨N, hN⟩ : ∃ N, max n n' = N := ⟨_, rfl⟩
  have hmax : max (n : Int) (n' : Int) = (N : Int) := by omega
  have hN1 : N ≤ 10000 := by omega
  have Ha := hid (fun (k : Nat) (hk : k ≤ 1000000) (w' : World) (hb : Below w.heap.size w w') => p_word A n c s hn (by omega) k (by omega) B w' (h.below hb hB))
  have Hb := hid (fun (k : Nat) (hk : k ≤ 1000000) (w' : World) (hb : Below w.heap.size w w') => p_word A' n' c' t hn' (by omega) k (by omega) B w' (h'.below hb hB))
  have Hf := hid (fun (k : Nat) (w' : World) => p_Less1 (s.getD k 0) (t.getD k 0) (hok.getD k) (hok'.getD k) w')
  unfold WordRet at Hf
  have Hlt := hid (fun j => show (Bst.andNot (s.getD j 0) (t.getD j 0)) < 18446744073709551616 from (Bst.andNot_lt (hok.getD j)))
  have Hzero := hid (fun j (hj : N ≤ j) => And.intro (Bst.getD_ge (L := s) (j := j) (by omega)) (Bst.getD_ge (L := t) (j := j) (by omega)))
  obtain ⟨i0, hi, hz0, hz1, hz2⟩ := info_parts Tryd.info_u64
  have hb2 : i0.bytes * N ≤ 281474976710656 := by rw [hz2]; omega
  have hb3 : N ≤ maxLen := by unfold maxLen; omega
  clear h h' hok hok'
  by_cases hle : (n' : Int) ≤ (n : Int)
  all_goals
    go_enter Tryd.func30, Tryd.ntmps30
    go_wp2_with (at_make; refine wpList_make_full _ rfl _ _ 22 rfl w.heap.size 35 i0 (.int .u64 0) 1 Tryd.underlying22 hi hz0 hz1 .i64 .i64 _ _ N rfl rfl (by omega) (by omega) hb2 hb3 (Nat.le_refl _) ?_; intro w1 hown hgrow)
    have hb : Below w.heap.size w w1 := (Below.refl _ _).grown hgrow (Nat.le_refl _) (fun k hk => by cases hk)
    have hown0 : w1.ownsRow w.heap.size 35 1 (.slice (some ⟨w.heap.size, 0, none⟩) N N) N ((wd N (fun j => (Bst.andNot (s.getD j 0) (t.getD j 0))) 0).map ucell) := by
      rw [wd_zero, List.map_replicate]
      rw [made_u64] at hown
      exact hown
    clear hown hgrow hb2 hb3 hmax hN hle hm hm' hn hn'
    go_loopw [17] (fun iv wr => ∃ k : Nat, iv = .int .i64 k ∧ k ≤ N ∧ wr.ownsRow w.heap.size 35 1 (.slice (some ⟨w.heap.size, 0, none⟩) N N) N ((wd N (fun j => (Bst.andNot (s.getD j 0) (t.getD j 0))) k).map ucell) ∧ Below w.heap.size w wr) (fun iv _ => N - (intOf iv).toNat)
    case atStart => exact ⟨0, rfl, Nat.zero_le _, hown0, hb⟩
    case round =>
      clear hown0 hb
      obtain ⟨k, rfl, hk, hown, hb⟩ := hrel
      by_cases hlt : k < N
      · have hget := hown.cellAt k (by omega)
        have hfz := hown.frozenAt k
        obtain ⟨u, hu⟩ : ∃ u, ((wd N (fun j => (Bst.andNot (s.getD j 0) (t.getD j 0))) k).map ucell)[k]? = some u := ⟨_, List.getElem?_eq_getElem (by rw [List.length_map, wd_len]; omega)⟩
        rw [hu] at hget
        clear hu
        have Hst := hid (fun u => (World.ownsRow.stored (w := wr) hown k (ucell u)).1)
        clear hown
        have Hca := hid (Ha.out k (by omega) wr hb)
        have Hcb := hid (Hb.out k (by omega) wr hb)
        have Hcf := hid (Hf.out k wr)
        have Hnext := hid (wd_set N (fun j => (Bst.andNot (s.getD j 0) (t.getD j 0))) k hlt)
        have i1 : (0 : Int) ≤ (k : Int) := by omega
        have i2 : (k : Int) < (N : Int) := by omega
        obtain ⟨z, Hz⟩ : ∃ z, Hid ((Bst.andNot (s.getD k 0) (t.getD k 0)) = z) := ⟨_, hid rfl⟩
        rw [Hz.out] at Hcf
        generalize s.getD k 0 = x at *
        generalize t.getD k 0 = y at *
        go_wp2_with fail
        refine (Hca.out).mono ?_
        rintro e w' ⟨rfl, rfl⟩
        go_wp2_with fail
        refine (Hcb.out).mono ?_
        rintro e w' ⟨rfl, rfl⟩
        go_wp2_with fail
        refine (Hcf.out).mono ?_
        rintro e w' ⟨rfl, rfl⟩
        go_wp2_with fail
        refine ⟨⟨k + 1, by go_num, by omega, ?_, hb.setCell (p := ⟨w.heap.size, k, none⟩) (Nat.le_refl _) _⟩, by simp [intOf]; omega⟩
        rw [← Hnext.out, Hz.out, List.map_set]
        exact Hst.out _
      · obtain rfl : k = N := by omega
        have hr := hid (show Us wr wr.heap.size (some ⟨w.heap.size, 0, none⟩) (wd k (fun j => (Bst.andNot (s.getD j 0) (t.getD j 0))) k) from Rd.of_own hown)
        have Hs := hid (p_short (some ⟨w.heap.size, 0, none⟩) k k (wd k (fun j => (Bst.andNot (s.getD j 0) (t.getD j 0))) k) (wd_len _ _ _) (Nat.le_refl _) (by omega) _ wr hr.out)
        have hget := wd_getD k (fun j => (Bst.andNot (s.getD j 0) (t.getD j 0)))
        have hlen := wd_len k (fun j => (Bst.andNot (s.getD j 0) (t.getD j 0))) k
        have hokL := hid (ok_wd (n := k) Hlt.out)
        have hmem := hid (fun i => Bst.mem_words (L := wd k (fun j => (Bst.andNot (s.getD j 0) (t.getD j 0))) k) (a := s) (b := t) (f := fun x y => (Bst.andNot x y)) (g := fun a b => a && !b) (fun j => by
          rw [hget]
          by_cases hj : j < k
          · rw [if_pos hj]
          · have := Hzero.out j (by omega)
            rw [if_neg hj, this.1, this.2]; rfl) Bst.testBit_andNot i)
        clear hget hown
        generalize wd k (fun j => (Bst.andNot (s.getD j 0) (t.getD j 0))) k = L at *
        unfold ShortRet at Hs
        go_wp2_with fail
        refine (Hs.out).mono ?_
        rintro e w' ⟨m, hm, rfl, rfl, hz, hl⟩
        go_wp2_with fail
        go_ret
        have hml : (L.take m).length = m := by rw [List.length_take]; omega
        exact ⟨some ⟨w.heap.size, 0, none⟩, k, L.take m, by rw [hml]; rfl, Us.pre hr.out m, by omega, hokL.out.take m, Bst.short_trim hm hl, fun i => by rw [Bst.mem_trim hz, hmem.out], hb⟩

theorem p_Less (A : Option Addr) (n c : Nat) (A' : Option Addr) (n' c' : Nat) (s t : List Nat) (hn : s.length = n) (hn' : t.length = n') (hm : n ≤ 10000) (hm' : n' ≤ 10000) (hok : Bst.Ok s) (hok' : Bst.Ok t) (B : Nat) (w : World) (hB : B ≤ w.heap.size) (h : Us w B A s) (h' : Us w B A' t) :
    Calls Tryd.prog 18 #[.slice A n c, .slice A' n' c'] w (SetRet (fun i => Bst.mem s i && !Bst.mem t i) w) := by
  have H := hid (p_mergeLess A n c A' n' c' s t hn hn' hm hm' hok hok' B w hB h h')
  generalize (fun i => Bst.mem s i && !Bst.mem t i) = q at *
  clear h h' hok hok'
  go_enter Tryd.func18, Tryd.ntmps18
  go_wp2_with fail
  refine (H.out).mono ?_
  rintro e w' ⟨A1, c1, l, rfl, hr⟩
  go_wp2_with fail
  go_ret
  exact ⟨A1, c1, l, rfl, hr⟩
end Go.Proofs.YteejccppdmjlaaaDoor
