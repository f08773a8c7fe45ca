/- The program's put, Of, With, Without (layer 5). -/
import Derived.Test.YteejccppdmjlaaaDoorBitA
import Derived.Test.YteejccppdmjlaaaDoorBitZ
namespace Go.Proofs.YteejccppdmjlaaaDoor
open Go.RowKit

def putA (L : List Nat) (k : Nat) : List Nat := (L ++ List.replicate (k / 64 + 1 - L.length) 0).set (k / 64) ((L ++ List.replicate (k / 64 + 1 - L.length) 0).getD (k / 64) 0 ||| 2 ^ (k % 64))
def putL (L : List Nat) (i : Int) : List Nat := if 0 ≤ i ∧ i < 4096 then putA L i.toNat else L
theorem putA_len (L : List Nat) (k : Nat) : (putA L k).length = max L.length (k / 64 + 1) := by
  unfold putA
  rw [List.length_set, List.length_append, List.length_replicate]
  omega
theorem putL_len (L : List Nat) (i : Int) (m : Nat) (hm : 64 ≤ m) (h : L.length ≤ m) : (putL L i).length ≤ m := by
  unfold putL
  split
  · rw [putA_len]; omega
  · exact h
theorem putL_ok (L : List Nat) (i : Int) (h : Bst.Ok L) : Bst.Ok (putL L i) := by
  unfold putL
  split
  · exact (h.zeros _).set _ _ (Bst.or_lt ((h.zeros _).getD _) (two_lt _))
  · exact h
theorem putL_mem (L : List Nat) (i : Int) (j : Nat) : Bst.mem (putL L i) j = pWith L i j := by
  unfold putL pWith
  by_cases hi : 0 ≤ i ∧ i < 4096
  · rw [if_pos hi, decide_eq_true hi, Bool.true_and]
    unfold putA
    rw [Bst.mem_put (by rw [List.length_append, List.length_replicate]; omega), Bst.mem_zeros]
    congr 1
    rw [decide_eq_decide]
    omega
  · rw [if_neg hi, decide_eq_false hi, Bool.false_and, Bool.or_false]
theorem short_getD {s : List Nat} (h : s = [] ∨ s.getD (s.length - 1) 0 ≠ 0) : Bst.Short s := by
  have := Bst.short_trim (L := s) (k := s.length) (Nat.le_refl _) (h.imp (fun e => by rw [e]; rfl) id)
  rwa [List.take_length] at this
theorem or_two_ne (x j : Nat) : x ||| 2 ^ j ≠ 0 := by
  intro h
  have h2 : (x ||| 2 ^ j).testBit j = true := by rw [Nat.testBit_or, Nat.testBit_two_pow, decide_eq_true rfl, Bool.or_true]
  rw [h, Nat.zero_testBit] at h2
  cases h2
theorem set_getD (L : List Nat) (k y j : Nat) (hk : k < L.length) : (L.set k y).getD j 0 = if j = k then y else L.getD j 0 := by
  rw [List.getD_eq_getElem?_getD, List.getElem?_set]
  by_cases h : k = j
  · subst h; rw [if_pos rfl, if_pos rfl, if_pos hk]; rfl
  · rw [if_neg h, if_neg (fun e => h e.symm), List.getD_eq_getElem?_getD]
theorem putL_short (L : List Nat) (i : Int) (h : Bst.Short L) : Bst.Short (putL L i) := by
  unfold putL
  split
  · refine short_getD (.inr ?_)
    rw [putA_len]
    unfold putA
    have hl : i.toNat / 64 < (L ++ List.replicate (i.toNat / 64 + 1 - L.length) 0).length := by rw [List.length_append, List.length_replicate]; omega
    rw [set_getD _ _ _ _ hl]
    by_cases hk : max L.length (i.toNat / 64 + 1) - 1 = i.toNat / 64
    · rw [if_pos hk]; exact or_two_ne _ _
    · rw [if_neg hk]
      have hlt : i.toNat / 64 + 1 < L.length := by omega
      rw [show i.toNat / 64 + 1 - L.length = 0 by omega, List.replicate_zero, List.append_nil, show max L.length (i.toNat / 64 + 1) - 1 = L.length - 1 by omega]
      exact h.last (by intro e; rw [e] at hlt; simp at hlt)
  · exact h

def PutRet (base : Nat) (l : List Nat) (w : World) (e : Ending) (w' : World) : Prop := ∃ A c, e = .returned (.slice A l.length c) ∧ w'.ownsRow base 35 1 (.slice A l.length c) l.length (l.map ucell) ∧ Below base w w'
theorem PutRet.fin {base g c n : Nat} {L : List Nat} {k v : Nat} {w w1 : World} (hst : w1.ownsRow base 35 1 (.slice (some ⟨g, 0, none⟩) n c) n ((L.map ucell).set k (ucell v))) (hn : L.length = n) (hb : Below base w w1) : PutRet base (L.set k v) w (.returned (.slice (some ⟨g, 0, none⟩) n c)) w1 := by
  subst hn
  rw [← List.map_set] at hst
  exact ⟨_, c, by rw [List.length_set], by rw [List.length_set]; exact hst, hb⟩
theorem bits_or_nat (x y : Nat) (hx : x < 18446744073709551616) (hy : y < 18446744073709551616) : bits .or .u64 (x : Int) (y : Int) = ((x ||| y : Nat) : Int) := bits_or_u64_nat x y hx hy

set_option maxRecDepth 20000 in
set_option maxHeartbeats 2000000 in
theorem p_put (base : Nat) (A : Option Addr) (n c : Nat) (L : List Nat) (hn : L.length = n) (hm : n ≤ 100000) (hok : Bst.Ok L) (i : Int) (hi : I64 i) (w : World) (hbase : base ≤ w.heap.size) (hown : w.ownsRow base 35 1 (.slice A n c) n (L.map ucell)) :
    Calls Tryd.prog 29 #[.slice A n c, .int .i64 i] w (PutRet base (putL L i) w) := by
  subst hn
  unfold I64 at hi
  by_cases h0 : i < 0
  · have Hres := hid (show putL L i = L by unfold putL; rw [if_neg (by omega)])
    rw [Hres.out]
    go_enter Tryd.func29, Tryd.ntmps29
    go_wp2_with fail
    go_ret
    exact ⟨A, c, rfl, hown, Below.refl _ _⟩
  by_cases h1 : 4096 ≤ i
  · have Hres := hid (show putL L i = L by unfold putL; rw [if_neg (by omega)])
    rw [Hres.out]
    go_enter Tryd.func29, Tryd.ntmps29
    go_wp2_with fail
    go_ret
    exact ⟨A, c, rfl, hown, Below.refl _ _⟩
  obtain ⟨k, rfl⟩ : ∃ k : Nat, i = k := ⟨i.toNat, by omega⟩
  have hk : k < 4096 := by omega
  have Hres := hid (show putL L (k : Int) = putA L k by unfold putL; rw [if_pos (by omega), Int.toNat_natCast])
  rw [Hres.out]
  have Hb := hid (fun w => p_bit k (by omega) w)
  unfold WordRet at Hb
  have htw := two_lt k
  by_cases hlt : k / 64 < L.length
  · have Hp := hid (show putA L k = L.set (k / 64) (L.getD (k / 64) 0 ||| 2 ^ (k % 64)) by unfold putA; rw [show k / 64 + 1 - L.length = 0 by omega, List.replicate_zero, List.append_nil])
    rw [Hp.out]
    obtain ⟨g, rfl⟩ : ∃ g, A = some ⟨g, 0, none⟩ := by
      rcases hown.2 with ⟨_, h0⟩ | ⟨g, cap, _, hv, _⟩
      · omega
      · injection hv with hv; exact ⟨g, hv⟩
    have hget := hown.cellAt (k / 64) (by omega)
    have hfz := hown.frozenAt (k / 64)
    have Hx := hid (show L.getD (k / 64) 0 = L[k / 64]'hlt by rw [List.getD_eq_getElem?_getD, List.getElem?_eq_getElem hlt]; rfl)
    rw [List.getElem?_map, List.getElem?_eq_getElem hlt] at hget
    have hxl := hok.getD (k / 64)
    rw [Hx.out] at hxl
    rw [Hx.out]
    generalize L[k / 64]'hlt = x at *
    change _ = some (Value.int .u64 (x : Int)) at hget
    have Hor := hid (bits_or_nat x (2 ^ (k % 64)) hxl htw)
    have Hst := hid (fun u => (World.ownsRow.stored hown (k / 64) (ucell u)).1)
    have hbb := hid (hown.lt g rfl)
    generalize 2 ^ (k % 64) = y at *
    have i1 : (0 : Int) ≤ (k : Int) / 64 := by omega
    have i2 : (k : Int) / 64 < (L.length : Int) := by omega
    have hoff : ((k : Int) / 64).toNat = k / 64 := by omega
    have i3 : (0 : Int) ≤ (k : Int) := by omega
    have i4 : (k : Int) < 4096 := by omega
    clear hi hxl htw hok hk h0 h1
    go_enter Tryd.func29, Tryd.ntmps29
    go_wp2_with fail
    go_region_law (first | (go_simp; go_at_call 33; with_reducible refine (Hb.out _).mono ?_; rintro e w' ⟨rfl, rfl⟩))
    all_goals
      go_wp2_with fail
      go_ret
      rw [Hor.out]
      exact PutRet.fin (Hst.out (x ||| y)) rfl (((Below.refl _ _).setCell (p := ⟨g, k / 64, none⟩) hbb.out.1 _).drew)
  · obtain ⟨z, hz⟩ : ∃ z, k / 64 + 1 - L.length = z := ⟨_, rfl⟩
    have hze : (k : Int) / 64 + 1 - (L.length : Int) = (z : Int) := by omega
    have hzl : (L ++ List.replicate z 0).length = L.length + z := by rw [List.length_append, List.length_replicate]
    have Hp := hid (show putA L k = (L ++ List.replicate z 0).set (k / 64) ((L ++ List.replicate z 0).getD (k / 64) 0 ||| 2 ^ (k % 64)) by unfold putA; rw [hz])
    rw [Hp.out]
    have hL1 := hok.zeros z
    have hmap : L.map ucell ++ List.replicate z (.int .u64 0) = (L ++ List.replicate z 0).map ucell := by rw [List.map_append, List.map_replicate]; rfl
    generalize L ++ List.replicate z 0 = L1 at *
    obtain ⟨i0, hi0, hz0, hz1, hz2⟩ := info_parts Tryd.info_u64
    have q0 : 0 < z := by omega
    have q1 : L.length + z ≤ maxLen := by unfold maxLen; omega
    have q2 : (L.length + z) * 8 ≤ 140737488355328 := by omega
    have i3 : (0 : Int) ≤ (k : Int) := by omega
    have i4 : (k : Int) < 4096 := by omega
    have i5 : (L.length : Int) ≤ (k : Int) / 64 := by omega
    have hlt1 : k / 64 < L1.length := by omega
    have Hok := hid hL1
    have Htw := hid htw
    have Hk := hid hk
    clear hi htw hok hk h0 h1 hL1
    go_enter Tryd.func29, Tryd.ntmps29
    go_wp2_with (at_builtin; refine wpList_append_own_zeros rfl _ _ 22 3 rfl base 35 i0 (.int .u64 0) .i64 .i64 8 Tryd.underlying22 Tryd.underlying3 hi0 hz0 hz1 hz2 rfl _ _ _ rfl hown rfl z rfl q0 q1 q2 hbase ?_; intro g c1 w1 hown1 hgr1)
    have hb1 : Below base w w1 := (Below.refl _ _).grown hgr1 hbase (fun k hk => (hown.lt k hk).1)
    rw [hmap] at hown1
    have htw := Htw.out
    have hget := hown1.cellAt (k / 64) (by omega)
    have hfz := hown1.frozenAt (k / 64)
    have Hx := hid (show L1.getD (k / 64) 0 = L1[k / 64]'hlt1 by rw [List.getD_eq_getElem?_getD, List.getElem?_eq_getElem hlt1]; rfl)
    rw [List.getElem?_map, List.getElem?_eq_getElem hlt1] at hget
    have hxl := Hok.out.getD (k / 64)
    rw [Hx.out] at hxl
    rw [Hx.out]
    generalize L1[k / 64]'hlt1 = x at *
    change _ = some (Value.int .u64 (x : Int)) at hget
    have Hor := hid (bits_or_nat x (2 ^ (k % 64)) hxl htw)
    have Hst := hid (fun u => (World.ownsRow.stored hown1 (k / 64) (ucell u)).1)
    have hbb := hid (hown1.lt g rfl)
    generalize 2 ^ (k % 64) = y at *
    have i1 : (0 : Int) ≤ (k : Int) / 64 := by omega
    have i2 : (k : Int) / 64 < ((L.length : Int) + (z : Int)) := by omega
    have hoff : ((k : Int) / 64).toNat = k / 64 := by omega
    clear hxl htw
    go_region_law (first | (go_simp; go_at_call 33; with_reducible refine (Hb.out _).mono ?_; rintro e w' ⟨rfl, rfl⟩))
    all_goals
      go_wp2_with fail
      go_ret
      rw [Hor.out]
      have H2 := Hst.out (x ||| y)
      rw [← Hx.out] at H2 ⊢
      exact PutRet.fin H2 hzl ((hb1.setCell (p := ⟨g, k / 64, none⟩) hbb.out.1 _).drew)

theorem pOf_next (l : List Int) (k : Nat) (x : Int) (hx : l[k]? = some x) (j : Nat) : pOf (l.take (k + 1)) j = (pOf (l.take k) j || (decide (0 ≤ x ∧ x < 4096) && decide ((j : Int) = x))) := by
  unfold pOf
  rw [Bool.eq_iff_iff, Bool.or_eq_true, Bool.and_eq_true, Bool.and_eq_true, Bool.and_eq_true]
  simp only [decide_eq_true_iff]
  rw [List.take_add_one, hx, List.mem_append]
  simp only [Option.toList_some, List.mem_singleton]
  constructor
  · rintro ⟨h1, h2 | h2⟩
    · exact .inl ⟨h1, h2⟩
    · exact .inr ⟨by omega, h2⟩
  · rintro (⟨h1, h2⟩ | ⟨h1, h2⟩)
    · exact ⟨h1, .inl h2⟩
    · exact ⟨by omega, .inr h2⟩

set_option maxRecDepth 20000 in
set_option maxHeartbeats 2000000 in
theorem p_Of (A : Option Addr) (n c : Nat) (l : List Int) (hn : l.length = n) (hm : n ≤ 1000000) (hl : ∀ i ∈ l, I64 i) (B : Nat) (w : World) (hB : B ≤ w.heap.size) (h : Its w B A l) :
    Calls Tryd.prog 15 #[.slice A n c] w (SetRet (pOf l) w) := by
  subst hn
  have H := hid h
  have Hl := hid hl
  have hown0 : w.ownsRow w.heap.size 35 1 (.slice none 0 0) 0 [] := World.ownsRow_nil _ _ _ _
  clear h hl
  go_enter Tryd.func15, Tryd.ntmps15
  go_wp2_with fail
  go_loopw [3, 8] (fun sv iv wr => ∃ (k : Nat) (s : List Nat) (A1 : Option Addr) (c1 : Nat), iv = .int .i64 k ∧ k ≤ l.length ∧ sv = .slice A1 s.length c1 ∧ wr.ownsRow w.heap.size 35 1 (.slice A1 s.length c1) s.length (s.map ucell) ∧ Hid (s.length ≤ 64) ∧ Hid (Bst.Ok s) ∧ Hid (Bst.Short s) ∧ Hid (∀ j, Bst.mem s j = pOf (l.take k) j) ∧ Below w.heap.size w wr) (fun _ iv _ => l.length - (intOf iv).toNat)
  case atStart => exact ⟨0, [], none, 0, rfl, Nat.zero_le _, rfl, hown0, hid (by simp), hid Bst.ok_nil, hid Bst.short_nil, hid (fun j => by rw [Bst.mem_nil]; unfold pOf; simp), Below.refl _ _⟩
  case round =>
    clear hown0
    obtain ⟨k, s, A1, c1, rfl, hk, rfl, hown, h64, hok, hsh, hmem, hb⟩ := hrel
    by_cases hlt : k < l.length
    · obtain ⟨ad, x, rfl, hadb, Hx, hcx⟩ := Its.get (H.out.below hb hB) hlt
      have hxi := Hl.out x (List.mem_of_getElem? Hx.out)
      have Hc := hid (p_put w.heap.size A1 s.length c1 s rfl (by have := h64.out; omega) hok.out x hxi wr hb.size hown)
      unfold PutRet at Hc
      have i1 : (0 : Int) ≤ (k : Int) := by omega
      have i2 : (k : Int) < (l.length : Int) := by omega
      have Hm := hid (fun j => (putL_mem s x j).trans (show pWith s x j = pOf (l.take (k + 1)) j by unfold pWith; rw [hmem.out, pOf_next l k x Hx.out]))
      have Hk2 := hid (And.intro (putL_len s x 64 (Nat.le_refl _) h64.out) (And.intro (putL_ok s x hok.out) (putL_short s x hsh.out)))
      generalize putL s x = s2 at *
      clear hxi hmem hown
      go_wp2_with fail
      refine (Hc.out).mono ?_
      rintro e w2 ⟨A2, c2, rfl, hown2, hb2⟩
      go_wp2_with fail
      refine ⟨⟨k + 1, s2, A2, c2, by go_num, by omega, rfl, hown2, hid Hk2.out.1, hid Hk2.out.2.1, hid Hk2.out.2.2, hid Hm.out, hb.trans hb2⟩, by simp [intOf]; omega⟩
    · obtain rfl : k = l.length := by omega
      rw [List.take_length] at hmem
      go_wp2_with fail
      go_ret
      exact SetRet.mk s hown rfl rfl hok.out hsh.out hmem.out hb

theorem own_take {w : World} {base : Nat} {e : TypeId} {A : Option Addr} {n c : Nat} {xs : List Value} (h : w.ownsRow base e 1 (.slice A n c) n xs) (k : Nat) (hk : k ≤ n) : w.ownsRow base e 1 (.slice A k c) k (xs.take k) := by
  rcases h with ⟨hl, ⟨hv, rfl⟩ | ⟨g, cap, cur, hv, hbg, hg, hncap, hcm, hcs, htake⟩⟩
  · obtain rfl : k = 0 := by omega
    injection hv with e1 e2 e3
    subst e1; subst e3
    exact ⟨by rw [List.take_zero]; rfl, .inl ⟨rfl, rfl⟩⟩
  · injection hv with e1 e2 e3
    subst e1; subst e3
    refine ⟨by rw [List.length_take]; omega, .inr ⟨g, c, cur, rfl, hbg, hg, by omega, hcm, hcs, ?_⟩⟩
    rw [← htake, List.take_take]
    congr 1
    omega
/-- what is left of a row of its own without its last words that are 0 -/
theorem own_short {w : World} {base : Nat} {A : Option Addr} {c k : Nat} {L : List Nat} (h : w.ownsRow base 35 1 (.slice A L.length c) L.length (L.map ucell)) (hk : k ≤ L.length) : w.ownsRow base 35 1 (.slice A k c) k ((L.take k).map ucell) := by
  rw [List.map_take]
  exact own_take h k hk

end Go.Proofs.YteejccppdmjlaaaDoor
