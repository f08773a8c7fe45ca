/- strings.IndexRune of what is no byte below 128, in the days' letters: none. -/
import Derived.Test.YtfnjnkmdifigdaaDoorClkD
import Derived.Laws.Runes
import Derived.Lib.IndexAny
namespace Go.Proofs.YtfnjnkmdifigdaaDoor
open Go.RowKit

theorem ib_none (l : List UInt8) (c : UInt8) (h : c ∉ l) : Lib.indexByte l c = -1 := by
  have h1 := Lib.indexByte_ge l c
  have h2 := Lib.contains_iff_indexByte l c
  have h3 : l.contains c = false := by rw [Bool.eq_false_iff]; intro h4; exact h (List.contains_iff_mem.1 h4)
  rw [h3] at h2
  have := of_decide_eq_false h2.symm
  omega
theorem ixb (s : ByteArray) (c : UInt8) (hs : ∀ b ∈ s.data.toList, b.toNat < 128) (hc : 128 ≤ c.toNat) (w : World) : Calls Tryd.prog 62 #[.string s, .int .u8 (c.toNat : Int)] w fun e w' => e = .returned (.int .i64 (-1)) ∧ w' = w := by
  refine (Tryd.strings_IndexByte s (c.toNat : Int) w).mono ?_
  rintro e w' ⟨rfl, rfl⟩
  refine ⟨?_, rfl⟩
  rw [ib_none]
  intro hm
  have := hs _ hm
  have e : ((c.toNat : Int)).toNat.toUInt8 = c := by rw [Int.toNat_natCast]; exact UInt8.ofNat_toNat
  rw [e] at this
  omega
theorem low_byte {s : ByteArray} (hb : ∀ b ∈ s.data.toList, b.toNat < 128) (k : Nat) (hk : k < s.size) : s[k].toNat < 128 := hb _ (by rw [← data_get s k hk]; exact List.getElem_mem _)
set_option maxRecDepth 1000000 in
set_option maxHeartbeats 1000000 in
theorem p_ixr2 (s : ByteArray) (s1 : 4 ≤ s.size) (s2 : s.size ≤ 100) (hb : ∀ b ∈ s.data.toList, b.toNat < 128) (r : Int) (h0 : 128 ≤ r) (h1 : Lib.validRune r = true) (h2 : (r == 65533) = false) (en : ByteArray)
    (hcv : ∀ w, (convert 21 9 (.int .i32 r)).run Tryd.prog w = .ok (.string en) w) (hz : en.size = 2) (hL : 128 ≤ (en[1]'(by omega)).toNat) (w : World) : Calls Tryd.prog 42 #[.string s, .int .i32 r] w (Did (.int .i64 (-1)) w) := by
  have HV := hid (fun w => Tryd.utf8_ValidRune r w)
  rw [h1] at HV
  have q1 : (((s[1]'(by omega)).toNat : Int) != ((en[1]'(by omega)).toNat : Int)) = true := by
    have := low_byte hb 1 (by omega)
    rw [bne_iff_ne]; omega
  have HI := hid (ixb (s.extract 2 s.size) (en[1]'(by omega)) (fun b h => hb b (mem_extract h)) hL)
  have c2 : (2 : Int) ≤ (s.size : Int) := by omega
  have c3 : (0 : Int) ≤ (s.size : Int) := by omega
  have c4 : 2 ≤ s.size := by omega
  clear hb h1
  go_enter Tryd.func42, Tryd.ntmps42
  go_wp2_with fail
  refine (HV.out _).mono ?_
  rintro e w' ⟨rfl, rfl⟩
  go_wp2_with fail
  go_step3
  go_wp2_with fail
  go_loop [9, 10] (fun i f => i = .int .i64 1 ∧ f = .int .i64 0) (fun _ _ => 0)
  case atStart => exact ⟨by go_num, rfl⟩
  case round =>
    obtain ⟨rfl, rfl⟩ := hrel
    go_wp2_with fail
    go_step3
    go_wp2_with fail
    go_quiet (fail)
    go_wp2_with fail
    have hS2 : Below w'.heap.size w' (w'.drewN nq).drew := (below_drewN (Below.refl _ _) nq).drew
    refine wp_region_held_drew (S := fun X => Below w'.heap.size w' X) (by kernel_rfl) hS2 (fun hHeld => ?_)
    refine takeH 0 34 (.string s) rfl rfl (by kernel_rfl) (by kernel_rfl) (by kernel_rfl) (fun _ _ _ h => h) (by kernel_rfl) (fun X hX => by clear hX; first | rfl | go_simp) hHeld ?_
    simp only [Act.put, List.setIfInBounds_toArray, List.set_cons_zero, List.set_cons_succ]
    refine takeH 1 35 (.int .i64 1) rfl rfl (by kernel_rfl) (by kernel_rfl) (by kernel_rfl) (fun _ _ _ h => h) (by kernel_rfl) (fun X hX => by clear hX; first | rfl | go_simp) hHeld ?_
    simp only [Act.put, List.setIfInBounds_toArray, List.set_cons_zero, List.set_cons_succ]
    refine takeH 2 36 (.int .i64 2) rfl rfl (by kernel_rfl) (by kernel_rfl) (by kernel_rfl) (fun _ _ _ h => h) (by kernel_rfl) (fun X hX => by clear hX; first | rfl | go_simp) hHeld ?_
    simp only [Act.put, List.setIfInBounds_toArray, List.set_cons_zero, List.set_cons_succ]
    refine takeH 3 37 (.string (s.extract 2 s.size)) rfl rfl (by kernel_rfl) (by kernel_rfl) (by kernel_rfl) (fun _ _ _ h => h) (by kernel_rfl) (fun X hX => by clear hX; go_simp) hHeld ?_
    simp only [Act.put, List.setIfInBounds_toArray, List.set_cons_zero, List.set_cons_succ]
    refine takeH 4 38 (.string en) rfl rfl (by kernel_rfl) (by kernel_rfl) (by kernel_rfl) (fun _ _ _ h => h) (by kernel_rfl) (fun X hX => by clear hX; first | rfl | go_simp) hHeld ?_
    simp only [Act.put, List.setIfInBounds_toArray, List.set_cons_zero, List.set_cons_succ]
    refine takeH 5 39 (.int .i64 1) rfl rfl (by kernel_rfl) (by kernel_rfl) (by kernel_rfl) (fun _ _ _ h => h) (by kernel_rfl) (fun X hX => by clear hX; first | rfl | go_simp) hHeld ?_
    simp only [Act.put, List.setIfInBounds_toArray, List.set_cons_zero, List.set_cons_succ]
    refine takeH 6 40 (.int .u8 ((en[1]'(by omega)).toNat : Int)) rfl rfl (by kernel_rfl) (by kernel_rfl) (by kernel_rfl) (fun _ _ _ h => h) (by kernel_rfl) (fun X hX => by clear hX; first | rfl | go_simp) hHeld ?_
    simp only [Act.put, List.setIfInBounds_toArray, List.set_cons_zero, List.set_cons_succ]
    refine wpAnyH_ready (rs := [7]) (by kernel_rfl) (by simp) ?_
    refine AllReadyH.cons rfl (fun KK hK => ?_) AllReadyH.nil
    simp only [List.getElem_toArray, List.getElem_cons_succ, List.getElem_cons_zero]
    go_simp
    refine (HI.out _).mono ?_
    rintro e w2 ⟨rfl, rfl⟩
    refine hK.out _ _ hS2 (fun hHeld => ?_)
    clear hK KK
    try simp only [Act.put, List.setIfInBounds_toArray, List.set_cons_zero, List.set_cons_succ]
    refine takeH 8 11 (.int .i64 (-1)) rfl rfl (by kernel_rfl) (by kernel_rfl) (by kernel_rfl) (fun _ _ _ h => h) (by kernel_rfl) (fun X hX => by clear hX; first | rfl | go_simp) hHeld ?_
    simp only [Act.put, List.setIfInBounds_toArray, List.set_cons_zero, List.set_cons_succ]
    refine wpAnyH_done (by kernel_rfl) ?_ _
    go_wp2_with fail
    rw [Exit.noGoto_ret]
    go_ret
    exact Did.mk rfl (below_drewN (Below.refl _ _) _)
set_option maxRecDepth 1000000 in
set_option maxHeartbeats 1000000 in
theorem p_ixr3 (s : ByteArray) (s1 : 4 ≤ s.size) (s2 : s.size ≤ 100) (hb : ∀ b ∈ s.data.toList, b.toNat < 128) (r : Int) (h0 : 128 ≤ r) (h1 : Lib.validRune r = true) (h2 : (r == 65533) = false) (en : ByteArray)
    (hcv : ∀ w, (convert 21 9 (.int .i32 r)).run Tryd.prog w = .ok (.string en) w) (hz : en.size = 3) (hL : 128 ≤ (en[2]'(by omega)).toNat) (w : World) : Calls Tryd.prog 42 #[.string s, .int .i32 r] w (Did (.int .i64 (-1)) w) := by
  have HV := hid (fun w => Tryd.utf8_ValidRune r w)
  rw [h1] at HV
  have q1 : (((s[2]'(by omega)).toNat : Int) != ((en[2]'(by omega)).toNat : Int)) = true := by
    have := low_byte hb 2 (by omega)
    rw [bne_iff_ne]; omega
  have HI := hid (ixb (s.extract 3 s.size) (en[2]'(by omega)) (fun b h => hb b (mem_extract h)) hL)
  have c2 : (3 : Int) ≤ (s.size : Int) := by omega
  have c3 : (0 : Int) ≤ (s.size : Int) := by omega
  have c4 : 3 ≤ s.size := by omega
  clear hb h1
  go_enter Tryd.func42, Tryd.ntmps42
  go_wp2_with fail
  refine (HV.out _).mono ?_
  rintro e w' ⟨rfl, rfl⟩
  go_wp2_with fail
  go_step3
  go_wp2_with fail
  go_loop [9, 10] (fun i f => i = .int .i64 2 ∧ f = .int .i64 0) (fun _ _ => 0)
  case atStart => exact ⟨by go_num, rfl⟩
  case round =>
    obtain ⟨rfl, rfl⟩ := hrel
    go_wp2_with fail
    go_step3
    go_wp2_with fail
    go_quiet (fail)
    go_wp2_with fail
    have hS2 : Below w'.heap.size w' (w'.drewN nq).drew := (below_drewN (Below.refl _ _) nq).drew
    refine wp_region_held_drew (S := fun X => Below w'.heap.size w' X) (by kernel_rfl) hS2 (fun hHeld => ?_)
    refine takeH 0 34 (.string s) rfl rfl (by kernel_rfl) (by kernel_rfl) (by kernel_rfl) (fun _ _ _ h => h) (by kernel_rfl) (fun X hX => by clear hX; first | rfl | go_simp) hHeld ?_
    simp only [Act.put, List.setIfInBounds_toArray, List.set_cons_zero, List.set_cons_succ]
    refine takeH 1 35 (.int .i64 2) rfl rfl (by kernel_rfl) (by kernel_rfl) (by kernel_rfl) (fun _ _ _ h => h) (by kernel_rfl) (fun X hX => by clear hX; first | rfl | go_simp) hHeld ?_
    simp only [Act.put, List.setIfInBounds_toArray, List.set_cons_zero, List.set_cons_succ]
    refine takeH 2 36 (.int .i64 3) rfl rfl (by kernel_rfl) (by kernel_rfl) (by kernel_rfl) (fun _ _ _ h => h) (by kernel_rfl) (fun X hX => by clear hX; first | rfl | go_simp) hHeld ?_
    simp only [Act.put, List.setIfInBounds_toArray, List.set_cons_zero, List.set_cons_succ]
    refine takeH 3 37 (.string (s.extract 3 s.size)) rfl rfl (by kernel_rfl) (by kernel_rfl) (by kernel_rfl) (fun _ _ _ h => h) (by kernel_rfl) (fun X hX => by clear hX; go_simp) hHeld ?_
    simp only [Act.put, List.setIfInBounds_toArray, List.set_cons_zero, List.set_cons_succ]
    refine takeH 4 38 (.string en) rfl rfl (by kernel_rfl) (by kernel_rfl) (by kernel_rfl) (fun _ _ _ h => h) (by kernel_rfl) (fun X hX => by clear hX; first | rfl | go_simp) hHeld ?_
    simp only [Act.put, List.setIfInBounds_toArray, List.set_cons_zero, List.set_cons_succ]
    refine takeH 5 39 (.int .i64 2) rfl rfl (by kernel_rfl) (by kernel_rfl) (by kernel_rfl) (fun _ _ _ h => h) (by kernel_rfl) (fun X hX => by clear hX; first | rfl | go_simp) hHeld ?_
    simp only [Act.put, List.setIfInBounds_toArray, List.set_cons_zero, List.set_cons_succ]
    refine takeH 6 40 (.int .u8 ((en[2]'(by omega)).toNat : Int)) rfl rfl (by kernel_rfl) (by kernel_rfl) (by kernel_rfl) (fun _ _ _ h => h) (by kernel_rfl) (fun X hX => by clear hX; first | rfl | go_simp) hHeld ?_
    simp only [Act.put, List.setIfInBounds_toArray, List.set_cons_zero, List.set_cons_succ]
    refine wpAnyH_ready (rs := [7]) (by kernel_rfl) (by simp) ?_
    refine AllReadyH.cons rfl (fun KK hK => ?_) AllReadyH.nil
    simp only [List.getElem_toArray, List.getElem_cons_succ, List.getElem_cons_zero]
    go_simp
    refine (HI.out _).mono ?_
    rintro e w2 ⟨rfl, rfl⟩
    refine hK.out _ _ hS2 (fun hHeld => ?_)
    clear hK KK
    try simp only [Act.put, List.setIfInBounds_toArray, List.set_cons_zero, List.set_cons_succ]
    refine takeH 8 11 (.int .i64 (-1)) rfl rfl (by kernel_rfl) (by kernel_rfl) (by kernel_rfl) (fun _ _ _ h => h) (by kernel_rfl) (fun X hX => by clear hX; first | rfl | go_simp) hHeld ?_
    simp only [Act.put, List.setIfInBounds_toArray, List.set_cons_zero, List.set_cons_succ]
    refine wpAnyH_done (by kernel_rfl) ?_ _
    go_wp2_with fail
    rw [Exit.noGoto_ret]
    go_ret
    exact Did.mk rfl (below_drewN (Below.refl _ _) _)
set_option maxRecDepth 1000000 in
set_option maxHeartbeats 1000000 in
theorem p_ixr4 (s : ByteArray) (s1 : 4 ≤ s.size) (s2 : s.size ≤ 100) (hb : ∀ b ∈ s.data.toList, b.toNat < 128) (r : Int) (h0 : 128 ≤ r) (h1 : Lib.validRune r = true) (h2 : (r == 65533) = false) (en : ByteArray)
    (hcv : ∀ w, (convert 21 9 (.int .i32 r)).run Tryd.prog w = .ok (.string en) w) (hz : en.size = 4) (hL : 128 ≤ (en[3]'(by omega)).toNat) (w : World) : Calls Tryd.prog 42 #[.string s, .int .i32 r] w (Did (.int .i64 (-1)) w) := by
  have HV := hid (fun w => Tryd.utf8_ValidRune r w)
  rw [h1] at HV
  have q1 : (((s[3]'(by omega)).toNat : Int) != ((en[3]'(by omega)).toNat : Int)) = true := by
    have := low_byte hb 3 (by omega)
    rw [bne_iff_ne]; omega
  have HI := hid (ixb (s.extract 4 s.size) (en[3]'(by omega)) (fun b h => hb b (mem_extract h)) hL)
  have c2 : (4 : Int) ≤ (s.size : Int) := by omega
  have c3 : (0 : Int) ≤ (s.size : Int) := by omega
  have c4 : 4 ≤ s.size := by omega
  clear hb h1
  go_enter Tryd.func42, Tryd.ntmps42
  go_wp2_with fail
  refine (HV.out _).mono ?_
  rintro e w' ⟨rfl, rfl⟩
  go_wp2_with fail
  go_step3
  go_wp2_with fail
  go_loop [9, 10] (fun i f => i = .int .i64 3 ∧ f = .int .i64 0) (fun _ _ => 0)
  case atStart => exact ⟨by go_num, rfl⟩
  case round =>
    obtain ⟨rfl, rfl⟩ := hrel
    go_wp2_with fail
    go_step3
    go_wp2_with fail
    go_quiet (fail)
    go_wp2_with fail
    have hS2 : Below w'.heap.size w' (w'.drewN nq).drew := (below_drewN (Below.refl _ _) nq).drew
    refine wp_region_held_drew (S := fun X => Below w'.heap.size w' X) (by kernel_rfl) hS2 (fun hHeld => ?_)
    refine takeH 0 34 (.string s) rfl rfl (by kernel_rfl) (by kernel_rfl) (by kernel_rfl) (fun _ _ _ h => h) (by kernel_rfl) (fun X hX => by clear hX; first | rfl | go_simp) hHeld ?_
    simp only [Act.put, List.setIfInBounds_toArray, List.set_cons_zero, List.set_cons_succ]
    refine takeH 1 35 (.int .i64 3) rfl rfl (by kernel_rfl) (by kernel_rfl) (by kernel_rfl) (fun _ _ _ h => h) (by kernel_rfl) (fun X hX => by clear hX; first | rfl | go_simp) hHeld ?_
    simp only [Act.put, List.setIfInBounds_toArray, List.set_cons_zero, List.set_cons_succ]
    refine takeH 2 36 (.int .i64 4) rfl rfl (by kernel_rfl) (by kernel_rfl) (by kernel_rfl) (fun _ _ _ h => h) (by kernel_rfl) (fun X hX => by clear hX; first | rfl | go_simp) hHeld ?_
    simp only [Act.put, List.setIfInBounds_toArray, List.set_cons_zero, List.set_cons_succ]
    refine takeH 3 37 (.string (s.extract 4 s.size)) rfl rfl (by kernel_rfl) (by kernel_rfl) (by kernel_rfl) (fun _ _ _ h => h) (by kernel_rfl) (fun X hX => by clear hX; go_simp) hHeld ?_
    simp only [Act.put, List.setIfInBounds_toArray, List.set_cons_zero, List.set_cons_succ]
    refine takeH 4 38 (.string en) rfl rfl (by kernel_rfl) (by kernel_rfl) (by kernel_rfl) (fun _ _ _ h => h) (by kernel_rfl) (fun X hX => by clear hX; first | rfl | go_simp) hHeld ?_
    simp only [Act.put, List.setIfInBounds_toArray, List.set_cons_zero, List.set_cons_succ]
    refine takeH 5 39 (.int .i64 3) rfl rfl (by kernel_rfl) (by kernel_rfl) (by kernel_rfl) (fun _ _ _ h => h) (by kernel_rfl) (fun X hX => by clear hX; first | rfl | go_simp) hHeld ?_
    simp only [Act.put, List.setIfInBounds_toArray, List.set_cons_zero, List.set_cons_succ]
    refine takeH 6 40 (.int .u8 ((en[3]'(by omega)).toNat : Int)) rfl rfl (by kernel_rfl) (by kernel_rfl) (by kernel_rfl) (fun _ _ _ h => h) (by kernel_rfl) (fun X hX => by clear hX; first | rfl | go_simp) hHeld ?_
    simp only [Act.put, List.setIfInBounds_toArray, List.set_cons_zero, List.set_cons_succ]
    refine wpAnyH_ready (rs := [7]) (by kernel_rfl) (by simp) ?_
    refine AllReadyH.cons rfl (fun KK hK => ?_) AllReadyH.nil
    simp only [List.getElem_toArray, List.getElem_cons_succ, List.getElem_cons_zero]
    go_simp
    refine (HI.out _).mono ?_
    rintro e w2 ⟨rfl, rfl⟩
    refine hK.out _ _ hS2 (fun hHeld => ?_)
    clear hK KK
    try simp only [Act.put, List.setIfInBounds_toArray, List.set_cons_zero, List.set_cons_succ]
    refine takeH 8 11 (.int .i64 (-1)) rfl rfl (by kernel_rfl) (by kernel_rfl) (by kernel_rfl) (fun _ _ _ h => h) (by kernel_rfl) (fun X hX => by clear hX; first | rfl | go_simp) hHeld ?_
    simp only [Act.put, List.setIfInBounds_toArray, List.set_cons_zero, List.set_cons_succ]
    refine wpAnyH_done (by kernel_rfl) ?_ _
    go_wp2_with fail
    rw [Exit.noGoto_ret]
    go_ret
    exact Did.mk rfl (below_drewN (Below.refl _ _) _)
set_option maxRecDepth 1000000 in
set_option maxHeartbeats 1000000 in
/-- U+FFFD is in no text of bytes below 128 -/
theorem p_ixr0 (s : ByteArray) (hb : ∀ b ∈ s.data.toList, b.toNat < 128) (w : World) : Calls Tryd.prog 42 #[.string s, .int .i32 65533] w (Did (.int .i64 (-1)) w) := by
  have HB := hid (low_byte hb)
  clear hb
  go_enter Tryd.func42, Tryd.ntmps42
  go_wp2_with fail
  go_loopw [] (fun wr => ∃ k : Nat, k ≤ s.size ∧ wr.heap[w.heap.size]? = some (.stringIter s k) ∧ Below w.heap.size w wr) (fun wr => s.size - wr.iterPos w.heap.size)
  case atStart => exact ⟨0, Nat.zero_le _, World.iter_heap w s 0, (Below.refl _ w).alloc (Nat.le_refl _) _⟩
  case round =>
    obtain ⟨k, hk, hit, hbw⟩ := hrel
    by_cases hp : k < s.size
    · have hlt := HB.out k hp
      have hnx : ∀ ty, (Instr.next (.pointer (some ⟨w.heap.size, 0, none⟩)) true ty).run Tryd.prog wr = .ok (.tuple #[.bool true, .int .i64 k, .int .i32 (s[k].toNat : Int)]) (wr.iterAt w.heap.size s (k + 1)) := fun ty => Lib.run_next_ascii_at (P := Tryd.prog) wr w.heap.size s k ty hit hp hlt
      have hit2 := Lib.iterAt_heap wr w.heap.size s k (k + 1) hit
      have hbw2 := Lib.below_iterAt hbw (k := w.heap.size) (Nat.le_refl _) s (k + 1)
      have hp0 := iter_pos hit
      have q1 : ((s[k].toNat : Int) == 65533) = false := by rw [beq_eq_false_iff_ne]; omega
      generalize (wr.iterAt w.heap.size s (k + 1)) = W1 at *
      go_wp2_with fail
      exact ⟨⟨k + 1, by omega, hit2, hbw2⟩, by rw [iter_pos hit2, hp0]; omega⟩
    · obtain rfl : k = s.size := by omega
      have hnx : ∀ ty, (Instr.next (.pointer (some ⟨w.heap.size, 0, none⟩)) true ty).run Tryd.prog wr = .ok (.tuple #[.bool false]) wr := fun ty => Lib.run_next_end_at (P := Tryd.prog) wr w.heap.size s s.size ty hit (by omega)
      go_wp2_with fail
      go_ret
      exact Did.mk rfl hbw
/-- strings.IndexRune in a text of bytes below 128, of what is none of these -/
theorem p_ixr (s : ByteArray) (s1 : 4 ≤ s.size) (s2 : s.size ≤ 100) (hb : ∀ b ∈ s.data.toList, b.toNat < 128) (r : Int) (h0 : 128 ≤ r) (h1 : Lib.validRune r = true) (w : World) : Calls Tryd.prog 42 #[.string s, .int .i32 r] w (Did (.int .i64 (-1)) w) := by
  by_cases he : r = 65533
  · subst he
    exact p_ixr0 s hb w
  · have h2 : (r == 65533) = false := by rw [beq_eq_false_iff_ne]; exact he
    obtain ⟨z1, z2, z3⟩ := encode_facts r (by rw [validRune_eq]; exact h1) h0
    have hcv : ∀ w, (convert 21 9 (.int .i32 r)).run Tryd.prog w = .ok (.string (Utf8.encode r)) w := fun w => run_convert_int_string w 21 9 .i32 r (by rw [Tryd.underlying21]; rfl) Tryd.underlying9
    generalize Utf8.encode r = en at *
    have key : en.size = 2 ∨ en.size = 3 ∨ en.size = 4 := by omega
    rcases key with hz | hz | hz
    · have hL := z3 (by omega)
      simp only [hz] at hL
      exact p_ixr2 s s1 s2 hb r h0 h1 h2 en hcv hz hL w
    · have hL := z3 (by omega)
      simp only [hz] at hL
      exact p_ixr3 s s1 s2 hb r h0 h1 h2 en hcv hz hL w
    · have hL := z3 (by omega)
      simp only [hz] at hL
      exact p_ixr4 s s1 s2 hb r h0 h1 h2 en hcv hz hL w
end Go.Proofs.YtfnjnkmdifigdaaDoor
