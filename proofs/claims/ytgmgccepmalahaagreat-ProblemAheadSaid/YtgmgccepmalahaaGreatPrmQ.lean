/- The law's own nought and ahead. -/
import Derived.Test.YtgmgccepmalahaaGreatPrmP
import Derived.Test.YtgmgccepmalahaaGreatPrmD
import Derived.Test.YtgmgccepmalahaaGreatPrmH
import Derived.Test.YtgmgccepmalahaaGreatPrbL
import Derived.OwnWalk
namespace Go.Proofs.YtgmgccepmalahaaGreat
open Go.RowKit
open Whn (Gr Wh)

theorem Tryz.info_is17 : (Tryz.prog.info? 43).map (fun i => (i.zero, i.size, i.bytes)) = some (some (.slice none 0 0), 1, 24) := by kernel_rfl
def ZRow (w : World) (base : Nat) (v : Value) (i n : Nat) : Prop := ∃ vals : List Value, w.ownsRow base 43 1 v i vals ∧ ∀ (j : Nat) (s : Value), vals[j]? = some s → (∃ A, s = .slice A n n) ∧ w.ownsRow base 3 1 s n (List.replicate n (.int .i64 0))
theorem rows2_nil17 (w : World) (B : Nat) (A : Option Addr) : Rows2 w B A [] := fun h => absurd rfl h
theorem ZRow.rows {w : World} {base : Nat} {v : Value} {n : Nat} (h : ZRow w base v n n) : ∃ A c, v = .slice A n c ∧ Rows2 w w.heap.size A (List.replicate n (List.replicate n 0)) ∧ n ≤ c ∧ c ≤ maxLen := by
  obtain ⟨vals, ho, hv⟩ := h
  have hl : vals.length = n := by have := ho.1; omega
  rcases ho.2 with ⟨rfl, h0⟩ | ⟨g, cap, cur, rfl, hb', hg, hn', hcm, _⟩
  · subst h0
    exact ⟨none, 0, rfl, rows2_nil17 _ _ _, Nat.le_refl _, Nat.zero_le _⟩
  · refine ⟨some ⟨g, 0, none⟩, cap, rfl, fun _ => ⟨_, rfl, (Array.getElem?_eq_some_iff.1 hg).1, fun k l hk => ?_⟩, hn', hcm⟩
    have hkn : k < n := by have := (List.getElem?_eq_some_iff.1 hk).1; rwa [List.length_replicate] at this
    rw [List.getElem?_replicate, if_pos hkn] at hk
    obtain rfl := Option.some.inj hk
    obtain ⟨s, hs⟩ : ∃ s, vals[k]? = some s := ⟨_, List.getElem?_eq_getElem (by omega)⟩
    obtain ⟨⟨A, rfl⟩, hr⟩ := hv k s hs
    refine ⟨A, n, ?_, ?_, by rw [List.length_replicate]; exact Nat.le_refl _⟩
    · rw [List.length_replicate]
      exact ho.cells rfl k _ hs
    · have := Rd.of_own hr
      unfold Its
      rw [List.map_replicate]
      exact this
theorem own_abv {w w' : World} {b : Nat} {e : TypeId} {size : Nat} {v : Value} {n : Nat} {xs : List Value} (h : w.ownsRow b e size v n xs) (ha : Abv b w w') : w'.ownsRow b e size v n xs :=
  ⟨h.1, h.2.imp id fun ⟨g, cap, cur, h1, h2, h3, h4⟩ => ⟨g, cap, cur, h1, h2, (ha.2 g h2 (Array.getElem?_eq_some_iff.1 h3).1).trans h3, h4⟩⟩
theorem ZRow.abv {w w' : World} {b : Nat} {v : Value} {i n : Nat} (h : ZRow w b v i n) (ha : Abv b w w') : ZRow w' b v i n := by
  obtain ⟨vals, ho, hv⟩ := h
  exact ⟨vals, own_abv ho ha, fun j s hs => ⟨(hv j s hs).1, own_abv (hv j s hs).2 ha⟩⟩
def RwRet (n : Nat) (w : World) (e : Ending) (w' : World) : Prop := ∃ A c, e = .returned (.slice A n c) ∧ ZRow w' w.heap.size (.slice A n c) n n ∧ (n ≤ c ∧ c ≤ maxLen) ∧ Below w.heap.size w w'
set_option maxRecDepth 20000 in
set_option maxHeartbeats 4000000 in
theorem p_nought (n : Nat) (hn : n ≤ 1000) (w : World) : Calls Tryz.prog 118 #[.int .i64 (n : Int)] w (RwRet n w) := by
  obtain ⟨i0, hi0, hz0, hz1, hz2⟩ := info_parts Tryz.info_i17
  obtain ⟨j0, hj0, hy0, hy1, hy2⟩ := info_parts Tryz.info_is17
  go_enter Tryz.func118, Tryz.ntmps118
  go_wp2_with fail
  go_loopw [3, 4] (fun v iv wr => ∃ i : Nat, iv = .int .i64 i ∧ i ≤ n ∧ Hid (ZRow wr w.heap.size v i n) ∧ Hid (Below w.heap.size w wr)) (fun _ iv _ => n - (intOf iv).toNat)
  case atStart => exact ⟨0, rfl, Nat.zero_le _, hid ⟨[], World.ownsRow_nil w w.heap.size 43 1, fun j s hs => by cases hs⟩, hid (Below.refl _ _)⟩
  case round =>
    obtain ⟨i, rfl, hi, HZ, HB⟩ := hrel
    by_cases hlt : i < n
    · have i1 : (0 : Int) ≤ (i : Int) := by omega
      have i2 : (i : Int) < (n : Int) := by omega
      obtain ⟨vals, ho, hv⟩ := HZ.out
      have HO := hid ho
      have HV := hid hv
      have hsz := HB.out.size
      have hb2 : i0.bytes * n ≤ 281474976710656 := by rw [hz2]; omega
      have hb3 : n ≤ maxLen := by unfold maxLen; omega
      have hn3 : i + 1 ≤ maxLen := by unfold maxLen; omega
      have hn4 : (i + 1) * 24 ≤ 140737488355328 := by omega
      clear HZ ho hv
      go_wp2_with (first
        | (at_make; refine wpList_make_full _ rfl _ _ 43 rfl w.heap.size 3 i0 (.int .i64 0) 1 Tryz.underlying43 hi0 hz0 hz1 .i64 .i64 _ _ n rfl rfl rfl rfl hb2 hb3 hsz ?_; intro w1 hown hgrow; have HB1 := hid (HB.out.grown hgrow hsz (fun k hk => by cases hk)); have hsz1 := HB1.out.size; have HN := hid hown; have hbw := (Below.refl wr.heap.size wr).grown hgrow (Nat.le_refl _) (fun k hk => by cases hk); have HO1 := hid (own_below HO.out hbw); have HV1 := hid (fun j s hs => And.intro (HV.out j s hs).1 (own_below (HV.out j s hs).2 hbw)); clear hown hgrow hbw)
        | (at_builtin; refine wpList_append_own _ rfl _ _ 25 rfl w.heap.size 43 j0 (.slice none 0 0) 1 24 Tryz.underlying25 hj0 hy0 hy1 hy2 rfl (by decide) _ _ _ rfl (HO1.out.alloc _) ⟨_, 0, none⟩ 1 1 _ rfl rfl (lit_one _ _ _) (by simp [Value.oneCell']) hn3 hn4 (le_alloc hsz1 _) ?_; intro v1 w5 hown2 hgrow2 _))
      have HB5 := hid (show Below w.heap.size w w5 from (HB1.out.alloc hsz1 _).grown hgrow2 (le_alloc hsz1 _) (fun k hk => (HO1.out.lt k hk).1))
      have HZ5 := hid (show ZRow w5 w.heap.size v1 (i + 1) n from ⟨_, hown2, fun j s hs => by
        have key : ∀ s, w1.ownsRow w.heap.size 3 1 s n (List.replicate n (.int .i64 0)) → w5.ownsRow w.heap.size 3 1 s n (List.replicate n (.int .i64 0)) := fun s h => (h.alloc (.cells #[.slice (some ⟨wr.heap.size, 0, none⟩) n n] 43)).kept hgrow2 (own_typed (HO1.out.alloc (.cells #[.slice (some ⟨wr.heap.size, 0, none⟩) n n] 43)) (h.alloc (.cells #[.slice (some ⟨wr.heap.size, 0, none⟩) n n] 43)) (by decide))
        rw [List.getElem?_append] at hs
        split at hs
        · exact ⟨(HV1.out j s hs).1, key s (HV1.out j s hs).2⟩
        · obtain ⟨h0, rfl⟩ : j - vals.length = 0 ∧ s = .slice (some ⟨wr.heap.size, 0, none⟩) n n := by
            cases hq : j - vals.length with
            | zero => rw [hq] at hs; exact ⟨rfl, (Option.some.inj hs).symm⟩
            | succ m => rw [hq] at hs; cases hs
          refine ⟨⟨_, rfl⟩, key _ ?_⟩
          have := HN.out
          rwa [made_one] at this⟩)
      exact ⟨⟨i + 1, by go_num, by omega, HZ5, HB5⟩, by simp [intOf]; omega⟩
    · obtain rfl : i = n := by omega
      have i2 : ¬ (i : Int) < (i : Int) := by omega
      obtain ⟨A, c, rfl, _, hc⟩ := HZ.out.rows
      go_wp2_with fail
      go_ret
      exact ⟨_, _, rfl, HZ.out, hc, HB.out⟩
/-! ### what stands ahead -/
def AhRet (C : Pb) (w : World) (e : Ending) (w' : World) : Prop := ∃ q : PbA, e = .returned (.tuple #[pbv q, .bool true]) ∧ PbIn w' q ∧ q.p = C ∧ PbFew q ∧ Below w.heap.size w w'
theorem es_cut {α : Type} {en : α → List Value} {w : World} {B : Nat} {A : Option Addr} {l : List α} (h : Es en w B A l) (k : Nat) : Es en w B A (l.take k) := es_take h k
theorem in11 {w : World} {x : PbA} (h : PbIn w x) (k : Nat) (A9 : Option Addr) (d9 : Nat) (hz : Rows2 w w.heap.size A9 (List.replicate k (List.replicate k 0))) (hd : k ≤ d9 ∧ d9 ≤ maxLen) : PbIn w ⟨x.n, x.g, (x.rm.take k), (List.replicate k (List.replicate k 0)), [], [], [], [], [], 0, 0, 0, 0, x.r0, x.c0, A9, d9, none, 0, none, 0, none, 0, none, 0, none, 0⟩ where
  hn := h.hn
  hg := h.hg
  rm := es_take h.rm k
  rmI := fun y hy => h.rmI y (List.mem_of_mem_take hy)
  rmC := by have := h.rmC; show (x.rm.take k).length ≤ x.c0 ∧ x.c0 ≤ maxLen; rw [List.length_take]; omega
  wk := hz
  wkI := fun l hl => by
    rw [List.eq_of_mem_replicate hl, List.length_replicate]
    exact ⟨by omega, fun i hi => by rw [List.eq_of_mem_replicate hi]; unfold I64; omega⟩
  wkC := by rw [List.length_replicate]; exact hd
  ps := Rd.none_ _ _ _
  psI := fun y hy => (nomatch hy)
  psC := ⟨Nat.le_refl _, Nat.zero_le _⟩
  cl := Rd.none_ _ _ _
  clI := fun y hy => (nomatch hy)
  clC := ⟨Nat.le_refl _, Nat.zero_le _⟩
  cs := Rd.none_ _ _ _
  csI := fun y hy => (nomatch hy)
  csC := ⟨Nat.le_refl _, Nat.zero_le _⟩
  st := Rd.none_ _ _ _
  stI := fun y hy => (nomatch hy)
  stC := ⟨Nat.le_refl _, Nat.zero_le _⟩
  rl := Rd.none_ _ _ _
  rlI := fun y hy => (nomatch hy)
  rlC := ⟨Nat.le_refl _, Nat.zero_le _⟩
  hw := by unfold I64; simp only; omega
theorem in12 {w : World} {x : PbA} (h : PbIn w x) (k : Nat) : PbIn w ⟨x.n, x.g, x.rm, x.wk, (x.ps.take k), [], [], [], [], 0, 0, 0, 0, x.r0, x.c0, x.r1, x.c1, x.r2, x.c2, none, 0, none, 0, none, 0, none, 0⟩ where
  hn := h.hn
  hg := h.hg
  rm := h.rm
  rmI := h.rmI
  rmC := h.rmC
  wk := h.wk
  wkI := h.wkI
  wkC := h.wkC
  ps := es_take h.ps k
  psI := fun y hy => h.psI y (List.mem_of_mem_take hy)
  psC := by have := h.psC; show (x.ps.take k).length ≤ x.c2 ∧ x.c2 ≤ maxLen; rw [List.length_take]; omega
  cl := Rd.none_ _ _ _
  clI := fun y hy => (nomatch hy)
  clC := ⟨Nat.le_refl _, Nat.zero_le _⟩
  cs := Rd.none_ _ _ _
  csI := fun y hy => (nomatch hy)
  csC := ⟨Nat.le_refl _, Nat.zero_le _⟩
  st := Rd.none_ _ _ _
  stI := fun y hy => (nomatch hy)
  stC := ⟨Nat.le_refl _, Nat.zero_le _⟩
  rl := Rd.none_ _ _ _
  rlI := fun y hy => (nomatch hy)
  rlC := ⟨Nat.le_refl _, Nat.zero_le _⟩
  hw := by unfold I64; simp only; omega
theorem in13 {w : World} {x : PbA} (h : PbIn w x) : PbIn w ⟨x.n, x.g, x.rm, x.wk, x.ps, [], [], [], [], 0, 0, 0, 0, x.r0, x.c0, x.r1, x.c1, x.r2, x.c2, none, 0, none, 0, none, 0, none, 0⟩ where
  hn := h.hn
  hg := h.hg
  rm := h.rm
  rmI := h.rmI
  rmC := h.rmC
  wk := h.wk
  wkI := h.wkI
  wkC := h.wkC
  ps := h.ps
  psI := h.psI
  psC := h.psC
  cl := Rd.none_ _ _ _
  clI := fun y hy => (nomatch hy)
  clC := ⟨Nat.le_refl _, Nat.zero_le _⟩
  cs := Rd.none_ _ _ _
  csI := fun y hy => (nomatch hy)
  csC := ⟨Nat.le_refl _, Nat.zero_le _⟩
  st := Rd.none_ _ _ _
  stI := fun y hy => (nomatch hy)
  stC := ⟨Nat.le_refl _, Nat.zero_le _⟩
  rl := Rd.none_ _ _ _
  rlI := fun y hy => (nomatch hy)
  rlC := ⟨Nat.le_refl _, Nat.zero_le _⟩
  hw := by unfold I64; simp only; omega
theorem in14 {w : World} {x : PbA} (h : PbIn w x) (k : Nat) : PbIn w ⟨x.n, x.g, x.rm, x.wk, x.ps, x.cl, (x.cs.take k), [], [], 0, 0, 0, 0, x.r0, x.c0, x.r1, x.c1, x.r2, x.c2, x.r3, x.c3, x.r4, x.c4, none, 0, none, 0⟩ where
  hn := h.hn
  hg := h.hg
  rm := h.rm
  rmI := h.rmI
  rmC := h.rmC
  wk := h.wk
  wkI := h.wkI
  wkC := h.wkC
  ps := h.ps
  psI := h.psI
  psC := h.psC
  cl := h.cl
  clI := h.clI
  clC := h.clC
  cs := es_take h.cs k
  csI := fun y hy => h.csI y (List.mem_of_mem_take hy)
  csC := by have := h.csC; show (x.cs.take k).length ≤ x.c4 ∧ x.c4 ≤ maxLen; rw [List.length_take]; omega
  st := Rd.none_ _ _ _
  stI := fun y hy => (nomatch hy)
  stC := ⟨Nat.le_refl _, Nat.zero_le _⟩
  rl := Rd.none_ _ _ _
  rlI := fun y hy => (nomatch hy)
  rlC := ⟨Nat.le_refl _, Nat.zero_le _⟩
  hw := by unfold I64; simp only; omega
theorem in15 {w : World} {x : PbA} (h : PbIn w x) (k : Nat) : PbIn w ⟨x.n, x.g, x.rm, x.wk, x.ps, x.cl, x.cs, (x.st.take k), [], 0, 0, 0, 0, x.r0, x.c0, x.r1, x.c1, x.r2, x.c2, x.r3, x.c3, x.r4, x.c4, x.r5, x.c5, none, 0⟩ where
  hn := h.hn
  hg := h.hg
  rm := h.rm
  rmI := h.rmI
  rmC := h.rmC
  wk := h.wk
  wkI := h.wkI
  wkC := h.wkC
  ps := h.ps
  psI := h.psI
  psC := h.psC
  cl := h.cl
  clI := h.clI
  clC := h.clC
  cs := h.cs
  csI := h.csI
  csC := h.csC
  st := es_take h.st k
  stI := fun y hy => h.stI y (List.mem_of_mem_take hy)
  stC := by have := h.stC; show (x.st.take k).length ≤ x.c5 ∧ x.c5 ≤ maxLen; rw [List.length_take]; omega
  rl := Rd.none_ _ _ _
  rlI := fun y hy => (nomatch hy)
  rlC := ⟨Nat.le_refl _, Nat.zero_le _⟩
  hw := by unfold I64; simp only; omega
theorem in16 {w : World} {x : PbA} (h : PbIn w x) (k : Nat) : PbIn w ⟨x.n, x.g, x.rm, x.wk, x.ps, x.cl, x.cs, x.st, (x.rl.take k), 0, 0, 0, 0, x.r0, x.c0, x.r1, x.c1, x.r2, x.c2, x.r3, x.c3, x.r4, x.c4, x.r5, x.c5, x.r6, x.c6⟩ where
  hn := h.hn
  hg := h.hg
  rm := h.rm
  rmI := h.rmI
  rmC := h.rmC
  wk := h.wk
  wkI := h.wkI
  wkC := h.wkC
  ps := h.ps
  psI := h.psI
  psC := h.psC
  cl := h.cl
  clI := h.clI
  clC := h.clC
  cs := h.cs
  csI := h.csI
  csC := h.csC
  st := h.st
  stI := h.stI
  stC := h.stC
  rl := es_take h.rl k
  rlI := fun y hy => h.rlI y (List.mem_of_mem_take hy)
  rlC := by have := h.rlC; show (x.rl.take k).length ≤ x.c6 ∧ x.c6 ≤ maxLen; rw [List.length_take]; omega
  hw := by unfold I64; simp only; omega
theorem in17 {w : World} {x : PbA} (h : PbIn w x) : PbIn w ⟨x.n, x.g, x.rm, x.wk, x.ps, x.cl, x.cs, x.st, x.rl, 0, 0, 0, 0, x.r0, x.c0, x.r1, x.c1, x.r2, x.c2, x.r3, x.c3, x.r4, x.c4, x.r5, x.c5, x.r6, x.c6⟩ where
  hn := h.hn
  hg := h.hg
  rm := h.rm
  rmI := h.rmI
  rmC := h.rmC
  wk := h.wk
  wkI := h.wkI
  wkC := h.wkC
  ps := h.ps
  psI := h.psI
  psC := h.psC
  cl := h.cl
  clI := h.clI
  clC := h.clC
  cs := h.cs
  csI := h.csI
  csC := h.csC
  st := h.st
  stI := h.stI
  stC := h.stC
  rl := h.rl
  rlI := h.rlI
  rlC := h.rlC
  hw := by unfold I64; simp only; omega
abbrev z17L : List Value := [.string ⟨#[]⟩, .int .i64 0, .int .i64 0, .int .i64 0, .slice none 0 0, .slice none 0 0, .slice none 0 0, .slice none 0 0, .slice none 0 0, .slice none 0 0, .slice none 0 0, .int .i64 0, .int .i64 0, .int .i64 0, .int .i64 0]
abbrev nS : Value := .slice none 0 0
abbrev qv (x : PbA) (a b c d e f g : Value) : List Value := [txt x.n, .int .i64 x.g.w, .int .i64 x.g.d, .int .i64 x.g.s, a, b, c, d, e, f, g, .int .i64 0, .int .i64 0, .int .i64 0, .int .i64 0]
end Go.Proofs.YtgmgccepmalahaaGreat
