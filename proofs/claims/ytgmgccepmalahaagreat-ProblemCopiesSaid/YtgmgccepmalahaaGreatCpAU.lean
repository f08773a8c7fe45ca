/- What the proof of ProblemCopies stands on, part 21. -/
import Derived.Test.YtgmgccepmalahaaGreatCpAS
import Derived.Test.YtgmgccepmalahaaGreatCpAT
namespace Go.Proofs.YtgmgccepmalahaaGreat
open Go.RowKit
open Whn (Gr Wh)
abbrev ElQ (α : Type) := Nat → α → World → Prop
structure ElOk {α : Type} (E : ElQ α) (T K : Nat) : Prop where
 keep : ∀ b y X Y, E b y X → Abv b X Y → E b y Y
 low : ∀ b b' y X, E b y X → b' ≤ b → E b' y X
 grow : ∀ b y b2 v n xs X Y, E b y X → X.ownsRow b2 T K v n xs → X.grownBy Y v.ownBlock → E b y Y
def ElRet {α : Type} (val : α → Value) (R : α → α → Prop) (E : ElQ α) (y : α) (w : World) (e : Ending) (w' : World) : Prop := ∃ y', e = .returned (val y') ∧ R y y' ∧ E w.heap.size y' w' ∧ Below w.heap.size w w'
def EaRet {α : Type} (en : α → List Value) (T K : Nat) (R : α → α → Prop) (E : ElQ α) (l : List α) (w : World) (e : Ending) (w' : World) : Prop :=
 ∃ v, ∃ l' : List α, e = .returned v ∧ w'.ownsRow w.heap.size T K v l.length (ecells en l') ∧ l'.length = l.length ∧ (∀ (j : Nat) (y y' : α), l[j]? = some y → l'[j]? = some y' → R y y') ∧ (∀ y' ∈ l', E w.heap.size y' w') ∧ Below w.heap.size w w'
structure ItA where
 l : List Int
 a : Option Addr
 c : Nat
structure WyA where
 l : List (List Int)
 a : Option Addr
 c : Nat
abbrev enI (o : ItA) : List Value := [.slice o.a o.l.length o.c]
abbrev enW (o : WyA) : List Value := [.slice o.a o.l.length o.c]
theorem Tryz.inf17_way : (Tryz.prog.info? 67).map (fun i => (i.zero, i.size, i.bytes)) = some (some (.agg #[.slice none 0 0]), 1, 24) := by kernel_rfl
theorem elit_get (w : World) (cs : List Value) (t : TypeId) : ∀ (j : Nat) (u : Value), cs[j]? = some u → (w.alloc (.cells cs.toArray t)).cell? ((⟨w.heap.size, 0, none⟩ : Addr).add j) = some u := fun j u hu => by
 have h := (Ob.new w cs t).cell hu
 rcases Nat.eq_zero_or_pos j with rfl | hj
 · exact h
 · rw [show ((⟨w.heap.size, 0, none⟩ : Addr).add j) = ⟨w.heap.size, j, none⟩ by unfold Addr.add; simp; omega]
   exact h
theorem one17_Room (x : RmA) : ∀ u ∈ enR x, u.oneCell' = true := fun u hu => by
 simp only [enR, List.mem_cons, List.not_mem_nil, or_false] at hu
 rcases hu with rfl | rfl | rfl | rfl <;> rfl
set_option maxRecDepth 20000 in
set_option maxHeartbeats 4000000 in
theorem p_eachRoom (A : Option Addr) (c : Nat) (l : List RmA) (hm : l.length * 56 ≤ 140737488355328) (R : RmA → RmA → Prop) (E : ElQ RmA) (S : ElOk E 52 4) (w : World) (h : Es enR w w.heap.size A l)
    (H : ∀ y ∈ l, ∀ X, Below w.heap.size w X → Calls Tryz.prog 70 #[rvA y] X (ElRet (fun y => rvA y) R E y X)) :
    Calls Tryz.prog 69 #[.slice A l.length c, .func (.func 70) #[] #[]] w (EaRet enR 52 4 R E l w) := by
 have H := hid H
 have HE := hid h
 clear h
 have q0 : 56 * l.length ≤ 281474976710656 := by omega
 have q1 : l.length ≤ maxLen := by unfold maxLen; omega
 obtain ⟨i0, hi0, hz0, hz1, hz2⟩ := info_parts Tryz.inf17_room
 have q0 : i0.bytes * l.length ≤ 281474976710656 := by rw [hz2]; exact q0
 go_enter Tryz.func69, Tryz.ntmps69
 go_wp2_with (at_make; refine wpList_make_own _ rfl _ _ 24 rfl w.heap.size 52 i0 (.agg #[.string ⟨#[]⟩, .int .i64 0, .int .u16 0, .slice none 0 0]) 4 Tryz.underlying24 hi0 hz0 hz1 .i64 .i64 (l.length : Int) l.length rfl rfl rfl q0 q1 (Nat.le_refl _) ?_; intro w1 hown hgrow; have hb := hid ((Below.refl w.heap.size w).grown hgrow (Nat.le_refl _) (fun k hk => by cases hk)); have hown := hid hown; clear hgrow)
 go_loopw [5, 13] (fun v iv wr => ∃ (k : Nat) (l' : List RmA), iv = .int .i64 ((k : Nat) : Int) ∧ k ≤ l.length ∧ Hid (wr.ownsRow w.heap.size 52 4 v k (ecells enR l')) ∧ Hid (l'.length = k) ∧ Hid (∀ (j : Nat) (y y' : RmA), l[j]? = some y → l'[j]? = some y' → R y y') ∧ Hid (∀ y' ∈ l', E w.heap.size y' wr) ∧ Hid (Below w.heap.size w wr)) (fun _ i _ => l.length - (intOf i).toNat)
 case atStart => exact ⟨0, [], rfl, Nat.zero_le _, hown, rfl, fun j y y' _ h => by simp at h, fun y' h => (by cases h), hb⟩
 case round =>
  clear hown hb
  obtain ⟨k, l', rfl, hk, HO, HL, HR, HA, HB⟩ := hrel
  by_cases hlt : k < l.length
  · obtain ⟨ad, y, rfl, hadb, hy, hyl, hcell⟩ := Es.get (K := 4) (fun _ => rfl) (by decide) (HE.out.below HB.out (Nat.le_refl _)) hlt
    have d0 := hcell 0 _ rfl
    rw [Nat.add_zero] at d0
    have d1 := hcell 1 _ rfl
    rw [add_add _ _ _ (by omega)] at d1
    have d2 := hcell 2 _ rfl
    rw [add_add _ _ _ (by omega)] at d2
    have d3 := hcell 3 _ rfl
    rw [add_add _ _ _ (by omega)] at d3
    have b1 : (0 : Int) ≤ (k : Int) := by omega
    have b2 : (k : Int) < l.length := by omega
    obtain ⟨D, U, hD, hU, K2, hb2⟩ := (show Mem w wr [] from ⟨fun p hp => (by cases hp), HB.out⟩).one (enR y) 52
    have c0 := K2.out.cell (b := D) (cs := enR y) (t := 52) (by simp) (k := 0) rfl
    have c1 := K2.out.cell (b := D) (cs := enR y) (t := 52) (by simp) (k := 1) rfl
    have c2 := K2.out.cell (b := D) (cs := enR y) (t := 52) (by simp) (k := 2) rfl
    have c3 := K2.out.cell (b := D) (cs := enR y) (t := 52) (by simp) (k := 3) rfl
    have HC := hid (H.out y hyl _ K2.out.2)
    clear hcell
    go_wp2_with fail
    refine HC.out.mono ?_
    rintro e w2 ⟨y', rfl, hr, he, b3⟩
    have hsz := K2.out.2.size
    have O2 := hid (own_below (own_below HO.out hb2) b3)
    have hB2 := K2.out.2.trans (b3.mono hsz)
    have hsz2 := hB2.size
    have HE2 := hid (show ∀ z ∈ l' ++ [y'], E w.heap.size z w2 from fun z hz => by
     rcases List.mem_append.1 hz with h1 | h1
     · exact S.keep _ _ _ _ (HA.out z h1) ((Abv.of hb2).trans (Abv.of b3))
     · rw [List.mem_singleton] at h1
       subst h1
       exact S.low _ _ _ _ he hsz)
    have hn3 : k + 1 ≤ maxLen := by omega
    have hn4 : (k + 1) * 56 ≤ 140737488355328 := by omega
    have HR2 := hid (show ∀ (j : Nat) (z z' : RmA), l[j]? = some z → (l' ++ [y'])[j]? = some z' → R z z' from fun j z z' h1 h2 => by
     rcases Nat.lt_or_ge j k with h3 | h3
     · rw [List.getElem?_append_left (by rw [HL.out]; exact h3)] at h2
       exact HR.out j z z' h1 h2
     · have h4 := (List.getElem?_eq_some_iff.1 h2).1
       rw [List.length_append, HL.out] at h4
       have h5 : j = k := by simp only [List.length_singleton] at h4; omega
       subst h5
       rw [List.getElem?_append_right (by rw [HL.out]; omega), HL.out, Nat.sub_self] at h2
       have e1 := hy.out
       rw [h1] at e1
       injection e1 with e1
       injection h2 with h2
       rw [e1, ← h2]
       exact hr)
    clear d0 c0 d1 c1 d2 c2 d3 c3 HC HO HR HA he b3 hr K2 hb2 hD hU
    go_wp2_with (at_builtin; refine wpList_append_own _ rfl _ _ 24 rfl w.heap.size 52 i0 (.agg #[.string ⟨#[]⟩, .int .i64 0, .int .u16 0, .slice none 0 0]) 4 56 Tryz.underlying24 hi0 hz0 hz1 hz2 rfl (by decide) _ _ _ rfl (O2.out.alloc _) ⟨_, 0, none⟩ 1 1 (enR y') rfl rfl (elit_get _ _ _) (one17_Room _) hn3 hn4 (le_alloc hsz2 _) ?_; intro v1 w5 hown2 hgrow _)
    have ba := Below.alloc (Below.refl w2.heap.size w2) (Nat.le_refl _) (.cells (enR y').toArray 52)
    refine ⟨⟨k + 1, l' ++ [y'], by go_num, by omega, ?_, hid (by rw [List.length_append, HL.out]; rfl), HR2, hid (fun z hz => S.grow _ _ _ _ _ _ _ _ (S.keep _ _ _ _ (HE2.out z hz) (Abv.of ba)) (O2.out.alloc _) hgrow), hid ((hB2.trans (ba.mono hsz2)).grown hgrow (le_alloc hsz2 _) (fun k hk => (O2.out.lt k hk).1))⟩, by simp [intOf]; omega⟩
    rw [ecells_snoc]
    exact hid hown2
  · obtain rfl : k = l.length := by omega
    have b2 : ¬ (l.length : Int) < l.length := by omega
    go_wp2_with fail
    go_ret
    exact ⟨_, l', rfl, HO.out, HL.out, HR.out, HA.out, HB.out⟩
theorem one17_Person (x : PsA) : ∀ u ∈ enQ x, u.oneCell' = true := fun u hu => by
 simp only [enQ, List.mem_cons, List.not_mem_nil, or_false] at hu
 rcases hu with rfl | rfl <;> rfl
set_option maxRecDepth 20000 in
set_option maxHeartbeats 4000000 in
theorem p_eachPerson (A : Option Addr) (c : Nat) (l : List PsA) (hm : l.length * 40 ≤ 140737488355328) (R : PsA → PsA → Prop) (E : ElQ PsA) (S : ElOk E 57 2) (w : World) (h : Es enQ w w.heap.size A l)
    (H : ∀ y ∈ l, ∀ X, Below w.heap.size w X → Calls Tryz.prog 74 #[pvA y] X (ElRet (fun y => pvA y) R E y X)) :
    Calls Tryz.prog 73 #[.slice A l.length c, .func (.func 74) #[] #[]] w (EaRet enQ 57 2 R E l w) := by
 have H := hid H
 have HE := hid h
 clear h
 have q0 : 40 * l.length ≤ 281474976710656 := by omega
 have q1 : l.length ≤ maxLen := by unfold maxLen; omega
 obtain ⟨i0, hi0, hz0, hz1, hz2⟩ := info_parts Tryz.inf17_person
 have q0 : i0.bytes * l.length ≤ 281474976710656 := by rw [hz2]; exact q0
 go_enter Tryz.func73, Tryz.ntmps73
 go_wp2_with (at_make; refine wpList_make_own _ rfl _ _ 26 rfl w.heap.size 57 i0 (.agg #[.string ⟨#[]⟩, .slice none 0 0]) 2 Tryz.underlying26 hi0 hz0 hz1 .i64 .i64 (l.length : Int) l.length rfl rfl rfl q0 q1 (Nat.le_refl _) ?_; intro w1 hown hgrow; have hb := hid ((Below.refl w.heap.size w).grown hgrow (Nat.le_refl _) (fun k hk => by cases hk)); have hown := hid hown; clear hgrow)
 go_loopw [5, 13] (fun v iv wr => ∃ (k : Nat) (l' : List PsA), iv = .int .i64 ((k : Nat) : Int) ∧ k ≤ l.length ∧ Hid (wr.ownsRow w.heap.size 57 2 v k (ecells enQ l')) ∧ Hid (l'.length = k) ∧ Hid (∀ (j : Nat) (y y' : PsA), l[j]? = some y → l'[j]? = some y' → R y y') ∧ Hid (∀ y' ∈ l', E w.heap.size y' wr) ∧ Hid (Below w.heap.size w wr)) (fun _ i _ => l.length - (intOf i).toNat)
 case atStart => exact ⟨0, [], rfl, Nat.zero_le _, hown, rfl, fun j y y' _ h => by simp at h, fun y' h => (by cases h), hb⟩
 case round =>
  clear hown hb
  obtain ⟨k, l', rfl, hk, HO, HL, HR, HA, HB⟩ := hrel
  by_cases hlt : k < l.length
  · obtain ⟨ad, y, rfl, hadb, hy, hyl, hcell⟩ := Es.get (K := 2) (fun _ => rfl) (by decide) (HE.out.below HB.out (Nat.le_refl _)) hlt
    have d0 := hcell 0 _ rfl
    rw [Nat.add_zero] at d0
    have d1 := hcell 1 _ rfl
    rw [add_add _ _ _ (by omega)] at d1
    have b1 : (0 : Int) ≤ (k : Int) := by omega
    have b2 : (k : Int) < l.length := by omega
    obtain ⟨D, U, hD, hU, K2, hb2⟩ := (show Mem w wr [] from ⟨fun p hp => (by cases hp), HB.out⟩).one (enQ y) 57
    have c0 := K2.out.cell (b := D) (cs := enQ y) (t := 57) (by simp) (k := 0) rfl
    have c1 := K2.out.cell (b := D) (cs := enQ y) (t := 57) (by simp) (k := 1) rfl
    have HC := hid (H.out y hyl _ K2.out.2)
    clear hcell
    go_wp2_with fail
    refine HC.out.mono ?_
    rintro e w2 ⟨y', rfl, hr, he, b3⟩
    have hsz := K2.out.2.size
    have O2 := hid (own_below (own_below HO.out hb2) b3)
    have hB2 := K2.out.2.trans (b3.mono hsz)
    have hsz2 := hB2.size
    have HE2 := hid (show ∀ z ∈ l' ++ [y'], E w.heap.size z w2 from fun z hz => by
     rcases List.mem_append.1 hz with h1 | h1
     · exact S.keep _ _ _ _ (HA.out z h1) ((Abv.of hb2).trans (Abv.of b3))
     · rw [List.mem_singleton] at h1
       subst h1
       exact S.low _ _ _ _ he hsz)
    have hn3 : k + 1 ≤ maxLen := by omega
    have hn4 : (k + 1) * 40 ≤ 140737488355328 := by omega
    have HR2 := hid (show ∀ (j : Nat) (z z' : PsA), l[j]? = some z → (l' ++ [y'])[j]? = some z' → R z z' from fun j z z' h1 h2 => by
     rcases Nat.lt_or_ge j k with h3 | h3
     · rw [List.getElem?_append_left (by rw [HL.out]; exact h3)] at h2
       exact HR.out j z z' h1 h2
     · have h4 := (List.getElem?_eq_some_iff.1 h2).1
       rw [List.length_append, HL.out] at h4
       have h5 : j = k := by simp only [List.length_singleton] at h4; omega
       subst h5
       rw [List.getElem?_append_right (by rw [HL.out]; omega), HL.out, Nat.sub_self] at h2
       have e1 := hy.out
       rw [h1] at e1
       injection e1 with e1
       injection h2 with h2
       rw [e1, ← h2]
       exact hr)
    clear d0 c0 d1 c1 HC HO HR HA he b3 hr K2 hb2 hD hU
    go_wp2_with (at_builtin; refine wpList_append_own _ rfl _ _ 26 rfl w.heap.size 57 i0 (.agg #[.string ⟨#[]⟩, .slice none 0 0]) 2 40 Tryz.underlying26 hi0 hz0 hz1 hz2 rfl (by decide) _ _ _ rfl (O2.out.alloc _) ⟨_, 0, none⟩ 1 1 (enQ y') rfl rfl (elit_get _ _ _) (one17_Person _) hn3 hn4 (le_alloc hsz2 _) ?_; intro v1 w5 hown2 hgrow _)
    have ba := Below.alloc (Below.refl w2.heap.size w2) (Nat.le_refl _) (.cells (enQ y').toArray 57)
    refine ⟨⟨k + 1, l' ++ [y'], by go_num, by omega, ?_, hid (by rw [List.length_append, HL.out]; rfl), HR2, hid (fun z hz => S.grow _ _ _ _ _ _ _ _ (S.keep _ _ _ _ (HE2.out z hz) (Abv.of ba)) (O2.out.alloc _) hgrow), hid ((hB2.trans (ba.mono hsz2)).grown hgrow (le_alloc hsz2 _) (fun k hk => (O2.out.lt k hk).1))⟩, by simp [intOf]; omega⟩
    rw [ecells_snoc]
    exact hid hown2
  · obtain rfl : k = l.length := by omega
    have b2 : ¬ (l.length : Int) < l.length := by omega
    go_wp2_with fail
    go_ret
    exact ⟨_, l', rfl, HO.out, HL.out, HR.out, HA.out, HB.out⟩
theorem one17_Class (x : ClA) : ∀ u ∈ enC x, u.oneCell' = true := fun u hu => by
 simp only [enC, List.mem_cons, List.not_mem_nil, or_false] at hu
 rcases hu with rfl | rfl | rfl | rfl | rfl | rfl | rfl <;> rfl
set_option maxRecDepth 20000 in
set_option maxHeartbeats 4000000 in
theorem p_eachClass (A : Option Addr) (c : Nat) (l : List ClA) (hm : l.length * 112 ≤ 140737488355328) (R : ClA → ClA → Prop) (E : ElQ ClA) (S : ElOk E 62 7) (w : World) (h : Es enC w w.heap.size A l)
    (H : ∀ y ∈ l, ∀ X, Below w.heap.size w X → Calls Tryz.prog 76 #[cvA y] X (ElRet (fun y => cvA y) R E y X)) :
    Calls Tryz.prog 75 #[.slice A l.length c, .func (.func 76) #[] #[]] w (EaRet enC 62 7 R E l w) := by
 have H := hid H
 have HE := hid h
 clear h
 have q0 : 112 * l.length ≤ 281474976710656 := by omega
 have q1 : l.length ≤ maxLen := by unfold maxLen; omega
 obtain ⟨i0, hi0, hz0, hz1, hz2⟩ := info_parts Tryz.inf17_class
 have q0 : i0.bytes * l.length ≤ 281474976710656 := by rw [hz2]; exact q0
 go_enter Tryz.func75, Tryz.ntmps75
 go_wp2_with (at_make; refine wpList_make_own _ rfl _ _ 27 rfl w.heap.size 62 i0 (.agg #[.string ⟨#[]⟩, .int .i64 0, .int .u16 0, .slice none 0 0, .slice none 0 0, .slice none 0 0, .int .i64 0]) 7 Tryz.underlying27 hi0 hz0 hz1 .i64 .i64 (l.length : Int) l.length rfl rfl rfl q0 q1 (Nat.le_refl _) ?_; intro w1 hown hgrow; have hb := hid ((Below.refl w.heap.size w).grown hgrow (Nat.le_refl _) (fun k hk => by cases hk)); have hown := hid hown; clear hgrow)
 go_loopw [5, 13] (fun v iv wr => ∃ (k : Nat) (l' : List ClA), iv = .int .i64 ((k : Nat) : Int) ∧ k ≤ l.length ∧ Hid (wr.ownsRow w.heap.size 62 7 v k (ecells enC l')) ∧ Hid (l'.length = k) ∧ Hid (∀ (j : Nat) (y y' : ClA), l[j]? = some y → l'[j]? = some y' → R y y') ∧ Hid (∀ y' ∈ l', E w.heap.size y' wr) ∧ Hid (Below w.heap.size w wr)) (fun _ i _ => l.length - (intOf i).toNat)
 case atStart => exact ⟨0, [], rfl, Nat.zero_le _, hown, rfl, fun j y y' _ h => by simp at h, fun y' h => (by cases h), hb⟩
 case round =>
  clear hown hb
  obtain ⟨k, l', rfl, hk, HO, HL, HR, HA, HB⟩ := hrel
  by_cases hlt : k < l.length
  · obtain ⟨ad, y, rfl, hadb, hy, hyl, hcell⟩ := Es.get (K := 7) (fun _ => rfl) (by decide) (HE.out.below HB.out (Nat.le_refl _)) hlt
    have d0 := hcell 0 _ rfl
    rw [Nat.add_zero] at d0
    have d1 := hcell 1 _ rfl
    rw [add_add _ _ _ (by omega)] at d1
    have d2 := hcell 2 _ rfl
    rw [add_add _ _ _ (by omega)] at d2
    have d3 := hcell 3 _ rfl
    rw [add_add _ _ _ (by omega)] at d3
    have d4 := hcell 4 _ rfl
    rw [add_add _ _ _ (by omega)] at d4
    have d5 := hcell 5 _ rfl
    rw [add_add _ _ _ (by omega)] at d5
    have d6 := hcell 6 _ rfl
    rw [add_add _ _ _ (by omega)] at d6
    have b1 : (0 : Int) ≤ (k : Int) := by omega
    have b2 : (k : Int) < l.length := by omega
    obtain ⟨D, U, hD, hU, K2, hb2⟩ := (show Mem w wr [] from ⟨fun p hp => (by cases hp), HB.out⟩).one (enC y) 62
    have c0 := K2.out.cell (b := D) (cs := enC y) (t := 62) (by simp) (k := 0) rfl
    have c1 := K2.out.cell (b := D) (cs := enC y) (t := 62) (by simp) (k := 1) rfl
    have c2 := K2.out.cell (b := D) (cs := enC y) (t := 62) (by simp) (k := 2) rfl
    have c3 := K2.out.cell (b := D) (cs := enC y) (t := 62) (by simp) (k := 3) rfl
    have c4 := K2.out.cell (b := D) (cs := enC y) (t := 62) (by simp) (k := 4) rfl
    have c5 := K2.out.cell (b := D) (cs := enC y) (t := 62) (by simp) (k := 5) rfl
    have c6 := K2.out.cell (b := D) (cs := enC y) (t := 62) (by simp) (k := 6) rfl
    have HC := hid (H.out y hyl _ K2.out.2)
    clear hcell
    go_wp2_with fail
    refine HC.out.mono ?_
    rintro e w2 ⟨y', rfl, hr, he, b3⟩
    have hsz := K2.out.2.size
    have O2 := hid (own_below (own_below HO.out hb2) b3)
    have hB2 := K2.out.2.trans (b3.mono hsz)
    have hsz2 := hB2.size
    have HE2 := hid (show ∀ z ∈ l' ++ [y'], E w.heap.size z w2 from fun z hz => by
     rcases List.mem_append.1 hz with h1 | h1
     · exact S.keep _ _ _ _ (HA.out z h1) ((Abv.of hb2).trans (Abv.of b3))
     · rw [List.mem_singleton] at h1
       subst h1
       exact S.low _ _ _ _ he hsz)
    have hn3 : k + 1 ≤ maxLen := by omega
    have hn4 : (k + 1) * 112 ≤ 140737488355328 := by omega
    have HR2 := hid (show ∀ (j : Nat) (z z' : ClA), l[j]? = some z → (l' ++ [y'])[j]? = some z' → R z z' from fun j z z' h1 h2 => by
     rcases Nat.lt_or_ge j k with h3 | h3
     · rw [List.getElem?_append_left (by rw [HL.out]; exact h3)] at h2
       exact HR.out j z z' h1 h2
     · have h4 := (List.getElem?_eq_some_iff.1 h2).1
       rw [List.length_append, HL.out] at h4
       have h5 : j = k := by simp only [List.length_singleton] at h4; omega
       subst h5
       rw [List.getElem?_append_right (by rw [HL.out]; omega), HL.out, Nat.sub_self] at h2
       have e1 := hy.out
       rw [h1] at e1
       injection e1 with e1
       injection h2 with h2
       rw [e1, ← h2]
       exact hr)
    clear d0 c0 d1 c1 d2 c2 d3 c3 d4 c4 d5 c5 d6 c6 HC HO HR HA he b3 hr K2 hb2 hD hU
    go_wp2_with (at_builtin; refine wpList_append_own _ rfl _ _ 27 rfl w.heap.size 62 i0 (.agg #[.string ⟨#[]⟩, .int .i64 0, .int .u16 0, .slice none 0 0, .slice none 0 0, .slice none 0 0, .int .i64 0]) 7 112 Tryz.underlying27 hi0 hz0 hz1 hz2 rfl (by decide) _ _ _ rfl (O2.out.alloc _) ⟨_, 0, none⟩ 1 1 (enC y') rfl rfl (elit_get _ _ _) (one17_Class _) hn3 hn4 (le_alloc hsz2 _) ?_; intro v1 w5 hown2 hgrow _)
    have ba := Below.alloc (Below.refl w2.heap.size w2) (Nat.le_refl _) (.cells (enC y').toArray 62)
    refine ⟨⟨k + 1, l' ++ [y'], by go_num, by omega, ?_, hid (by rw [List.length_append, HL.out]; rfl), HR2, hid (fun z hz => S.grow _ _ _ _ _ _ _ _ (S.keep _ _ _ _ (HE2.out z hz) (Abv.of ba)) (O2.out.alloc _) hgrow), hid ((hB2.trans (ba.mono hsz2)).grown hgrow (le_alloc hsz2 _) (fun k hk => (O2.out.lt k hk).1))⟩, by simp [intOf]; omega⟩
    rw [ecells_snoc]
    exact hid hown2
  · obtain rfl : k = l.length := by omega
    have b2 : ¬ (l.length : Int) < l.length := by omega
    go_wp2_with fail
    go_ret
    exact ⟨_, l', rfl, HO.out, HL.out, HR.out, HA.out, HB.out⟩
theorem one17_Course (x : CsA) : ∀ u ∈ enK x, u.oneCell' = true := fun u hu => by
 simp only [enK, List.mem_cons, List.not_mem_nil, or_false] at hu
 rcases hu with rfl | rfl <;> rfl
set_option maxRecDepth 20000 in
set_option maxHeartbeats 4000000 in
theorem p_eachCourse (A : Option Addr) (c : Nat) (l : List CsA) (hm : l.length * 40 ≤ 140737488355328) (R : CsA → CsA → Prop) (E : ElQ CsA) (S : ElOk E 65 2) (w : World) (h : Es enK w w.heap.size A l)
    (H : ∀ y ∈ l, ∀ X, Below w.heap.size w X → Calls Tryz.prog 78 #[csvA y] X (ElRet (fun y => csvA y) R E y X)) :
    Calls Tryz.prog 77 #[.slice A l.length c, .func (.func 78) #[] #[]] w (EaRet enK 65 2 R E l w) := by
 have H := hid H
 have HE := hid h
 clear h
 have q0 : 40 * l.length ≤ 281474976710656 := by omega
 have q1 : l.length ≤ maxLen := by unfold maxLen; omega
 obtain ⟨i0, hi0, hz0, hz1, hz2⟩ := info_parts Tryz.inf17_course
 have q0 : i0.bytes * l.length ≤ 281474976710656 := by rw [hz2]; exact q0
 go_enter Tryz.func77, Tryz.ntmps77
 go_wp2_with (at_make; refine wpList_make_own _ rfl _ _ 28 rfl w.heap.size 65 i0 (.agg #[.string ⟨#[]⟩, .slice none 0 0]) 2 Tryz.underlying28 hi0 hz0 hz1 .i64 .i64 (l.length : Int) l.length rfl rfl rfl q0 q1 (Nat.le_refl _) ?_; intro w1 hown hgrow; have hb := hid ((Below.refl w.heap.size w).grown hgrow (Nat.le_refl _) (fun k hk => by cases hk)); have hown := hid hown; clear hgrow)
 go_loopw [5, 13] (fun v iv wr => ∃ (k : Nat) (l' : List CsA), iv = .int .i64 ((k : Nat) : Int) ∧ k ≤ l.length ∧ Hid (wr.ownsRow w.heap.size 65 2 v k (ecells enK l')) ∧ Hid (l'.length = k) ∧ Hid (∀ (j : Nat) (y y' : CsA), l[j]? = some y → l'[j]? = some y' → R y y') ∧ Hid (∀ y' ∈ l', E w.heap.size y' wr) ∧ Hid (Below w.heap.size w wr)) (fun _ i _ => l.length - (intOf i).toNat)
 case atStart => exact ⟨0, [], rfl, Nat.zero_le _, hown, rfl, fun j y y' _ h => by simp at h, fun y' h => (by cases h), hb⟩
 case round =>
  clear hown hb
  obtain ⟨k, l', rfl, hk, HO, HL, HR, HA, HB⟩ := hrel
  by_cases hlt : k < l.length
  · obtain ⟨ad, y, rfl, hadb, hy, hyl, hcell⟩ := Es.get (K := 2) (fun _ => rfl) (by decide) (HE.out.below HB.out (Nat.le_refl _)) hlt
    have d0 := hcell 0 _ rfl
    rw [Nat.add_zero] at d0
    have d1 := hcell 1 _ rfl
    rw [add_add _ _ _ (by omega)] at d1
    have b1 : (0 : Int) ≤ (k : Int) := by omega
    have b2 : (k : Int) < l.length := by omega
    obtain ⟨D, U, hD, hU, K2, hb2⟩ := (show Mem w wr [] from ⟨fun p hp => (by cases hp), HB.out⟩).one (enK y) 65
    have c0 := K2.out.cell (b := D) (cs := enK y) (t := 65) (by simp) (k := 0) rfl
    have c1 := K2.out.cell (b := D) (cs := enK y) (t := 65) (by simp) (k := 1) rfl
    have HC := hid (H.out y hyl _ K2.out.2)
    clear hcell
    go_wp2_with fail
    refine HC.out.mono ?_
    rintro e w2 ⟨y', rfl, hr, he, b3⟩
    have hsz := K2.out.2.size
    have O2 := hid (own_below (own_below HO.out hb2) b3)
    have hB2 := K2.out.2.trans (b3.mono hsz)
    have hsz2 := hB2.size
    have HE2 := hid (show ∀ z ∈ l' ++ [y'], E w.heap.size z w2 from fun z hz => by
     rcases List.mem_append.1 hz with h1 | h1
     · exact S.keep _ _ _ _ (HA.out z h1) ((Abv.of hb2).trans (Abv.of b3))
     · rw [List.mem_singleton] at h1
       subst h1
       exact S.low _ _ _ _ he hsz)
    have hn3 : k + 1 ≤ maxLen := by omega
    have hn4 : (k + 1) * 40 ≤ 140737488355328 := by omega
    have HR2 := hid (show ∀ (j : Nat) (z z' : CsA), l[j]? = some z → (l' ++ [y'])[j]? = some z' → R z z' from fun j z z' h1 h2 => by
     rcases Nat.lt_or_ge j k with h3 | h3
     · rw [List.getElem?_append_left (by rw [HL.out]; exact h3)] at h2
       exact HR.out j z z' h1 h2
     · have h4 := (List.getElem?_eq_some_iff.1 h2).1
       rw [List.length_append, HL.out] at h4
       have h5 : j = k := by simp only [List.length_singleton] at h4; omega
       subst h5
       rw [List.getElem?_append_right (by rw [HL.out]; omega), HL.out, Nat.sub_self] at h2
       have e1 := hy.out
       rw [h1] at e1
       injection e1 with e1
       injection h2 with h2
       rw [e1, ← h2]
       exact hr)
    clear d0 c0 d1 c1 HC HO HR HA he b3 hr K2 hb2 hD hU
    go_wp2_with (at_builtin; refine wpList_append_own _ rfl _ _ 28 rfl w.heap.size 65 i0 (.agg #[.string ⟨#[]⟩, .slice none 0 0]) 2 40 Tryz.underlying28 hi0 hz0 hz1 hz2 rfl (by decide) _ _ _ rfl (O2.out.alloc _) ⟨_, 0, none⟩ 1 1 (enK y') rfl rfl (elit_get _ _ _) (one17_Course _) hn3 hn4 (le_alloc hsz2 _) ?_; intro v1 w5 hown2 hgrow _)
    have ba := Below.alloc (Below.refl w2.heap.size w2) (Nat.le_refl _) (.cells (enK y').toArray 65)
    refine ⟨⟨k + 1, l' ++ [y'], by go_num, by omega, ?_, hid (by rw [List.length_append, HL.out]; rfl), HR2, hid (fun z hz => S.grow _ _ _ _ _ _ _ _ (S.keep _ _ _ _ (HE2.out z hz) (Abv.of ba)) (O2.out.alloc _) hgrow), hid ((hB2.trans (ba.mono hsz2)).grown hgrow (le_alloc hsz2 _) (fun k hk => (O2.out.lt k hk).1))⟩, by simp [intOf]; omega⟩
    rw [ecells_snoc]
    exact hid hown2
  · obtain rfl : k = l.length := by omega
    have b2 : ¬ (l.length : Int) < l.length := by omega
    go_wp2_with fail
    go_ret
    exact ⟨_, l', rfl, HO.out, HL.out, HR.out, HA.out, HB.out⟩
theorem one17_Student (x : StA) : ∀ u ∈ enS x, u.oneCell' = true := fun u hu => by
 simp only [enS, List.mem_cons, List.not_mem_nil, or_false] at hu
 rcases hu with rfl | rfl <;> rfl
set_option maxRecDepth 20000 in
set_option maxHeartbeats 4000000 in
theorem p_eachStudent (A : Option Addr) (c : Nat) (l : List StA) (hm : l.length * 40 ≤ 140737488355328) (R : StA → StA → Prop) (E : ElQ StA) (S : ElOk E 70 2) (w : World) (h : Es enS w w.heap.size A l)
    (H : ∀ y ∈ l, ∀ X, Below w.heap.size w X → Calls Tryz.prog 80 #[stv y.x y.a y.c] X (ElRet (fun y => stv y.x y.a y.c) R E y X)) :
    Calls Tryz.prog 79 #[.slice A l.length c, .func (.func 80) #[] #[]] w (EaRet enS 70 2 R E l w) := by
 have H := hid H
 have HE := hid h
 clear h
 have q0 : 40 * l.length ≤ 281474976710656 := by omega
 have q1 : l.length ≤ maxLen := by unfold maxLen; omega
 obtain ⟨i0, hi0, hz0, hz1, hz2⟩ := info_parts Tryz.inf17_student
 have q0 : i0.bytes * l.length ≤ 281474976710656 := by rw [hz2]; exact q0
 go_enter Tryz.func79, Tryz.ntmps79
 go_wp2_with (at_make; refine wpList_make_own _ rfl _ _ 29 rfl w.heap.size 70 i0 (.agg #[.string ⟨#[]⟩, .slice none 0 0]) 2 Tryz.underlying29 hi0 hz0 hz1 .i64 .i64 (l.length : Int) l.length rfl rfl rfl q0 q1 (Nat.le_refl _) ?_; intro w1 hown hgrow; have hb := hid ((Below.refl w.heap.size w).grown hgrow (Nat.le_refl _) (fun k hk => by cases hk)); have hown := hid hown; clear hgrow)
 go_loopw [5, 13] (fun v iv wr => ∃ (k : Nat) (l' : List StA), iv = .int .i64 ((k : Nat) : Int) ∧ k ≤ l.length ∧ Hid (wr.ownsRow w.heap.size 70 2 v k (ecells enS l')) ∧ Hid (l'.length = k) ∧ Hid (∀ (j : Nat) (y y' : StA), l[j]? = some y → l'[j]? = some y' → R y y') ∧ Hid (∀ y' ∈ l', E w.heap.size y' wr) ∧ Hid (Below w.heap.size w wr)) (fun _ i _ => l.length - (intOf i).toNat)
 case atStart => exact ⟨0, [], rfl, Nat.zero_le _, hown, rfl, fun j y y' _ h => by simp at h, fun y' h => (by cases h), hb⟩
 case round =>
  clear hown hb
  obtain ⟨k, l', rfl, hk, HO, HL, HR, HA, HB⟩ := hrel
  by_cases hlt : k < l.length
  · obtain ⟨ad, y, rfl, hadb, hy, hyl, hcell⟩ := Es.get (K := 2) (fun _ => rfl) (by decide) (HE.out.below HB.out (Nat.le_refl _)) hlt
    have d0 := hcell 0 _ rfl
    rw [Nat.add_zero] at d0
    have d1 := hcell 1 _ rfl
    rw [add_add _ _ _ (by omega)] at d1
    have b1 : (0 : Int) ≤ (k : Int) := by omega
    have b2 : (k : Int) < l.length := by omega
    obtain ⟨D, U, hD, hU, K2, hb2⟩ := (show Mem w wr [] from ⟨fun p hp => (by cases hp), HB.out⟩).one (enS y) 70
    have c0 := K2.out.cell (b := D) (cs := enS y) (t := 70) (by simp) (k := 0) rfl
    have c1 := K2.out.cell (b := D) (cs := enS y) (t := 70) (by simp) (k := 1) rfl
    have HC := hid (H.out y hyl _ K2.out.2)
    clear hcell
    go_wp2_with fail
    refine HC.out.mono ?_
    rintro e w2 ⟨y', rfl, hr, he, b3⟩
    have hsz := K2.out.2.size
    have O2 := hid (own_below (own_below HO.out hb2) b3)
    have hB2 := K2.out.2.trans (b3.mono hsz)
    have hsz2 := hB2.size
    have HE2 := hid (show ∀ z ∈ l' ++ [y'], E w.heap.size z w2 from fun z hz => by
     rcases List.mem_append.1 hz with h1 | h1
     · exact S.keep _ _ _ _ (HA.out z h1) ((Abv.of hb2).trans (Abv.of b3))
     · rw [List.mem_singleton] at h1
       subst h1
       exact S.low _ _ _ _ he hsz)
    have hn3 : k + 1 ≤ maxLen := by omega
    have hn4 : (k + 1) * 40 ≤ 140737488355328 := by omega
    have HR2 := hid (show ∀ (j : Nat) (z z' : StA), l[j]? = some z → (l' ++ [y'])[j]? = some z' → R z z' from fun j z z' h1 h2 => by
     rcases Nat.lt_or_ge j k with h3 | h3
     · rw [List.getElem?_append_left (by rw [HL.out]; exact h3)] at h2
       exact HR.out j z z' h1 h2
     · have h4 := (List.getElem?_eq_some_iff.1 h2).1
       rw [List.length_append, HL.out] at h4
       have h5 : j = k := by simp only [List.length_singleton] at h4; omega
       subst h5
       rw [List.getElem?_append_right (by rw [HL.out]; omega), HL.out, Nat.sub_self] at h2
       have e1 := hy.out
       rw [h1] at e1
       injection e1 with e1
       injection h2 with h2
       rw [e1, ← h2]
       exact hr)
    clear d0 c0 d1 c1 HC HO HR HA he b3 hr K2 hb2 hD hU
    go_wp2_with (at_builtin; refine wpList_append_own _ rfl _ _ 29 rfl w.heap.size 70 i0 (.agg #[.string ⟨#[]⟩, .slice none 0 0]) 2 40 Tryz.underlying29 hi0 hz0 hz1 hz2 rfl (by decide) _ _ _ rfl (O2.out.alloc _) ⟨_, 0, none⟩ 1 1 (enS y') rfl rfl (elit_get _ _ _) (one17_Student _) hn3 hn4 (le_alloc hsz2 _) ?_; intro v1 w5 hown2 hgrow _)
    have ba := Below.alloc (Below.refl w2.heap.size w2) (Nat.le_refl _) (.cells (enS y').toArray 70)
    refine ⟨⟨k + 1, l' ++ [y'], by go_num, by omega, ?_, hid (by rw [List.length_append, HL.out]; rfl), HR2, hid (fun z hz => S.grow _ _ _ _ _ _ _ _ (S.keep _ _ _ _ (HE2.out z hz) (Abv.of ba)) (O2.out.alloc _) hgrow), hid ((hB2.trans (ba.mono hsz2)).grown hgrow (le_alloc hsz2 _) (fun k hk => (O2.out.lt k hk).1))⟩, by simp [intOf]; omega⟩
    rw [ecells_snoc]
    exact hid hown2
  · obtain rfl : k = l.length := by omega
    have b2 : ¬ (l.length : Int) < l.length := by omega
    go_wp2_with fail
    go_ret
    exact ⟨_, l', rfl, HO.out, HL.out, HR.out, HA.out, HB.out⟩
theorem one17_Rule (x : RlA) : ∀ u ∈ enU x, u.oneCell' = true := fun u hu => by
 simp only [enU, List.mem_cons, List.not_mem_nil, or_false] at hu
 rcases hu with rfl | rfl | rfl | rfl | rfl | rfl <;> rfl
set_option maxRecDepth 20000 in
set_option maxHeartbeats 4000000 in
theorem p_eachRule (A : Option Addr) (c : Nat) (l : List RlA) (hm : l.length * 64 ≤ 140737488355328) (R : RlA → RlA → Prop) (E : ElQ RlA) (S : ElOk E 45 6) (w : World) (h : Es enU w w.heap.size A l)
    (H : ∀ y ∈ l, ∀ X, Below w.heap.size w X → Calls Tryz.prog 82 #[rlv y.x y.r y.c] X (ElRet (fun y => rlv y.x y.r y.c) R E y X)) :
    Calls Tryz.prog 81 #[.slice A l.length c, .func (.func 82) #[] #[]] w (EaRet enU 45 6 R E l w) := by
 have H := hid H
 have HE := hid h
 clear h
 have q0 : 64 * l.length ≤ 281474976710656 := by omega
 have q1 : l.length ≤ maxLen := by unfold maxLen; omega
 obtain ⟨i0, hi0, hz0, hz1, hz2⟩ := info_parts Tryz.inf17_rule
 have q0 : i0.bytes * l.length ≤ 281474976710656 := by rw [hz2]; exact q0
 go_enter Tryz.func81, Tryz.ntmps81
 go_wp2_with (at_make; refine wpList_make_own _ rfl _ _ 30 rfl w.heap.size 45 i0 (.agg #[.int .i64 0, .slice none 0 0, .int .i64 0, .int .i64 0, .bool false, .int .i64 0]) 6 Tryz.underlying30 hi0 hz0 hz1 .i64 .i64 (l.length : Int) l.length rfl rfl rfl q0 q1 (Nat.le_refl _) ?_; intro w1 hown hgrow; have hb := hid ((Below.refl w.heap.size w).grown hgrow (Nat.le_refl _) (fun k hk => by cases hk)); have hown := hid hown; clear hgrow)
 go_loopw [5, 13] (fun v iv wr => ∃ (k : Nat) (l' : List RlA), iv = .int .i64 ((k : Nat) : Int) ∧ k ≤ l.length ∧ Hid (wr.ownsRow w.heap.size 45 6 v k (ecells enU l')) ∧ Hid (l'.length = k) ∧ Hid (∀ (j : Nat) (y y' : RlA), l[j]? = some y → l'[j]? = some y' → R y y') ∧ Hid (∀ y' ∈ l', E w.heap.size y' wr) ∧ Hid (Below w.heap.size w wr)) (fun _ i _ => l.length - (intOf i).toNat)
 case atStart => exact ⟨0, [], rfl, Nat.zero_le _, hown, rfl, fun j y y' _ h => by simp at h, fun y' h => (by cases h), hb⟩
 case round =>
  clear hown hb
  obtain ⟨k, l', rfl, hk, HO, HL, HR, HA, HB⟩ := hrel
  by_cases hlt : k < l.length
  · obtain ⟨ad, y, rfl, hadb, hy, hyl, hcell⟩ := Es.get (K := 6) (fun _ => rfl) (by decide) (HE.out.below HB.out (Nat.le_refl _)) hlt
    have d0 := hcell 0 _ rfl
    rw [Nat.add_zero] at d0
    have d1 := hcell 1 _ rfl
    rw [add_add _ _ _ (by omega)] at d1
    have d2 := hcell 2 _ rfl
    rw [add_add _ _ _ (by omega)] at d2
    have d3 := hcell 3 _ rfl
    rw [add_add _ _ _ (by omega)] at d3
    have d4 := hcell 4 _ rfl
    rw [add_add _ _ _ (by omega)] at d4
    have d5 := hcell 5 _ rfl
    rw [add_add _ _ _ (by omega)] at d5
    have b1 : (0 : Int) ≤ (k : Int) := by omega
    have b2 : (k : Int) < l.length := by omega
    obtain ⟨D, U, hD, hU, K2, hb2⟩ := (show Mem w wr [] from ⟨fun p hp => (by cases hp), HB.out⟩).one (enU y) 45
    have c0 := K2.out.cell (b := D) (cs := enU y) (t := 45) (by simp) (k := 0) rfl
    have c1 := K2.out.cell (b := D) (cs := enU y) (t := 45) (by simp) (k := 1) rfl
    have c2 := K2.out.cell (b := D) (cs := enU y) (t := 45) (by simp) (k := 2) rfl
    have c3 := K2.out.cell (b := D) (cs := enU y) (t := 45) (by simp) (k := 3) rfl
    have c4 := K2.out.cell (b := D) (cs := enU y) (t := 45) (by simp) (k := 4) rfl
    have c5 := K2.out.cell (b := D) (cs := enU y) (t := 45) (by simp) (k := 5) rfl
    have HC := hid (H.out y hyl _ K2.out.2)
    clear hcell
    go_wp2_with fail
    refine HC.out.mono ?_
    rintro e w2 ⟨y', rfl, hr, he, b3⟩
    have hsz := K2.out.2.size
    have O2 := hid (own_below (own_below HO.out hb2) b3)
    have hB2 := K2.out.2.trans (b3.mono hsz)
    have hsz2 := hB2.size
    have HE2 := hid (show ∀ z ∈ l' ++ [y'], E w.heap.size z w2 from fun z hz => by
     rcases List.mem_append.1 hz with h1 | h1
     · exact S.keep _ _ _ _ (HA.out z h1) ((Abv.of hb2).trans (Abv.of b3))
     · rw [List.mem_singleton] at h1
       subst h1
       exact S.low _ _ _ _ he hsz)
    have hn3 : k + 1 ≤ maxLen := by omega
    have hn4 : (k + 1) * 64 ≤ 140737488355328 := by omega
    have HR2 := hid (show ∀ (j : Nat) (z z' : RlA), l[j]? = some z → (l' ++ [y'])[j]? = some z' → R z z' from fun j z z' h1 h2 => by
     rcases Nat.lt_or_ge j k with h3 | h3
     · rw [List.getElem?_append_left (by rw [HL.out]; exact h3)] at h2
       exact HR.out j z z' h1 h2
     · have h4 := (List.getElem?_eq_some_iff.1 h2).1
       rw [List.length_append, HL.out] at h4
       have h5 : j = k := by simp only [List.length_singleton] at h4; omega
       subst h5
       rw [List.getElem?_append_right (by rw [HL.out]; omega), HL.out, Nat.sub_self] at h2
       have e1 := hy.out
       rw [h1] at e1
       injection e1 with e1
       injection h2 with h2
       rw [e1, ← h2]
       exact hr)
    clear d0 c0 d1 c1 d2 c2 d3 c3 d4 c4 d5 c5 HC HO HR HA he b3 hr K2 hb2 hD hU
    go_wp2_with (at_builtin; refine wpList_append_own _ rfl _ _ 30 rfl w.heap.size 45 i0 (.agg #[.int .i64 0, .slice none 0 0, .int .i64 0, .int .i64 0, .bool false, .int .i64 0]) 6 64 Tryz.underlying30 hi0 hz0 hz1 hz2 rfl (by decide) _ _ _ rfl (O2.out.alloc _) ⟨_, 0, none⟩ 1 1 (enU y') rfl rfl (elit_get _ _ _) (one17_Rule _) hn3 hn4 (le_alloc hsz2 _) ?_; intro v1 w5 hown2 hgrow _)
    have ba := Below.alloc (Below.refl w2.heap.size w2) (Nat.le_refl _) (.cells (enU y').toArray 45)
    refine ⟨⟨k + 1, l' ++ [y'], by go_num, by omega, ?_, hid (by rw [List.length_append, HL.out]; rfl), HR2, hid (fun z hz => S.grow _ _ _ _ _ _ _ _ (S.keep _ _ _ _ (HE2.out z hz) (Abv.of ba)) (O2.out.alloc _) hgrow), hid ((hB2.trans (ba.mono hsz2)).grown hgrow (le_alloc hsz2 _) (fun k hk => (O2.out.lt k hk).1))⟩, by simp [intOf]; omega⟩
    rw [ecells_snoc]
    exact hid hown2
  · obtain rfl : k = l.length := by omega
    have b2 : ¬ (l.length : Int) < l.length := by omega
    go_wp2_with fail
    go_ret
    exact ⟨_, l', rfl, HO.out, HL.out, HR.out, HA.out, HB.out⟩
theorem one17_Ints (x : ItA) : ∀ u ∈ enI x, u.oneCell' = true := fun u hu => by
 simp only [enI, List.mem_cons, List.not_mem_nil, or_false] at hu
 rcases hu with rfl <;> rfl
set_option maxRecDepth 20000 in
set_option maxHeartbeats 4000000 in
theorem p_eachInts (A : Option Addr) (c : Nat) (l : List ItA) (hm : l.length * 24 ≤ 140737488355328) (R : ItA → ItA → Prop) (E : ElQ ItA) (S : ElOk E 43 1) (w : World) (h : Es enI w w.heap.size A l)
    (H : ∀ y ∈ l, ∀ X, Below w.heap.size w X → Calls Tryz.prog 72 #[.slice y.a y.l.length y.c] X (ElRet (fun y => .slice y.a y.l.length y.c) R E y X)) :
    Calls Tryz.prog 71 #[.slice A l.length c, .func (.func 72) #[] #[]] w (EaRet enI 43 1 R E l w) := by
 have H := hid H
 have HE := hid h
 clear h
 have q0 : 24 * l.length ≤ 281474976710656 := by omega
 have q1 : l.length ≤ maxLen := by unfold maxLen; omega
 obtain ⟨i0, hi0, hz0, hz1, hz2⟩ := info_parts Tryz.inf17_ints
 have q0 : i0.bytes * l.length ≤ 281474976710656 := by rw [hz2]; exact q0
 go_enter Tryz.func71, Tryz.ntmps71
 go_wp2_with (at_make; refine wpList_make_own _ rfl _ _ 25 rfl w.heap.size 43 i0 (.slice none 0 0) 1 Tryz.underlying25 hi0 hz0 hz1 .i64 .i64 (l.length : Int) l.length rfl rfl rfl q0 q1 (Nat.le_refl _) ?_; intro w1 hown hgrow; have hb := hid ((Below.refl w.heap.size w).grown hgrow (Nat.le_refl _) (fun k hk => by cases hk)); have hown := hid hown; clear hgrow)
 go_loopw [5, 13] (fun v iv wr => ∃ (k : Nat) (l' : List ItA), iv = .int .i64 ((k : Nat) : Int) ∧ k ≤ l.length ∧ Hid (wr.ownsRow w.heap.size 43 1 v k (ecells enI l')) ∧ Hid (l'.length = k) ∧ Hid (∀ (j : Nat) (y y' : ItA), l[j]? = some y → l'[j]? = some y' → R y y') ∧ Hid (∀ y' ∈ l', E w.heap.size y' wr) ∧ Hid (Below w.heap.size w wr)) (fun _ i _ => l.length - (intOf i).toNat)
 case atStart => exact ⟨0, [], rfl, Nat.zero_le _, hown, rfl, fun j y y' _ h => by simp at h, fun y' h => (by cases h), hb⟩
 case round =>
  clear hown hb
  obtain ⟨k, l', rfl, hk, HO, HL, HR, HA, HB⟩ := hrel
  by_cases hlt : k < l.length
  · obtain ⟨ad, y, rfl, hadb, hy, hyl, hcell⟩ := Es.get (K := 1) (fun _ => rfl) (by decide) (HE.out.below HB.out (Nat.le_refl _)) hlt
    have d0 := hcell 0 _ rfl
    rw [Nat.add_zero, Nat.mul_one] at d0
    have b1 : (0 : Int) ≤ (k : Int) := by omega
    have b2 : (k : Int) < l.length := by omega
    have HC := hid (H.out y hyl _ HB.out)
    clear hcell
    go_wp2_with fail
    refine HC.out.mono ?_
    rintro e w2 ⟨y', rfl, hr, he, b3⟩
    have hsz := HB.out.size
    have O2 := hid (own_below HO.out b3)
    have hB2 := HB.out.trans (b3.mono hsz)
    have hsz2 := hB2.size
    have HE2 := hid (show ∀ z ∈ l' ++ [y'], E w.heap.size z w2 from fun z hz => by
     rcases List.mem_append.1 hz with h1 | h1
     · exact S.keep _ _ _ _ (HA.out z h1) (Abv.of b3)
     · rw [List.mem_singleton] at h1
       subst h1
       exact S.low _ _ _ _ he hsz)
    have hn3 : k + 1 ≤ maxLen := by omega
    have hn4 : (k + 1) * 24 ≤ 140737488355328 := by omega
    have HR2 := hid (show ∀ (j : Nat) (z z' : ItA), l[j]? = some z → (l' ++ [y'])[j]? = some z' → R z z' from fun j z z' h1 h2 => by
     rcases Nat.lt_or_ge j k with h3 | h3
     · rw [List.getElem?_append_left (by rw [HL.out]; exact h3)] at h2
       exact HR.out j z z' h1 h2
     · have h4 := (List.getElem?_eq_some_iff.1 h2).1
       rw [List.length_append, HL.out] at h4
       have h5 : j = k := by simp only [List.length_singleton] at h4; omega
       subst h5
       rw [List.getElem?_append_right (by rw [HL.out]; omega), HL.out, Nat.sub_self] at h2
       have e1 := hy.out
       rw [h1] at e1
       injection e1 with e1
       injection h2 with h2
       rw [e1, ← h2]
       exact hr)
    clear d0 HC HO HR HA he b3 hr
    go_wp2_with (at_builtin; refine wpList_append_own _ rfl _ _ 25 rfl w.heap.size 43 i0 (.slice none 0 0) 1 24 Tryz.underlying25 hi0 hz0 hz1 hz2 rfl (by decide) _ _ _ rfl (O2.out.alloc _) ⟨_, 0, none⟩ 1 1 (enI y') rfl rfl (elit_get _ _ _) (one17_Ints _) hn3 hn4 (le_alloc hsz2 _) ?_; intro v1 w5 hown2 hgrow _)
    have ba := Below.alloc (Below.refl w2.heap.size w2) (Nat.le_refl _) (.cells (enI y').toArray 43)
    refine ⟨⟨k + 1, l' ++ [y'], by go_num, by omega, ?_, hid (by rw [List.length_append, HL.out]; rfl), HR2, hid (fun z hz => S.grow _ _ _ _ _ _ _ _ (S.keep _ _ _ _ (HE2.out z hz) (Abv.of ba)) (O2.out.alloc _) hgrow), hid ((hB2.trans (ba.mono hsz2)).grown hgrow (le_alloc hsz2 _) (fun k hk => (O2.out.lt k hk).1))⟩, by simp [intOf]; omega⟩
    rw [ecells_snoc]
    exact hid hown2
  · obtain rfl : k = l.length := by omega
    have b2 : ¬ (l.length : Int) < l.length := by omega
    go_wp2_with fail
    go_ret
    exact ⟨_, l', rfl, HO.out, HL.out, HR.out, HA.out, HB.out⟩
theorem one17_Way (x : WyA) : ∀ u ∈ enW x, u.oneCell' = true := fun u hu => by
 simp only [enW, List.mem_cons, List.not_mem_nil, or_false] at hu
 rcases hu with rfl <;> rfl
set_option maxRecDepth 20000 in
set_option maxHeartbeats 4000000 in
theorem p_eachWay (A : Option Addr) (c : Nat) (l : List WyA) (hm : l.length * 24 ≤ 140737488355328) (R : WyA → WyA → Prop) (E : ElQ WyA) (S : ElOk E 67 1) (w : World) (h : Es enW w w.heap.size A l)
    (H : ∀ y ∈ l, ∀ X, Below w.heap.size w X → Calls Tryz.prog 154 #[.agg #[.slice y.a y.l.length y.c]] X (ElRet (fun y => .agg #[.slice y.a y.l.length y.c]) R E y X)) :
    Calls Tryz.prog 153 #[.slice A l.length c, .func (.func 154) #[] #[]] w (EaRet enW 67 1 R E l w) := by
 have H := hid H
 have HE := hid h
 clear h
 have q0 : 24 * l.length ≤ 281474976710656 := by omega
 have q1 : l.length ≤ maxLen := by unfold maxLen; omega
 obtain ⟨i0, hi0, hz0, hz1, hz2⟩ := info_parts Tryz.inf17_way
 have q0 : i0.bytes * l.length ≤ 281474976710656 := by rw [hz2]; exact q0
 go_enter Tryz.func153, Tryz.ntmps153
 go_wp2_with (at_make; refine wpList_make_own _ rfl _ _ 63 rfl w.heap.size 67 i0 (.agg #[.slice none 0 0]) 1 Tryz.underlying63 hi0 hz0 hz1 .i64 .i64 (l.length : Int) l.length rfl rfl rfl q0 q1 (Nat.le_refl _) ?_; intro w1 hown hgrow; have hb := hid ((Below.refl w.heap.size w).grown hgrow (Nat.le_refl _) (fun k hk => by cases hk)); have hown := hid hown; clear hgrow)
 go_loopw [5, 13] (fun v iv wr => ∃ (k : Nat) (l' : List WyA), iv = .int .i64 ((k : Nat) : Int) ∧ k ≤ l.length ∧ Hid (wr.ownsRow w.heap.size 67 1 v k (ecells enW l')) ∧ Hid (l'.length = k) ∧ Hid (∀ (j : Nat) (y y' : WyA), l[j]? = some y → l'[j]? = some y' → R y y') ∧ Hid (∀ y' ∈ l', E w.heap.size y' wr) ∧ Hid (Below w.heap.size w wr)) (fun _ i _ => l.length - (intOf i).toNat)
 case atStart => exact ⟨0, [], rfl, Nat.zero_le _, hown, rfl, fun j y y' _ h => by simp at h, fun y' h => (by cases h), hb⟩
 case round =>
  clear hown hb
  obtain ⟨k, l', rfl, hk, HO, HL, HR, HA, HB⟩ := hrel
  by_cases hlt : k < l.length
  · obtain ⟨ad, y, rfl, hadb, hy, hyl, hcell⟩ := Es.get (K := 1) (fun _ => rfl) (by decide) (HE.out.below HB.out (Nat.le_refl _)) hlt
    have d0 := hcell 0 _ rfl
    rw [Nat.add_zero, Nat.mul_one] at d0
    have b1 : (0 : Int) ≤ (k : Int) := by omega
    have b2 : (k : Int) < l.length := by omega
    obtain ⟨D, U, hD, hU, K2, hb2⟩ := (show Mem w wr [] from ⟨fun p hp => (by cases hp), HB.out⟩).one (enW y) 67
    have c0 := K2.out.cell (b := D) (cs := enW y) (t := 67) (by simp) (k := 0) rfl
    have HC := hid (H.out y hyl _ K2.out.2)
    clear hcell
    go_wp2_with fail
    refine HC.out.mono ?_
    rintro e w2 ⟨y', rfl, hr, he, b3⟩
    have hsz := K2.out.2.size
    have O2 := hid (own_below (own_below HO.out hb2) b3)
    have hB2 := K2.out.2.trans (b3.mono hsz)
    have hsz2 := hB2.size
    have HE2 := hid (show ∀ z ∈ l' ++ [y'], E w.heap.size z w2 from fun z hz => by
     rcases List.mem_append.1 hz with h1 | h1
     · exact S.keep _ _ _ _ (HA.out z h1) ((Abv.of hb2).trans (Abv.of b3))
     · rw [List.mem_singleton] at h1
       subst h1
       exact S.low _ _ _ _ he hsz)
    have hn3 : k + 1 ≤ maxLen := by omega
    have hn4 : (k + 1) * 24 ≤ 140737488355328 := by omega
    have HR2 := hid (show ∀ (j : Nat) (z z' : WyA), l[j]? = some z → (l' ++ [y'])[j]? = some z' → R z z' from fun j z z' h1 h2 => by
     rcases Nat.lt_or_ge j k with h3 | h3
     · rw [List.getElem?_append_left (by rw [HL.out]; exact h3)] at h2
       exact HR.out j z z' h1 h2
     · have h4 := (List.getElem?_eq_some_iff.1 h2).1
       rw [List.length_append, HL.out] at h4
       have h5 : j = k := by simp only [List.length_singleton] at h4; omega
       subst h5
       rw [List.getElem?_append_right (by rw [HL.out]; omega), HL.out, Nat.sub_self] at h2
       have e1 := hy.out
       rw [h1] at e1
       injection e1 with e1
       injection h2 with h2
       rw [e1, ← h2]
       exact hr)
    clear d0 c0 HC HO HR HA he b3 hr K2 hb2 hD hU
    go_wp2_with (at_builtin; refine wpList_append_own _ rfl _ _ 63 rfl w.heap.size 67 i0 (.agg #[.slice none 0 0]) 1 24 Tryz.underlying63 hi0 hz0 hz1 hz2 rfl (by decide) _ _ _ rfl (O2.out.alloc _) ⟨_, 0, none⟩ 1 1 (enW y') rfl rfl (elit_get _ _ _) (one17_Way _) hn3 hn4 (le_alloc hsz2 _) ?_; intro v1 w5 hown2 hgrow _)
    have ba := Below.alloc (Below.refl w2.heap.size w2) (Nat.le_refl _) (.cells (enW y').toArray 67)
    refine ⟨⟨k + 1, l' ++ [y'], by go_num, by omega, ?_, hid (by rw [List.length_append, HL.out]; rfl), HR2, hid (fun z hz => S.grow _ _ _ _ _ _ _ _ (S.keep _ _ _ _ (HE2.out z hz) (Abv.of ba)) (O2.out.alloc _) hgrow), hid ((hB2.trans (ba.mono hsz2)).grown hgrow (le_alloc hsz2 _) (fun k hk => (O2.out.lt k hk).1))⟩, by simp [intOf]; omega⟩
    rw [ecells_snoc]
    exact hid hown2
  · obtain rfl : k = l.length := by omega
    have b2 : ¬ (l.length : Int) < l.length := by omega
    go_wp2_with fail
    go_ret
    exact ⟨_, l', rfl, HO.out, HL.out, HR.out, HA.out, HB.out⟩
end Go.Proofs.YtgmgccepmalahaaGreat
namespace Go.Proofs.YtgmgccepmalahaaGreat
open Go.RowKit
open Whn (Gr Wh)
theorem own_keep17 {w w' : World} {base : Nat} {e : TypeId} {size : Nat} {v : Value} {n : Nat} {xs : List Value} (h : w.ownsRow base e size v n xs) (hk : ∀ k, v.ownBlock = some k → w'.heap[k]? = w.heap[k]?) : w'.ownsRow base e size v n xs := by
 refine ⟨h.1, ?_⟩
 rcases h.2 with h1 | ⟨g, cap, cur, rfl, hb, hg, h2⟩
 · exact .inl h1
 · exact .inr ⟨g, cap, cur, rfl, hb, (hk g rfl).trans hg, h2⟩
theorem own_grown17 {w w' : World} {b b2 T T2 K K2 n n2 : Nat} {v v2 : Value} {xs ys : List Value} (h : w.ownsRow b T K v n xs) (h2 : w.ownsRow b2 T2 K2 v2 n2 ys) (hT : T ≠ T2) (hg : w.grownBy w' v2.ownBlock) : w'.ownsRow b T K v n xs :=
 own_keep17 h fun k hk => hg.block k (h.lt k hk).2 (fun e => by
  rcases own_typed h2 h (fun e => hT e.symm) with h3 | h3
  · rw [h3] at hk; cases hk
  · exact h3 (hk.trans e))
def ClnQ (T K n : Nat) (xs : List Value) : CpQ := fun b A m c X => m = n ∧ X.ownsRow b T K (.slice A m c) m xs
theorem ClnQ_ok (T K n : Nat) (xs : List Value) : CpOk (ClnQ T K n xs) := ⟨fun _ _ _ _ _ _ h ha => ⟨h.1, own_abv h.2 ha⟩, fun _ _ _ _ _ _ h hb => ⟨h.1, own_mono h.2 hb⟩⟩
theorem ClnRet.cp {T K n : Nat} {xs : List Value} {w w' : World} {e : Ending} (h : ClnRet T K n xs w e w') : CpRet (ClnQ T K n xs) w e w' := by
 obtain ⟨v, rfl, ho, hb⟩ := h
 rcases ho.2 with ⟨rfl, h0⟩ | ⟨g, cap, cur, rfl, _⟩
 · exact ⟨none, 0, 0, rfl, ⟨h0.symm, by subst h0; exact ho⟩, hb⟩
 · exact ⟨_, _, _, rfl, ⟨rfl, ho⟩, hb⟩
def OwE {α : Type} (T K : Nat) (v : α → Value) (n : α → Nat) (xs : α → List Value) : ElQ α := fun b y X => X.ownsRow b T K (v y) (n y) (xs y)
theorem OwE_ok {α : Type} {T K T2 K2 : Nat} {v : α → Value} {n : α → Nat} {xs : α → List Value} (hT : T ≠ T2) : ElOk (OwE T K v n xs) T2 K2 :=
 ⟨fun _ _ _ _ h ha => own_abv h ha, fun _ _ _ _ h hb => own_mono h hb, fun _ _ _ _ _ _ _ _ h h2 hg => own_grown17 h h2 hT hg⟩
abbrev RmE : ElQ RmA := OwE 55 4 (fun y => .slice y.a y.r.l.length y.c) (fun y => y.r.l.length) (fun y => ecells wc y.r.l)
theorem p_copyRoom (y : RmA) (hm : y.r.l.length * 24 ≤ 140737488355328) (w : World) (h : Es wc w w.heap.size y.a y.r.l) :
    Calls Tryz.prog 70 #[rvA y] w (ElRet (fun y => rvA y) (fun x z => z.r = x.r) RmE y w) := by
 refine (p_copyRoomG y.r.n y.r.s (y.r.g : Int) y.a y.r.l.length y.c w _ (ClnQ_ok 55 4 y.r.l.length (ecells wc y.r.l)) (fun X hX => (p_CloneWhens y.a y.c y.r.l hm X ((h.below hX (Nat.le_refl _)).more hX.size)).mono fun _ _ h => h.cp)).mono ?_
 rintro e w' ⟨A, n, d, rfl, ⟨rfl, ho⟩, hb⟩
 exact ⟨⟨y.r, A, d⟩, rfl, rfl, ho, hb⟩
abbrev PsE : ElQ PsA := OwE 55 4 (fun y => .slice y.a y.r.l.length y.c) (fun y => y.r.l.length) (fun y => ecells wc y.r.l)
theorem p_copyPerson (y : PsA) (hm : y.r.l.length * 24 ≤ 140737488355328) (w : World) (h : Es wc w w.heap.size y.a y.r.l) :
    Calls Tryz.prog 74 #[pvA y] w (ElRet (fun y => pvA y) (fun x z => z.r = x.r) PsE y w) := by
 refine (p_copyPersonG y.r.n y.a y.r.l.length y.c w _ (ClnQ_ok 55 4 y.r.l.length (ecells wc y.r.l)) (fun X hX => (p_CloneWhens y.a y.c y.r.l hm X ((h.below hX (Nat.le_refl _)).more hX.size)).mono fun _ _ h => h.cp)).mono ?_
 rintro e w' ⟨A, n, d, rfl, ⟨rfl, ho⟩, hb⟩
 exact ⟨⟨y.r, A, d⟩, rfl, rfl, ho, hb⟩
abbrev StE : ElQ StA := OwE 3 1 (fun y => .slice y.a y.x.l.length y.c) (fun y => y.x.l.length) (fun y => y.x.l.map (Value.int .i64))
theorem p_copyStudent (y : StA) (hm : y.x.l.length * 8 ≤ 140737488355328) (w : World) (h : Its w w.heap.size y.a y.x.l) :
    Calls Tryz.prog 80 #[stv y.x y.a y.c] w (ElRet (fun y => stv y.x y.a y.c) (fun x z => z.x = x.x) StE y w) := by
 refine (p_copyStudentG y.x.n y.a y.x.l.length y.c w _ (ClnQ_ok 3 1 y.x.l.length (y.x.l.map (Value.int .i64))) (fun X hX => (p_CloneInts y.a y.c y.x.l hm X ((h.below hX (Nat.le_refl _)).more hX.size)).mono fun _ _ h => h.cp)).mono ?_
 rintro e w' ⟨A, n, d, rfl, ⟨rfl, ho⟩, hb⟩
 exact ⟨⟨y.x, A, d⟩, rfl, rfl, ho, hb⟩
abbrev RlE : ElQ RlA := OwE 3 1 (fun y => .slice y.r y.x.l.length y.c) (fun y => y.x.l.length) (fun y => y.x.l.map (Value.int .i64))
theorem p_copyRule (y : RlA) (hm : y.x.l.length * 8 ≤ 140737488355328) (w : World) (h : Its w w.heap.size y.r y.x.l) :
    Calls Tryz.prog 82 #[rlv y.x y.r y.c] w (ElRet (fun y => rlv y.x y.r y.c) (fun x z => z.x = x.x) RlE y w) := by
 refine (p_copyRuleG y.x.k y.x.a y.x.b y.x.h y.x.c y.r y.x.l.length y.c w _ (ClnQ_ok 3 1 y.x.l.length (y.x.l.map (Value.int .i64))) (fun X hX => (p_CloneInts y.r y.c y.x.l hm X ((h.below hX (Nat.le_refl _)).more hX.size)).mono fun _ _ h => h.cp)).mono ?_
 rintro e w' ⟨A, n, d, rfl, ⟨rfl, ho⟩, hb⟩
 exact ⟨⟨y.x, A, d⟩, rfl, rfl, ho, hb⟩
abbrev ItE : ElQ ItA := OwE 3 1 (fun y => .slice y.a y.l.length y.c) (fun y => y.l.length) (fun y => y.l.map (Value.int .i64))
theorem p_copyInts (y : ItA) (hm : y.l.length * 8 ≤ 140737488355328) (w : World) (h : Its w w.heap.size y.a y.l) :
    Calls Tryz.prog 72 #[.slice y.a y.l.length y.c] w (ElRet (fun y => .slice y.a y.l.length y.c) (fun x z => z.l = x.l) ItE y w) := by
 refine (p_CloneInts y.a y.c y.l hm w h).mono ?_
 rintro e w' h
 obtain ⟨A, n, d, rfl, ⟨rfl, ho⟩, hb⟩ := h.cp
 exact ⟨⟨y.l, A, d⟩, rfl, rfl, ho, hb⟩
end Go.Proofs.YtgmgccepmalahaaGreat
namespace Go.Proofs.YtgmgccepmalahaaGreat
open Go.RowKit
open Whn (Gr Wh)
def ClE : ElQ ClA := fun b y X => X.ownsRow b 3 1 (.slice y.r.a y.x.p.length y.r.ac) y.x.p.length (y.x.p.map (Value.int .i64)) ∧ X.ownsRow b 122 5 (.slice y.r.b y.x.t.length y.r.bc) y.x.t.length (ecells enT y.x.t) ∧ X.ownsRow b 124 2 (.slice y.r.c y.x.l.length y.r.cc) y.x.l.length (ecells enP y.x.l)
theorem ClE_ok {T2 K2 : Nat} (h0 : 3 ≠ T2) (h1 : 122 ≠ T2) (h2 : 124 ≠ T2) : ElOk ClE T2 K2 :=
 ⟨fun _ _ _ _ h ha => ⟨own_abv h.1 ha, own_abv h.2.1 ha, own_abv h.2.2 ha⟩, fun _ _ _ _ h hb => ⟨own_mono h.1 hb, own_mono h.2.1 hb, own_mono h.2.2 hb⟩,
  fun _ _ _ _ _ _ _ _ h g hg => ⟨own_grown17 h.1 g h0 hg, own_grown17 h.2.1 g h1 hg, own_grown17 h.2.2 g h2 hg⟩⟩
theorem p_copyClass (y : ClA) (hp : y.x.p.length * 8 ≤ 140737488355328) (ht : y.x.t.length * 32 ≤ 140737488355328) (hl : y.x.l.length * 16 ≤ 140737488355328) (w : World) (h : Clw w w.heap.size y.x y.r) :
    Calls Tryz.prog 76 #[cvA y] w (ElRet (fun y => cvA y) (fun x z => z.x = x.x) ClE y w) := by
 obtain ⟨g0, g1, g2⟩ := h
 refine (p_copyClassG y.x.n y.x.s (y.x.g : Int) y.x.o y.r.a y.x.p.length y.r.ac y.r.b y.x.t.length y.r.bc y.r.c y.x.l.length y.r.cc w
  _ (ClnQ_ok 3 1 y.x.p.length (y.x.p.map (Value.int .i64))) _ (ClnQ_ok 122 5 y.x.t.length (ecells enT y.x.t)) _ (ClnQ_ok 124 2 y.x.l.length (ecells enP y.x.l))
  (fun X hX => (p_CloneInts y.r.a y.r.ac y.x.p hp X ((g0.below hX (Nat.le_refl _)).more hX.size)).mono fun _ _ h => h.cp)
  (fun X hX => (p_CloneTimes y.r.b y.r.bc y.x.t ht X ((g1.below hX (Nat.le_refl _)).more hX.size)).mono fun _ _ h => h.cp)
  (fun X hX => (p_ClonePlaces y.r.c y.r.cc y.x.l hl X ((g2.below hX (Nat.le_refl _)).more hX.size)).mono fun _ _ h => h.cp)).mono ?_
 rintro e w' ⟨A0, n0, d0, A1, n1, d1, A2, n2, d2, rfl, ⟨rfl, o0⟩, ⟨rfl, o1⟩, ⟨rfl, o2⟩, hb⟩
 exact ⟨⟨y.x, ⟨A0, d0, A1, d1, A2, d2⟩⟩, rfl, rfl, ⟨o0, o1, o2⟩, hb⟩
end Go.Proofs.YtgmgccepmalahaaGreat
